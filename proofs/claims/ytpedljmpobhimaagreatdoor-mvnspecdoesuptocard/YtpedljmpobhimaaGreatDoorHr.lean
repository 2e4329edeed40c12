/-
  Walks: whether a requirement can be; which versions it wants.
-/
import Derived.Test.YtpedljmpobhimaaGreatDoorHn
import Derived.Test.YtpedljmpobhimaaGreatDoorFf
namespace Go.Proofs.YtpedljmpobhimaaGreatDoor
open Go.RowKit Go.Shelf
set_option linter.unusedVariables false

theorem pa_len (l : List UInt8) : (paL l).ms.length ≤ 32 := by
  by_cases h : (paL l).err = 0
  · unfold paL at h ⊢
    split <;> rename_i h1
    · simp
    · rw [if_neg h1] at h
      split <;> rename_i h2
      · rw [if_pos h2] at h
        split <;> rename_i h3
        · simp
        · obtain ⟨ms, e1, e2, e3, e4, e5⟩ := fold_good 32 (blN l) (l.drop (blN l)) ⟨[], blN l, 0⟩ (Decidable.not_not.1 h3)
          have e2' : (allF l).ms = ms := e2
          dsimp only
          rw [e2']
          exact e3
      · rw [if_neg h2] at h
        rw [(read_soft h).2]
        simp
  · rw [(read_no h).2]; simp

set_option maxRecDepth 100000 in
set_option maxHeartbeats 4000000 in
theorem Fit_any (t : List UInt8) (v : Value) (ms : List Mr) (w : World) (hv : Mrs w v ms) (hs : Small ms) (hk : Kn w) :
    Calls Tryz.prog 13 #[.agg #[.string (ofL t), v]] w fun e w' => e = .returned (.bool (fitL t ms)) ∧ Below w.heap.size w w' := by
  have WA := hide (fun W hv => write_any t v ms W hv hs)
  have PA := fun W hW => Parse_any (ofL (wrL t ms)) W hW
  rw [ofL_data] at PA
  replace PA := hide PA
  have hPL := pa_len (wrL t ms)
  have hX : fitL t ms = (decide ((paL (wrL t ms)).err = 0) && ((paL (wrL t ms)).soft == t) && ((paL (wrL t ms)).ms == ms)) := rfl
  have HX := hide hX
  clear hX
  generalize fitL t ms = X at *
  generalize paL (wrL t ms) = P at *
  obtain ⟨a0, c0, rfl, _⟩ := id hv
  have HV := hide hv
  have hB0 := hide ((Below.refl _ w).alloc (Nat.le_refl _) (.cells #[.string (ofL t), .slice a0 ms.length c0] 24))
  have N0 := hide (World.alloc_heap_new w (.cells #[.string (ofL t), .slice a0 ms.length c0] 24))
  have HK := hide hk
  clear hv hk hs
  go_enter Tryz.func13, Tryz.ntmps13
  go_wp2_with fail
  generalize w.alloc (.cells #[.string (ofL t), .slice a0 ms.length c0] 24) = W0 at *
  refine (WA.out _ (HV.out.below hB0.out)).mono ?_
  rintro e w1 ⟨rfl, b1⟩
  have hk1 := (HK.out.below HK.out.pos hB0.out)
  have hk1 := hk1.below hk1.pos b1
  have hb1 := hB0.out.trans (b1.mono hB0.out.size)
  have n1 := (b1.block _ (Array.getElem?_eq_some_iff.1 N0.out).1).trans N0.out
  clear b1 hB0 N0 WA
  go_wp2_with fail
  refine (PA.out _ hk1).mono ?_
  rintro e w2 ⟨v2, rfl, hm, b2⟩
  obtain ⟨a2, c2, rfl, _⟩ := id hm
  have hb2 := hb1.trans (b2.mono hb1.size)
  have n2 := (b2.block _ (Array.getElem?_eq_some_iff.1 n1).1).trans n1
  have hlt2 := (Array.getElem?_eq_some_iff.1 n2).1
  have hb3 := (hb2.alloc hb2.size (.cells #[.string (ofL P.soft), .slice a2 P.ms.length c2] 24)).alloc (by rw [World.size_alloc]; have := hb2.size; omega) (.cells #[.int .i64 P.err, .int .i64 (P.at' : Int)] 27)
  have b23 := ((Below.refl _ w2).alloc (Nat.le_refl _) (.cells #[.string (ofL P.soft), .slice a2 P.ms.length c2] 24)).alloc (by simp) (.cells #[.int .i64 P.err, .int .i64 (P.at' : Int)] 27)
  have n3 := (b23.block _ hlt2).trans n2
  have m3 := hide (hm.mrs.below b23)
  have k27 := World.alloc_heap_new (w2.alloc (.cells #[.string (ofL P.soft), .slice a2 P.ms.length c2] 24)) (.cells #[.int .i64 P.err, .int .i64 (P.at' : Int)] 27)
  rw [World.size_alloc] at k27
  have k24 := ((Below.refl _ (w2.alloc (.cells #[.string (ofL P.soft), .slice a2 P.ms.length c2] 24))).alloc (Nat.le_refl _) (.cells #[.int .i64 P.err, .int .i64 (P.at' : Int)] 27)).block w2.heap.size (by simp)
  rw [World.alloc_heap_new] at k24
  have x0 : ((w2.alloc (.cells #[.string (ofL P.soft), .slice a2 P.ms.length c2] 24)).alloc (.cells #[.int .i64 P.err, .int .i64 (P.at' : Int)] 27)).cell? ⟨w.heap.size, 0, none⟩ = some (.string (ofL t)) := cell_at 0 n3 rfl
  have x1 : ((w2.alloc (.cells #[.string (ofL P.soft), .slice a2 P.ms.length c2] 24)).alloc (.cells #[.int .i64 P.err, .int .i64 (P.at' : Int)] 27)).cell? ⟨w.heap.size, 1, none⟩ = some (.slice a0 ms.length c0) := cell_at 1 n3 rfl
  have HB3 := hide hb3
  have EQ := hide (Equal_any a2 a0 P.ms.length ms.length c2 c0 P.ms ms (by omega) ((w2.alloc (.cells #[.string (ofL P.soft), .slice a2 P.ms.length c2] 24)).alloc (.cells #[.int .i64 P.err, .int .i64 (P.at' : Int)] 27)) m3.out (HV.out.below hb3))
  clear k24 k27 n3 n2 n1 hm b2 hb2 hb1 hk1 hlt2 b23 PA m3 hb3
  by_cases he : P.err = 0
  · have hb : (P.err == 0) = true := by simpa using he
    rw [decide_eq_true he] at HX
    clear he
    by_cases ht : P.soft = t
    · have hE : ((ofL P.soft).toList == (ofL t).toList) = true := by rw [ht]; simp
      have HX2 : Hid (X = decide (P.ms = ms)) := by show _ = _; rw [HX.out, ht, Bool.eq_iff_iff]; simp
      clear ht HX
      go_wp2_with fail
      refine EQ.out.mono ?_
      rintro e w4 ⟨rfl, b4⟩
      go_wp2_with fail
      go_ret
      exact ⟨by rw [HX2.out]; rfl, HB3.out.trans (b4.mono HB3.out.size)⟩
    · have hE : ((ofL P.soft).toList == (ofL t).toList) = false := by rw [toL, toL, ofL_data, ofL_data]; simpa using ht
      have HX2 : Hid (X = false) := by show _ = _; rw [HX.out]; simp [ht]
      clear ht HX EQ
      go_wp2_with fail
      go_ret
      exact ⟨by rw [HX2.out]; rfl, HB3.out⟩
  · have hb : (P.err == 0) = false := by simpa using he
    have HX2 : Hid (X = false) := by show _ = _; rw [HX.out]; simp [he]
    clear he HX EQ
    go_wp2_with fail
    go_ret
    exact ⟨by rw [HX2.out]; first | rfl | (rw [hb]; rfl) | simp [hb], HB3.out⟩

theorem okV_len {v : List UInt8} (h : OkV v) : v.length ≤ 64 := by
  rcases h with rfl | h
  · simp
  · exact (ver_parts h).2.1
theorem goodC_mem : ∀ (ms acc : List Mr), GoodC acc ms → ∀ m ∈ ms, Good m
  | [], _, _, m, hm => by cases hm
  | x :: r, acc, h, m, hm => by
    rcases List.mem_cons.1 hm with rfl | hm
    · exact h.1
    · exact goodC_mem r _ h.2.2 m hm
theorem pa_small (l : List UInt8) : Small (paL l).ms := by
  refine ⟨by have := pa_len l; omega, ?_⟩
  by_cases h : (paL l).err = 0
  · unfold paL at h ⊢
    split <;> rename_i h1
    · intro m hm; cases hm
    · rw [if_neg h1] at h
      split <;> rename_i h2
      · rw [if_pos h2] at h
        split <;> rename_i h3
        · intro m hm; cases hm
        · obtain ⟨ms, e1, e2, e3, e4, e5⟩ := fold_good 32 (blN l) (l.drop (blN l)) ⟨[], blN l, 0⟩ (Decidable.not_not.1 h3)
          have e2' : (allF l).ms = ms := e2
          dsimp only
          rw [e2']
          intro m hm
          have g := goodC_mem ms _ e4 m hm
          have := okV_len g.vlo
          have := okV_len g.vhi
          omega
      · rw [if_neg h2] at h
        rw [(read_soft h).2]
        intro m hm; cases hm
  · rw [(read_no h).2]; intro m hm; cases hm

theorem clo_any (m : Mr) (B : Nat) (v : ByteArray) (w : World) (hb : Boxed w B 9 (.string v)) (hk : Kn w) :
    Calls Tryz.prog 36 #[mV m, .pointer (some ⟨B, 0, none⟩)] w fun e w' => e = .returned (.bool (liesL v.data.toList m)) ∧ Below w.heap.size w w' := by
  have LI := hide (fun W hW => liesIn_any v m W hW)
  unfold mV at LI ⊢
  have hlt := hb.lt
  have c0 := (hb.alloc (.cells #[.bool m.hasLo, .string (ofL m.lo), .bool m.loIn, .bool m.hasHi, .string (ofL m.hi), .bool m.hiIn] 54)).cell
  have HB := hide ((Below.refl _ w).alloc (Nat.le_refl _) (.cells #[.bool m.hasLo, .string (ofL m.lo), .bool m.loIn, .bool m.hasHi, .string (ofL m.hi), .bool m.hiIn] 54))
  have hk1 := hide (hk.alloc (.cells #[.bool m.hasLo, .string (ofL m.lo), .bool m.loIn, .bool m.hasHi, .string (ofL m.hi), .bool m.hiIn] 54))
  clear hb hk
  go_enter Tryz.func36, Tryz.ntmps36
  go_wp2_with fail
  refine (LI.out _ hk1.out).mono ?_
  rintro e w1 ⟨rfl, b1⟩
  go_wp2_with fail
  go_ret
  exact ⟨rfl, HB.out.trans (b1.mono HB.out.size)⟩

set_option maxRecDepth 100000 in
set_option maxHeartbeats 4000000 in
theorem IndexFunc_any (a : Option Addr) (n c : Nat) (ms : List Mr) (B : Nat) (v : ByteArray) (w : World) (hv : Mrs w (.slice a n c) ms) (hn : n ≤ 2000000) (hb : Boxed w B 9 (.string v)) (hk : Kn w) :
    Calls Tryz.prog 59 #[.slice a n c, .func (.func 36) #[] #[.pointer (some ⟨B, 0, none⟩)]] w fun e w' => (∃ z : Int, e = .returned (.int .i64 z) ∧ decide (0 ≤ z) = ms.any (liesL v.data.toList)) ∧ Below w.heap.size w w' := by
  have HN := hide (mrs_n hv)
  have HV := hide hv
  have HK := hide hk
  have HBX := hide hb
  clear hv hk hb
  go_enter Tryz.func59, Tryz.ntmps59
  go_wp2_with fail
  go_loopw [8] (fun x wr => ∃ i : Nat, i ≤ n ∧ x = .int .i64 i ∧ Below w.heap.size w wr ∧ Hid ((ms.take i).any (liesL v.data.toList) = false)) (fun x _ => n - (intOf x).toNat)
  case atStart => exact ⟨0, by omega, rfl, Below.refl _ _, rfl⟩
  case round =>
    obtain ⟨i, hin, rfl, hB, hF⟩ := hrel
    by_cases hlt : i < n
    · have hlt' : (i : Int) < (n : Int) := by omega
      have i1 : i < ms.length := by rw [HN.out]; exact hlt
      obtain ⟨b1, o1, rfl, q1, d1⟩ := mrs_at (HV.out.below hB) (by omega)
      obtain ⟨e0, e1, e2, e3, e4, e5⟩ := d1.six i _ (List.getElem?_eq_getElem i1)
      have hbx : Boxed wr B 9 (.string v) := (hB.block B HBX.out.lt).trans HBX.out
      have CL := clo_any ms[i] B v wr hbx (HK.out.below HK.out.pos hB)
      unfold mV at CL
      have HT : Hid ((ms.take (i + 1)).any (liesL v.data.toList) = liesL v.data.toList ms[i]) := by
        show _ = _
        rw [List.take_succ_eq_append_getElem i1, List.any_append, hF.out]
        simp
      have HA : Hid (liesL v.data.toList ms[i] = true → ms.any (liesL v.data.toList) = true) := fun h => List.any_eq_true.2 ⟨ms[i], List.getElem_mem i1, h⟩
      generalize liesL v.data.toList ms[i] = L at *
      generalize ms[i] = x at *
      have CH := hide CL
      clear CL d1 i1 hbx
      go_wp2_with fail
      refine CH.out.mono ?_
      rintro e w2 ⟨rfl, b2⟩
      have hB2 := hB.trans (b2.mono hB.size)
      cases L with
      | true =>
        go_wp2_with fail
        go_ret
        exact ⟨⟨_, rfl, by rw [HA.out (by first | rfl | trivial), decide_eq_true (by omega)]⟩, hB2⟩
      | false =>
        go_wp2_with fail
        go_roundw
        case rel => exact ⟨i + 1, by omega, by go_num, hB2, HT⟩
        case measure => simp [intOf]; omega
    · have hlt' : ¬ (i : Int) < (n : Int) := by omega
      have HF : Hid (ms.any (liesL v.data.toList) = false) := by
        show _ = _
        have := hF.out
        rwa [List.take_of_length_le (by rw [HN.out]; omega)] at this
      go_wp2_with fail
      go_ret
      exact ⟨⟨_, rfl, by rw [HF.out]; rfl⟩, hB⟩
theorem Contains_any (a : Option Addr) (n c : Nat) (ms : List Mr) (B : Nat) (v : ByteArray) (w : World) (hv : Mrs w (.slice a n c) ms) (hn : n ≤ 2000000) (hb : Boxed w B 9 (.string v)) (hk : Kn w) :
    Calls Tryz.prog 35 #[.slice a n c, .func (.func 36) #[] #[.pointer (some ⟨B, 0, none⟩)]] w fun e w' => e = .returned (.bool (ms.any (liesL v.data.toList))) ∧ Below w.heap.size w w' := by
  have IX := hide (IndexFunc_any a n c ms B v w hv hn hb hk)
  clear hv hb hk
  go_enter Tryz.func35, Tryz.ntmps35
  go_wp2_with fail
  refine IX.out.mono ?_
  rintro e w1 ⟨⟨z, rfl, hz⟩, b1⟩
  have HZ := hide hz
  clear hz
  go_wp2_with fail
  go_ret
  exact ⟨ret_b HZ.out, b1⟩

end Go.Proofs.YtpedljmpobhimaaGreatDoor

/-
  Walks: Wants, Match.
-/
namespace Go.Proofs.YtpedljmpobhimaaGreatDoor
open Go.RowKit Go.Shelf
set_option linter.unusedVariables false

set_option maxRecDepth 100000 in
set_option maxHeartbeats 4000000 in
theorem Wants_any (t : List UInt8) (v : Value) (ms : List Mr) (u : ByteArray) (w : World) (hv : Mrs w v ms) (hs : Small ms) (hk : Kn w) :
    Calls Tryz.prog 17 #[.agg #[.string (ofL t), v], .string u] w fun e w' => e = .returned (.bool (wantL t ms u.data.toList)) ∧ Below w.heap.size w w' := by
  have FI := hide (fun W hv hk => Fit_any t v ms W hv hs hk)
  have IV := hide (fun W hk => isVersion_any u W hk)
  have hX : wantL t ms u.data.toList = (fitL t ms && isVer u.data.toList && (decide (t ≠ []) || ms.any (liesL u.data.toList))) := rfl
  have hne := empty_at t
  have CO := hide (fun a c B W (hm : Mrs W (.slice a ms.length c) ms) hb hk => Contains_any a ms.length c ms B u W hm hs.1 hb hk)
  generalize wantL t ms u.data.toList = X at *
  generalize fitL t ms = F at *
  generalize isVer u.data.toList = V at *
  generalize ms.any (liesL u.data.toList) = A at *
  generalize decide (t ≠ []) = T at *
  have HX := hide hX
  obtain ⟨a0, c0, rfl, _⟩ := id hv
  have HV := hide hv
  have k1 := World.alloc_heap_new (w.alloc (.cells #[.string (ofL t), .slice a0 ms.length c0] 24)) (.cells #[.string u] 9)
  rw [World.size_alloc] at k1
  have k0 := (Below.heap_alloc (w.alloc (.cells #[.string (ofL t), .slice a0 ms.length c0] 24)) (.cells #[.string u] 9) w.heap.size (by simp)).trans (World.alloc_heap_new w (.cells #[.string (ofL t), .slice a0 ms.length c0] 24))
  have hB0 := hide (((Below.refl _ w).alloc (Nat.le_refl _) (.cells #[.string (ofL t), .slice a0 ms.length c0] 24)).alloc (by simp) (.cells #[.string u] 9))
  have HK := hide ((hk.alloc (.cells #[.string (ofL t), .slice a0 ms.length c0] 24)).alloc (.cells #[.string u] 9))
  have N0 := hide k0
  have N1 := hide k1
  clear hv hk hs hX k0 k1
  go_enter Tryz.func17, Tryz.ntmps17
  go_wp2_with fail
  generalize (w.alloc (.cells #[.string (ofL t), .slice a0 ms.length c0] 24)).alloc (.cells #[.string u] 9) = W0 at *
  refine (FI.out _ (HV.out.below hB0.out) HK.out).mono ?_
  rintro e w1 ⟨rfl, b1⟩
  have hb1 := hB0.out.trans (b1.mono hB0.out.size)
  have n0 := (b1.block _ (Array.getElem?_eq_some_iff.1 N0.out).1).trans N0.out
  have n1 := (b1.block _ (Array.getElem?_eq_some_iff.1 N1.out).1).trans N1.out
  have hk1 := hide (HK.out.below HK.out.pos b1)
  have HN0 := hide n0
  have HN1 := hide n1
  have HB1 := hide hb1
  have y0 : w1.cell? ⟨w.heap.size, 0, none⟩ = some (.string (ofL t)) := cell_at 0 n0 rfl
  have y1 : w1.cell? ⟨w.heap.size, 1, none⟩ = some (.slice a0 ms.length c0) := cell_at 1 n0 rfl
  have y2 : w1.cell? ⟨w.heap.size + 1, 0, none⟩ = some (.string u) := cell_at 0 n1 rfl
  clear b1 hb1 n0 n1 HK N0 N1 hB0 FI
  cases F with
  | false =>
    have HX2 : Hid (X = false) := by show _ = _; rw [HX.out]; rfl
    go_wp2_with fail
    go_ret
    exact ⟨by rw [HX2.out]; rfl, HB1.out⟩
  | true =>
    go_wp2_with fail
    refine (IV.out _ hk1.out).mono ?_
    rintro e w2 ⟨rfl, b2⟩
    have hb2 := HB1.out.trans (b2.mono HB1.out.size)
    have n0 := (b2.block _ (Array.getElem?_eq_some_iff.1 HN0.out).1).trans HN0.out
    have n1 := (b2.block _ (Array.getElem?_eq_some_iff.1 HN1.out).1).trans HN1.out
    have hk2 := hide (hk1.out.below hk1.out.pos b2)
    have HM1 := hide n1
    have HB2 := hide hb2
    have z0 : w2.cell? ⟨w.heap.size, 0, none⟩ = some (.string (ofL t)) := cell_at 0 n0 rfl
    have z1 : w2.cell? ⟨w.heap.size, 1, none⟩ = some (.slice a0 ms.length c0) := cell_at 1 n0 rfl
    clear b2 hb2 n0 n1 HN0 HN1 HB1 y0 y1 y2
    cases V with
    | false =>
      have HX2 : Hid (X = false) := by show _ = _; rw [HX.out]; rfl
      go_wp2_with fail
      go_ret
      exact ⟨by rw [HX2.out]; rfl, HB2.out⟩
    | true =>
      cases T with
      | true =>
        have HX2 : Hid (X = true) := by show _ = _; rw [HX.out]; rfl
        go_wp2_with fail
        go_ret
        exact ⟨by rw [HX2.out]; rfl, HB2.out⟩
      | false =>
        have HX2 : Hid (X = A) := by show _ = _; rw [HX.out]; rfl
        have CQ := hide (CO.out a0 c0 (w.heap.size + 1) w2 (HV.out.below HB2.out) HM1.out hk2.out)
        go_wp2_with fail
        refine CQ.out.mono ?_
        rintro e w3 ⟨rfl, b3⟩
        go_wp2_with fail
        go_ret
        exact ⟨by rw [HX2.out]; rfl, HB2.out.trans (b3.mono HB2.out.size)⟩

set_option maxRecDepth 100000 in
set_option maxHeartbeats 2000000 in
theorem Match_any (s u : ByteArray) (w : World) (hk : Kn w) :
    Calls Tryz.prog 9 #[.string s, .string u] w fun e w' => e = .returned (.bool (matchL s.data.toList u.data.toList)) ∧ Below w.heap.size w w' := by
  have PA := hide (Parse_any s w hk)
  have HS := hide (pa_small s.data.toList)
  have hX : matchL s.data.toList u.data.toList = wantL (paL s.data.toList).soft (paL s.data.toList).ms u.data.toList := rfl
  rw [hX]
  generalize paL s.data.toList = P at *
  have WA := hide (fun v W (hv : Mrs W v P.ms) hk => Wants_any P.soft v P.ms u W hv HS.out hk)
  go_enter Tryz.func9, Tryz.ntmps9
  go_wp2_with fail
  refine PA.out.mono ?_
  rintro e w1 ⟨v, rfl, hm, b1⟩
  obtain ⟨a, c, rfl, _⟩ := id hm
  have hB := hide ((b1.alloc b1.size (.cells #[.string (ofL P.soft), .slice a P.ms.length c] 24)).alloc (by rw [World.size_alloc]; have := b1.size; omega) (.cells #[.int .i64 P.err, .int .i64 (P.at' : Int)] 27))
  have hM := hide (hm.mrs.below (((Below.refl _ w1).alloc (Nat.le_refl _) (.cells #[.string (ofL P.soft), .slice a P.ms.length c] 24)).alloc (by simp) (.cells #[.int .i64 P.err, .int .i64 (P.at' : Int)] 27)))
  have hK := hide (hk.below hk.pos hB.out)
  clear hm b1 hk PA
  go_wp2_with fail
  refine (WA.out _ _ hM.out hK.out).mono ?_
  rintro e w2 ⟨rfl, b2⟩
  go_wp2_with fail
  go_ret
  exact ⟨rfl, hB.out.trans (b2.mono hB.out.size)⟩

end Go.Proofs.YtpedljmpobhimaaGreatDoor

/-
  Walks: chapter 9's examples.
-/
namespace Go.Proofs.YtpedljmpobhimaaGreatDoor
open Go.RowKit Go.Shelf
set_option linter.unusedVariables false

theorem ex1 : paL [91, 49, 44, 50, 93, 44, 91, 49, 46, 53, 44, 51, 93] = ⟨21, 6, [], []⟩ := by kernel_rfl
theorem ex2 : paL [91, 49, 44, 50] = ⟨11, 4, [], []⟩ := by kernel_rfl
theorem ex3 : matchL [49, 46, 48] [57] = true := by kernel_rfl
theorem ex4 : matchL [91, 49, 46, 48, 44, 50, 46, 48, 41] [49, 46, 53] = true := by kernel_rfl
theorem ex5 : matchL [91, 49, 46, 48, 44, 50, 46, 48, 41] [50, 46, 48] = false := by kernel_rfl
theorem ex6 : matchL [91, 49, 46, 48, 93] [49] = true := by kernel_rfl
theorem ex7 : matchL [40, 44, 49, 46, 48, 93, 44, 91, 49, 46, 50, 44, 41] [49, 46, 49] = false := by kernel_rfl

/-- Two faults lie in their boxes. -/
structure FF (w W : World) (A B : Nat) : Prop where
  fa : W.heap[A]? = some (.cells #[.int .i64 21, .int .i64 6] 27 (0, 0))
  fb : W.heap[B]? = some (.cells #[.int .i64 11, .int .i64 4] 27 (0, 0))
  bel : Below w.heap.size w W
  kn : Kn W
theorem FF.next {w W W' : World} {A B : Nat} (h : FF w W A B) (hb : Below W.heap.size W W') : FF w W' A B :=
  ⟨(hb.block _ (Array.getElem?_eq_some_iff.1 h.fa).1).trans h.fa, (hb.block _ (Array.getElem?_eq_some_iff.1 h.fb).1).trans h.fb, h.bel.trans (hb.mono h.bel.size), h.kn.below h.kn.pos hb⟩

set_option maxRecDepth 100000 in
set_option maxHeartbeats 4000000 in
theorem awake_any (w : World) (hk : Kn w) :
    Calls Tryz.prog 11 #[] w fun e w' => e = .returned (.bool true) ∧ Below w.heap.size w w' := by
  have P1 := fun W hW => Parse_any ⟨#[91, 49, 44, 50, 93, 44, 91, 49, 46, 53, 44, 51, 93]⟩ W hW
  change ∀ W, Kn W → Calls Tryz.prog 6 _ W (PaPost (paL [91, 49, 44, 50, 93, 44, 91, 49, 46, 53, 44, 51, 93]) W) at P1
  rw [ex1] at P1
  replace P1 := hide P1
  have P2 := fun W hW => Parse_any ⟨#[91, 49, 44, 50]⟩ W hW
  change ∀ W, Kn W → Calls Tryz.prog 6 _ W (PaPost (paL [91, 49, 44, 50]) W) at P2
  rw [ex2] at P2
  replace P2 := hide P2
  have M3 : Hid (∀ W, Kn W → Calls Tryz.prog 9 #[.string ⟨#[49, 46, 48]⟩, .string ⟨#[57]⟩] W fun e w' => e = .returned (.bool true) ∧ Below W.heap.size W w') := fun W hW => by have := Match_any ⟨#[49, 46, 48]⟩ ⟨#[57]⟩ W hW; rw [show matchL _ _ = true from ex3] at this; exact this
  have M4 : Hid (∀ W, Kn W → Calls Tryz.prog 9 #[.string ⟨#[91, 49, 46, 48, 44, 50, 46, 48, 41]⟩, .string ⟨#[49, 46, 53]⟩] W fun e w' => e = .returned (.bool true) ∧ Below W.heap.size W w') := fun W hW => by have := Match_any ⟨#[91, 49, 46, 48, 44, 50, 46, 48, 41]⟩ ⟨#[49, 46, 53]⟩ W hW; rw [show matchL _ _ = true from ex4] at this; exact this
  have M5 : Hid (∀ W, Kn W → Calls Tryz.prog 9 #[.string ⟨#[91, 49, 46, 48, 44, 50, 46, 48, 41]⟩, .string ⟨#[50, 46, 48]⟩] W fun e w' => e = .returned (.bool false) ∧ Below W.heap.size W w') := fun W hW => by have := Match_any ⟨#[91, 49, 46, 48, 44, 50, 46, 48, 41]⟩ ⟨#[50, 46, 48]⟩ W hW; rw [show matchL _ _ = false from ex5] at this; exact this
  have M6 : Hid (∀ W, Kn W → Calls Tryz.prog 9 #[.string ⟨#[91, 49, 46, 48, 93]⟩, .string ⟨#[49]⟩] W fun e w' => e = .returned (.bool true) ∧ Below W.heap.size W w') := fun W hW => by have := Match_any ⟨#[91, 49, 46, 48, 93]⟩ ⟨#[49]⟩ W hW; rw [show matchL _ _ = true from ex6] at this; exact this
  have M7 : Hid (∀ W, Kn W → Calls Tryz.prog 9 #[.string ⟨#[40, 44, 49, 46, 48, 93, 44, 91, 49, 46, 50, 44, 41]⟩, .string ⟨#[49, 46, 49]⟩] W fun e w' => e = .returned (.bool false) ∧ Below W.heap.size W w') := fun W hW => by have := Match_any ⟨#[40, 44, 49, 46, 48, 93, 44, 91, 49, 46, 50, 44, 41]⟩ ⟨#[49, 46, 49]⟩ W hW; rw [show matchL _ _ = false from ex7] at this; exact this
  go_enter Tryz.func11, Tryz.ntmps11
  go_wp2_with fail
  refine (P1.out _ hk).mono ?_
  rintro e w1 ⟨v1, rfl, hm1, b1⟩
  obtain ⟨a1, c1, rfl, _⟩ := id hm1
  have hB1 := (b1.alloc b1.size (.cells #[.string (ofL []), .slice a1 0 c1] 24)).alloc (by rw [World.size_alloc]; have := b1.size; omega) (.cells #[.int .i64 21, .int .i64 6] 27)
  have n1 := World.alloc_heap_new (w1.alloc (.cells #[.string (ofL []), .slice a1 0 c1] 24)) (.cells #[.int .i64 21, .int .i64 6] 27)
  rw [World.size_alloc] at n1
  have HB1 := hide hB1
  have N1 := hide n1
  have hk1 := hide (hk.below hk.pos hB1)
  clear hm1 b1 hB1 n1 hk
  go_wp2_with fail
  generalize (w1.alloc (.cells #[.string (ofL []), .slice a1 0 c1] 24)).alloc (.cells #[.int .i64 21, .int .i64 6] 27) = W1 at *
  generalize w1.heap.size + 1 = A at *
  refine (P2.out _ hk1.out).mono ?_
  rintro e w2 ⟨v2, rfl, hm2, b2⟩
  obtain ⟨a2, c2, rfl, _⟩ := id hm2
  have hB2 := (b2.alloc b2.size (.cells #[.string (ofL []), .slice a2 0 c2] 24)).alloc (by rw [World.size_alloc]; have := b2.size; omega) (.cells #[.int .i64 11, .int .i64 4] 27)
  have n2 := World.alloc_heap_new (w2.alloc (.cells #[.string (ofL []), .slice a2 0 c2] 24)) (.cells #[.int .i64 11, .int .i64 4] 27)
  rw [World.size_alloc] at n2
  have F0 : Hid (FF w ((w2.alloc (.cells #[.string (ofL []), .slice a2 0 c2] 24)).alloc (.cells #[.int .i64 11, .int .i64 4] 27)) A (w2.heap.size + 1)) :=
    ⟨(hB2.block _ (Array.getElem?_eq_some_iff.1 N1.out).1).trans N1.out, n2, HB1.out.trans (hB2.mono HB1.out.size), hk1.out.below hk1.out.pos hB2⟩
  clear hm2 b2 hB2 n2 hk1 HB1 N1
  go_wp2_with fail
  generalize (w2.alloc (.cells #[.string (ofL []), .slice a2 0 c2] 24)).alloc (.cells #[.int .i64 11, .int .i64 4] 27) = W2 at *
  generalize w2.heap.size + 1 = B at *
  refine (M3.out _ F0.out.kn).mono ?_
  rintro e w3 ⟨rfl, b3⟩
  have F3 := hide (F0.out.next b3)
  clear F0 b3
  go_wp2_with fail
  refine (M4.out _ F3.out.kn).mono ?_
  rintro e w4 ⟨rfl, b4⟩
  have F4 := hide (F3.out.next b4)
  clear F3 b4
  go_wp2_with fail
  refine (M5.out _ F4.out.kn).mono ?_
  rintro e w5 ⟨rfl, b5⟩
  have F5 := hide (F4.out.next b5)
  clear F4 b5
  go_wp2_with fail
  refine (M6.out _ F5.out.kn).mono ?_
  rintro e w6 ⟨rfl, b6⟩
  have F6 := hide (F5.out.next b6)
  clear F5 b6
  go_wp2_with fail
  refine (M7.out _ F6.out.kn).mono ?_
  rintro e w7 ⟨rfl, b7⟩
  have F7 := F6.out.next b7
  have q0 : w7.cell? ⟨A, 0, none⟩ = some (.int .i64 21) := cell_at 0 F7.fa rfl
  have q1 : w7.cell? ⟨A, 1, none⟩ = some (.int .i64 6) := cell_at 1 F7.fa rfl
  have q2 : w7.cell? ⟨B, 0, none⟩ = some (.int .i64 11) := cell_at 0 F7.fb rfl
  have q3 : w7.cell? ⟨B, 1, none⟩ = some (.int .i64 4) := cell_at 1 F7.fb rfl
  have HB := hide F7.bel
  clear F7 F6 b7
  go_wp2_with fail
  go_ret
  exact ⟨rfl, HB.out⟩

end Go.Proofs.YtpedljmpobhimaaGreatDoor

/-
  Walks: the document's own word on versions; the law on the order.
-/
namespace Go.Proofs.YtpedljmpobhimaaGreatDoor
open Go.RowKit Go.Shelf
set_option linter.unusedVariables false

theorem RVersion_any (s : ByteArray) (w : World) :
    Calls Tryz.prog 19 #[.string s] w fun e w' => e = .returned (.bool (isVer s.data.toList)) ∧ Below w.heap.size w w' := by
  have C := hide (RTokens_any s w)
  go_enter Tryz.func19, Tryz.ntmps19
  go_wp2_with fail
  refine C.out.mono ?_
  rintro e w1 (⟨x, hx, rfl, b1⟩ | ⟨ts, ao, cv, hx, rfl, _, b1⟩)
  · have hv : isVer s.data.toList = false := by unfold isVer okT; rw [hx]
    have hx0 : (x.1 == 0) = false := by simpa using toks_errs hx
    have HV := hide hv
    clear hx hv
    go_wp2_with fail
    go_ret
    exact ⟨ret_b HV.out.symm, b1.alloc b1.size _⟩
  · have hv : isVer s.data.toList = true := by unfold isVer okT; rw [hx]
    have HV := hide hv
    clear hx hv
    go_wp2_with fail
    go_ret
    exact ⟨ret_b HV.out.symm, b1.alloc b1.size _⟩

/-- What the law asks of a requirement and three versions. -/
theorem order_plain (l a b c : List UInt8) (he : (paL l).err = 0) (ha : isVer a = true) (hb : isVer b = true) (hc : isVer c = true) :
    (cmpT a b = 0 → wantL (paL l).soft (paL l).ms a = wantL (paL l).soft (paL l).ms b) ∧
    ((paL l).ms.length ≤ 1 → cmpT a b ≤ 0 → cmpT b c ≤ 0 → wantL (paL l).soft (paL l).ms a = true → wantL (paL l).soft (paL l).ms c = true → wantL (paL l).soft (paL l).ms b = true) ∧
    ((paL l).ms.length = 0 → wantL (paL l).soft (paL l).ms a = true ∧ wantL (paL l).soft (paL l).ms b = true ∧ wantL (paL l).soft (paL l).ms c = true) := by
  have hf := read_fit he
  have hsoft : (paL l).ms = [] → (paL l).soft ≠ [] := by
    intro h0 h1
    rw [h0, h1] at hf
    rw [fit_none] at hf
    cases hf
  unfold wantL
  rw [hf, ha, hb, hc]
  simp only [Bool.true_and]
  refine ⟨fun h => ?_, fun h1 h2 h3 hx hz => ?_, fun h => ?_⟩
  · have : (paL l).ms.any (liesL a) = (paL l).ms.any (liesL b) := by
      congr 1
      funext m
      exact lies_alike m h
    rw [this]
  · by_cases hs : (paL l).soft = []
    · rw [hs] at hx hz ⊢
      simp only [ne_eq, not_true_eq_false, decide_false, Bool.false_or] at hx hz ⊢
      cases hm : (paL l).ms with
      | nil => rw [hm] at hx; cases hx
      | cons m r =>
        cases r with
        | nil =>
          rw [hm] at hx hz
          simp only [List.any_cons, List.any_nil, Bool.or_false] at hx hz ⊢
          exact lies_between m h2 h3 hx hz
        | cons m2 r2 => rw [hm] at h1; simp at h1
    · simp [hs]
  · have := hsoft (List.length_eq_zero_iff.1 h)
    simp [this]

end Go.Proofs.YtpedljmpobhimaaGreatDoor
