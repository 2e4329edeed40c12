/-
  Walks: whether a requirement can be; which versions it wants.
-/
import Derived.Test.YtpedljmpobhimaaDoorHn
namespace Go.Proofs.YtpedljmpobhimaaDoor
open Go.RowKit Go.Shelf
set_option linter.unusedVariables false

theorem pa_len (l : List UInt8) : (paL l).ms.length ≤ 32 := by
  by_cases h : (paL l).err = 0
  · unfold paL at h ⊢
    split <;> rename_i h1
    · simp
    · rw [if_neg h1] at h
      split <;> rename_i h2
      · rw [if_pos h2] at h
        split <;> rename_i h3
        · simp
        · obtain ⟨ms, e1, e2, e3, e4, e5⟩ := fold_good 32 (blN l) (l.drop (blN l)) ⟨[], blN l, 0⟩ (Decidable.not_not.1 h3)
          have e2' : (allF l).ms = ms := e2
          dsimp only
          rw [e2']
          exact e3
      · rw [if_neg h2] at h
        rw [(read_soft h).2]
        simp
  · rw [(read_no h).2]; simp

set_option maxRecDepth 100000 in
set_option maxHeartbeats 4000000 in
theorem Fit_any (t : List UInt8) (v : Value) (ms : List Mr) (w : World) (hv : Mrs w v ms) (hs : Small ms) (hk : Kn w) :
    Calls Tryd.prog 4 #[.agg #[.string (ofL t), v]] w fun e w' => e = .returned (.bool (fitL t ms)) ∧ Below w.heap.size w w' := by
  have WA := hide (fun W hv => write_any t v ms W hv hs)
  have PA := fun W hW => Parse_any (ofL (wrL t ms)) W hW
  rw [ofL_data] at PA
  replace PA := hide PA
  have hPL := pa_len (wrL t ms)
  have hX : fitL t ms = (decide ((paL (wrL t ms)).err = 0) && ((paL (wrL t ms)).soft == t) && ((paL (wrL t ms)).ms == ms)) := rfl
  have HX := hide hX
  clear hX
  generalize fitL t ms = X at *
  generalize paL (wrL t ms) = P at *
  obtain ⟨a0, c0, rfl, _⟩ := id hv
  have HV := hide hv
  have hB0 := hide ((Below.refl _ w).alloc (Nat.le_refl _) (.cells #[.string (ofL t), .slice a0 ms.length c0] 24))
  have N0 := hide (World.alloc_heap_new w (.cells #[.string (ofL t), .slice a0 ms.length c0] 24))
  have HK := hide hk
  clear hv hk hs
  go_enter Tryd.func4, Tryd.ntmps4
  go_wp2_with fail
  generalize w.alloc (.cells #[.string (ofL t), .slice a0 ms.length c0] 24) = W0 at *
  refine (WA.out _ (HV.out.below hB0.out)).mono ?_
  rintro e w1 ⟨rfl, b1⟩
  have hk1 := (HK.out.below HK.out.pos hB0.out)
  have hk1 := hk1.below hk1.pos b1
  have hb1 := hB0.out.trans (b1.mono hB0.out.size)
  have n1 := (b1.block _ (Array.getElem?_eq_some_iff.1 N0.out).1).trans N0.out
  clear b1 hB0 N0 WA
  go_wp2_with fail
  refine (PA.out _ hk1).mono ?_
  rintro e w2 ⟨v2, rfl, hm, b2⟩
  obtain ⟨a2, c2, rfl, _⟩ := id hm
  have hb2 := hb1.trans (b2.mono hb1.size)
  have n2 := (b2.block _ (Array.getElem?_eq_some_iff.1 n1).1).trans n1
  have hlt2 := (Array.getElem?_eq_some_iff.1 n2).1
  have hb3 := (hb2.alloc hb2.size (.cells #[.string (ofL P.soft), .slice a2 P.ms.length c2] 24)).alloc (by rw [World.size_alloc]; have := hb2.size; omega) (.cells #[.int .i64 P.err, .int .i64 (P.at' : Int)] 28)
  have b23 := ((Below.refl _ w2).alloc (Nat.le_refl _) (.cells #[.string (ofL P.soft), .slice a2 P.ms.length c2] 24)).alloc (by simp) (.cells #[.int .i64 P.err, .int .i64 (P.at' : Int)] 28)
  have n3 := (b23.block _ hlt2).trans n2
  have m3 := hide (hm.mrs.below b23)
  have k27 := World.alloc_heap_new (w2.alloc (.cells #[.string (ofL P.soft), .slice a2 P.ms.length c2] 24)) (.cells #[.int .i64 P.err, .int .i64 (P.at' : Int)] 28)
  rw [World.size_alloc] at k27
  have k24 := ((Below.refl _ (w2.alloc (.cells #[.string (ofL P.soft), .slice a2 P.ms.length c2] 24))).alloc (Nat.le_refl _) (.cells #[.int .i64 P.err, .int .i64 (P.at' : Int)] 28)).block w2.heap.size (by simp)
  rw [World.alloc_heap_new] at k24
  have x0 : ((w2.alloc (.cells #[.string (ofL P.soft), .slice a2 P.ms.length c2] 24)).alloc (.cells #[.int .i64 P.err, .int .i64 (P.at' : Int)] 28)).cell? ⟨w.heap.size, 0, none⟩ = some (.string (ofL t)) := cell_at 0 n3 rfl
  have x1 : ((w2.alloc (.cells #[.string (ofL P.soft), .slice a2 P.ms.length c2] 24)).alloc (.cells #[.int .i64 P.err, .int .i64 (P.at' : Int)] 28)).cell? ⟨w.heap.size, 1, none⟩ = some (.slice a0 ms.length c0) := cell_at 1 n3 rfl
  have HB3 := hide hb3
  have EQ := hide (Equal_any a2 a0 P.ms.length ms.length c2 c0 P.ms ms (by omega) ((w2.alloc (.cells #[.string (ofL P.soft), .slice a2 P.ms.length c2] 24)).alloc (.cells #[.int .i64 P.err, .int .i64 (P.at' : Int)] 28)) m3.out (HV.out.below hb3))
  clear k24 k27 n3 n2 n1 hm b2 hb2 hb1 hk1 hlt2 b23 PA m3 hb3
  by_cases he : P.err = 0
  · have hb : (P.err == 0) = true := by simpa using he
    rw [decide_eq_true he] at HX
    clear he
    by_cases ht : P.soft = t
    · have hE : ((ofL P.soft).toList == (ofL t).toList) = true := by rw [ht]; simp
      have HX2 : Hid (X = decide (P.ms = ms)) := by show _ = _; rw [HX.out, ht, Bool.eq_iff_iff]; simp
      clear ht HX
      go_wp2_with fail
      refine EQ.out.mono ?_
      rintro e w4 ⟨rfl, b4⟩
      go_wp2_with fail
      go_ret
      exact ⟨by rw [HX2.out]; rfl, HB3.out.trans (b4.mono HB3.out.size)⟩
    · have hE : ((ofL P.soft).toList == (ofL t).toList) = false := by rw [toL, toL, ofL_data, ofL_data]; simpa using ht
      have HX2 : Hid (X = false) := by show _ = _; rw [HX.out]; simp [ht]
      clear ht HX EQ
      go_wp2_with fail
      go_ret
      exact ⟨by rw [HX2.out]; rfl, HB3.out⟩
  · have hb : (P.err == 0) = false := by simpa using he
    have HX2 : Hid (X = false) := by show _ = _; rw [HX.out]; simp [he]
    clear he HX EQ
    go_wp2_with fail
    go_ret
    exact ⟨by rw [HX2.out]; first | rfl | (rw [hb]; rfl) | simp [hb], HB3.out⟩

theorem okV_len {v : List UInt8} (h : OkV v) : v.length ≤ 64 := by
  rcases h with rfl | h
  · simp
  · exact (ver_parts h).2.1
theorem goodC_mem : ∀ (ms acc : List Mr), GoodC acc ms → ∀ m ∈ ms, Good m
  | [], _, _, m, hm => by cases hm
  | x :: r, acc, h, m, hm => by
    rcases List.mem_cons.1 hm with rfl | hm
    · exact h.1
    · exact goodC_mem r _ h.2.2 m hm
theorem pa_small (l : List UInt8) : Small (paL l).ms := by
  refine ⟨by have := pa_len l; omega, ?_⟩
  by_cases h : (paL l).err = 0
  · unfold paL at h ⊢
    split <;> rename_i h1
    · intro m hm; cases hm
    · rw [if_neg h1] at h
      split <;> rename_i h2
      · rw [if_pos h2] at h
        split <;> rename_i h3
        · intro m hm; cases hm
        · obtain ⟨ms, e1, e2, e3, e4, e5⟩ := fold_good 32 (blN l) (l.drop (blN l)) ⟨[], blN l, 0⟩ (Decidable.not_not.1 h3)
          have e2' : (allF l).ms = ms := e2
          dsimp only
          rw [e2']
          intro m hm
          have g := goodC_mem ms _ e4 m hm
          have := okV_len g.vlo
          have := okV_len g.vhi
          omega
      · rw [if_neg h2] at h
        rw [(read_soft h).2]
        intro m hm; cases hm
  · rw [(read_no h).2]; intro m hm; cases hm

theorem clo_any (m : Mr) (B : Nat) (v : ByteArray) (w : World) (hb : Boxed w B 9 (.string v)) (hk : Kn w) :
    Calls Tryd.prog 38 #[mV m, .pointer (some ⟨B, 0, none⟩)] w fun e w' => e = .returned (.bool (liesL v.data.toList m)) ∧ Below w.heap.size w w' := by
  have LI := hide (fun W hW => liesIn_any v m W hW)
  unfold mV at LI ⊢
  have hlt := hb.lt
  have c0 := (hb.alloc (.cells #[.bool m.hasLo, .string (ofL m.lo), .bool m.loIn, .bool m.hasHi, .string (ofL m.hi), .bool m.hiIn] 37)).cell
  have HB := hide ((Below.refl _ w).alloc (Nat.le_refl _) (.cells #[.bool m.hasLo, .string (ofL m.lo), .bool m.loIn, .bool m.hasHi, .string (ofL m.hi), .bool m.hiIn] 37))
  have hk1 := hide (hk.alloc (.cells #[.bool m.hasLo, .string (ofL m.lo), .bool m.loIn, .bool m.hasHi, .string (ofL m.hi), .bool m.hiIn] 37))
  clear hb hk
  go_enter Tryd.func38, Tryd.ntmps38
  go_wp2_with fail
  refine (LI.out _ hk1.out).mono ?_
  rintro e w1 ⟨rfl, b1⟩
  go_wp2_with fail
  go_ret
  exact ⟨rfl, HB.out.trans (b1.mono HB.out.size)⟩

set_option maxRecDepth 100000 in
set_option maxHeartbeats 4000000 in
theorem IndexFunc_any (a : Option Addr) (n c : Nat) (ms : List Mr) (B : Nat) (v : ByteArray) (w : World) (hv : Mrs w (.slice a n c) ms) (hn : n ≤ 2000000) (hb : Boxed w B 9 (.string v)) (hk : Kn w) :
    Calls Tryd.prog 46 #[.slice a n c, .func (.func 38) #[] #[.pointer (some ⟨B, 0, none⟩)]] w fun e w' => (∃ z : Int, e = .returned (.int .i64 z) ∧ decide (0 ≤ z) = ms.any (liesL v.data.toList)) ∧ Below w.heap.size w w' := by
  have HN := hide (mrs_n hv)
  have HV := hide hv
  have HK := hide hk
  have HBX := hide hb
  clear hv hk hb
  go_enter Tryd.func46, Tryd.ntmps46
  go_wp2_with fail
  go_loopw [8] (fun x wr => ∃ i : Nat, i ≤ n ∧ x = .int .i64 i ∧ Below w.heap.size w wr ∧ Hid ((ms.take i).any (liesL v.data.toList) = false)) (fun x _ => n - (intOf x).toNat)
  case atStart => exact ⟨0, by omega, rfl, Below.refl _ _, rfl⟩
  case round =>
    obtain ⟨i, hin, rfl, hB, hF⟩ := hrel
    by_cases hlt : i < n
    · have hlt' : (i : Int) < (n : Int) := by omega
      have i1 : i < ms.length := by rw [HN.out]; exact hlt
      obtain ⟨b1, o1, rfl, q1, d1⟩ := mrs_at (HV.out.below hB) (by omega)
      obtain ⟨e0, e1, e2, e3, e4, e5⟩ := d1.six i _ (List.getElem?_eq_getElem i1)
      have hbx : Boxed wr B 9 (.string v) := (hB.block B HBX.out.lt).trans HBX.out
      have CL := clo_any ms[i] B v wr hbx (HK.out.below HK.out.pos hB)
      unfold mV at CL
      have HT : Hid ((ms.take (i + 1)).any (liesL v.data.toList) = liesL v.data.toList ms[i]) := by
        show _ = _
        rw [List.take_succ_eq_append_getElem i1, List.any_append, hF.out]
        simp
      have HA : Hid (liesL v.data.toList ms[i] = true → ms.any (liesL v.data.toList) = true) := fun h => List.any_eq_true.2 ⟨ms[i], List.getElem_mem i1, h⟩
      generalize liesL v.data.toList ms[i] = L at *
      generalize ms[i] = x at *
      have CH := hide CL
      clear CL d1 i1 hbx
      go_wp2_with fail
      refine CH.out.mono ?_
      rintro e w2 ⟨rfl, b2⟩
      have hB2 := hB.trans (b2.mono hB.size)
      cases L with
      | true =>
        go_wp2_with fail
        go_ret
        exact ⟨⟨_, rfl, by rw [HA.out (by first | rfl | trivial), decide_eq_true (by omega)]⟩, hB2⟩
      | false =>
        go_wp2_with fail
        go_roundw
        case rel => exact ⟨i + 1, by omega, by go_num, hB2, HT⟩
        case measure => simp [intOf]; omega
    · have hlt' : ¬ (i : Int) < (n : Int) := by omega
      have HF : Hid (ms.any (liesL v.data.toList) = false) := by
        show _ = _
        have := hF.out
        rwa [List.take_of_length_le (by rw [HN.out]; omega)] at this
      go_wp2_with fail
      go_ret
      exact ⟨⟨_, rfl, by rw [HF.out]; rfl⟩, hB⟩
theorem Contains_any (a : Option Addr) (n c : Nat) (ms : List Mr) (B : Nat) (v : ByteArray) (w : World) (hv : Mrs w (.slice a n c) ms) (hn : n ≤ 2000000) (hb : Boxed w B 9 (.string v)) (hk : Kn w) :
    Calls Tryd.prog 37 #[.slice a n c, .func (.func 38) #[] #[.pointer (some ⟨B, 0, none⟩)]] w fun e w' => e = .returned (.bool (ms.any (liesL v.data.toList))) ∧ Below w.heap.size w w' := by
  have IX := hide (IndexFunc_any a n c ms B v w hv hn hb hk)
  clear hv hb hk
  go_enter Tryd.func37, Tryd.ntmps37
  go_wp2_with fail
  refine IX.out.mono ?_
  rintro e w1 ⟨⟨z, rfl, hz⟩, b1⟩
  have HZ := hide hz
  clear hz
  go_wp2_with fail
  go_ret
  exact ⟨ret_b HZ.out, b1⟩

end Go.Proofs.YtpedljmpobhimaaDoor
