/-
  The document's parse: the walk.
-/
import Derived.Test.YtaflflelcdcanaaGreatZRf
namespace Go.Proofs.YtaflflelcdcanaaGreat
open Go.RowKit Go.Shelf
set_option linter.unusedVariables false

theorem fin32 {R : Ending → World → Prop} (tmps : Array Value) (W : World) (B : Nat) (a b c : ByteArray) (vp vb : Value) (x y : Int) (op : ∃ a i c, vp = .slice a i c) (ob : ∃ a i c, vb = .slice a i c)
    (h2 : tmps.getD 2 undef = .pointer (some ⟨B, 0, none⟩)) (h3 : tmps.getD 3 undef = .int .i64 x) (h4 : tmps.getD 4 undef = .int .i64 y) (e1 : W.heap[B]? = some (.cells #[.string a, .string b, .string c, vp, vb] 33 (0, 0)))
    (hR : R (.returned (.tuple #[.agg #[.string a, .string b, .string c, vp, vb], .int .i64 x, .int .i64 y])) W) :
    bodyPost Tryz.prog Tryz.f76 R .ret { tmps := tmps, defers := [] } W := by
  obtain ⟨a1, i1, c1, rfl⟩ := op
  obtain ⟨a2, i2, c2, rfl⟩ := ob
  obtain ⟨r0, r1, r2, r3, r4⟩ := seen5 e1
  rw [Array.getD_eq_getD_getElem?] at h2 h3 h4
  refine ⟨rfl, _, ?_, hR⟩
  simp [results, Tryz.results76, go_sem, h2, h3, h4, r0, r1, r2, r3, r4]
  try rfl

theorem five_turn {W W' : World} {B : Nat} {a b c d e : Value} (h : W' = ((((W.setCell ⟨B, 0, none⟩ a).setCell ⟨B, 1, none⟩ b).setCell ⟨B, 2, none⟩ c).setCell ⟨B, 3, none⟩ d).setCell ⟨B, 4, none⟩ e) : Turn B W W' := by
  rw [h]
  exact ((((Turn.set B 0 W a).trans (Turn.set B 1 _ b)).trans (Turn.set B 2 _ c)).trans (Turn.set B 3 _ d)).trans (Turn.set B 4 _ e)

theorem rpost_err {l : List UInt8} {w w' : World} {x : Nat × Int} (h : parseR l = .error (x.2, x.1)) (hb : Below w.heap.size w w') : RPost l w (.returned (.tuple #[semZ, .int .i64 x.2, .int .i64 (x.1 : Int)])) w' := by
  unfold RPost; rw [h]; exact ⟨hb, rfl⟩
theorem rpost_ok {l : List UInt8} {w w' : World} {v : Value} {c : Cuts} (h : parseR l = .ok c) (hb : Below w.heap.size w w') (hv : SemF w.heap.size w' v (semOf l c)) : RPost l w (.returned (.tuple #[v, .int .i64 0, .int .i64 0])) w' := by
  unfold RPost; rw [h]; exact ⟨hb, v, rfl, hv⟩
theorem parse_nums {l : List UInt8} (h : l.length ≤ 64) {y : Int × Nat} (hn : numsR l = .error y) : parseR l = .error y := by
  unfold parseR; rw [if_neg (by omega), hn]
theorem parse_tail {l : List UInt8} (h : l.length ≤ 64) {a b c d e : Nat} (hn : numsR l = .ok (a, b, c, d, e)) : parseR l = match tailR l e with | .error x => .error x | .ok (pre, bld) => .ok ⟨a, b, c, d, e, pre, bld⟩ := by
  unfold parseR; rw [if_neg (by omega), hn]; rfl

set_option maxRecDepth 100000 in
set_option maxHeartbeats 4000000 in
theorem rparse_short (s : ByteArray) (w : World) (hs : s.size ≤ 64) : Calls Tryz.prog 76 #[.string s] w (RPost s.data.toList w) := by
  have HL := hide (len_data s)
  have l1 := hide (numS_le s.data.toList (0, 0) (by simp))
  have l2 := hide (byteS_le s.data.toList 46 (x1 s.data.toList) l1.out)
  have l3 := hide (numS_le s.data.toList (x2 s.data.toList) l2.out)
  have l4 := hide (byteS_le s.data.toList 46 (x3 s.data.toList) l3.out)
  have l5 : Hid ((x5 s.data.toList).1 ≤ s.size) := by
    have := numS_le s.data.toList (x4 s.data.toList) l4.out
    rw [HL.out] at this
    exact this
  rw [HL.out] at l1 l2 l3 l4
  have hE : Hid (∀ y, numsR s.data.toList = .error y → x5 s.data.toList = (y.2, y.1) ∧ y.1 ≠ 0) := fun y h => x5_err h
  have hO : Hid (∀ a b c d e, numsR s.data.toList = .ok (a, b, c, d, e) → x5 s.data.toList = (e, 0) ∧ numT s.data.toList (0, 0) = seg s.data.toList 0 a ∧ numT s.data.toList (x2 s.data.toList) = seg s.data.toList b c ∧ numT s.data.toList (x4 s.data.toList) = seg s.data.toList d e) := fun a b c d e h => x5_ok h
  have N1 := hide (fun B W h => rNumber_any B s 0 0 W h (by omega) hs)
  have D1 := hide (fun B W h => rByte_any B s (x1 s.data.toList).1 (x1 s.data.toList).2 46 W h l1.out hs)
  have N2 := hide (fun B W h => rNumber_any B s (x2 s.data.toList).1 (x2 s.data.toList).2 W h l2.out hs)
  have D2 := hide (fun B W h => rByte_any B s (x3 s.data.toList).1 (x3 s.data.toList).2 46 W h l3.out hs)
  have N3 := hide (fun B W h => rNumber_any B s (x4 s.data.toList).1 (x4 s.data.toList).2 W h l4.out hs)
  have I1 := hide (fun B W h => rIs_any B s (x5 s.data.toList).1 (x5 s.data.toList).2 45 W h)
  have hls : ¬ (64 : Int) < (s.size : Int) := by omega
  have P0 : Hid (PM w (((w.alloc (.cells #[.string ⟨#[]⟩, .string ⟨#[]⟩, .string ⟨#[]⟩, .slice none 0 0, .slice none 0 0] 33)).alloc (.cells #[.string s, .int .i64 0, .int .i64 0] 140)).alloc (.cells #[.string ⟨#[]⟩, .string ⟨#[]⟩, .string ⟨#[]⟩, .slice none 0 0, .slice none 0 0] 33)) s (0, 0) #[.string ⟨#[]⟩, .string ⟨#[]⟩, .string ⟨#[]⟩, .slice none 0 0, .slice none 0 0]) := by
    have k0 := World.alloc_heap_new w (.cells #[.string ⟨#[]⟩, .string ⟨#[]⟩, .string ⟨#[]⟩, .slice none 0 0, .slice none 0 0] 33)
    have k1 := World.alloc_heap_new (w.alloc (.cells #[.string ⟨#[]⟩, .string ⟨#[]⟩, .string ⟨#[]⟩, .slice none 0 0, .slice none 0 0] 33)) (.cells #[.string s, .int .i64 0, .int .i64 0] 140)
    have k2 := World.alloc_heap_new ((w.alloc (.cells #[.string ⟨#[]⟩, .string ⟨#[]⟩, .string ⟨#[]⟩, .slice none 0 0, .slice none 0 0] 33)).alloc (.cells #[.string s, .int .i64 0, .int .i64 0] 140)) (.cells #[.string ⟨#[]⟩, .string ⟨#[]⟩, .string ⟨#[]⟩, .slice none 0 0, .slice none 0 0] 33)
    simp only [World.size_alloc] at k1 k2
    exact ⟨(((Below.refl _ w).alloc (Nat.le_refl _) _).alloc (by simp) _).alloc (by simp; omega) _, (Below.heap_alloc _ _ _ (by simp; omega)).trans ((Below.heap_alloc _ _ _ (by simp)).trans k0), (Below.heap_alloc _ _ _ (by simp)).trans k1, k2⟩
  go_enter Tryz.func76, Tryz.ntmps76
  go_wp2_with fail
  refine (N1.out _ _ P0.out.rd).mono ?_
  rintro r W1 ⟨rfl, h1, t1⟩
  have P1 := hide (P0.out.turn t1 (x' := x1 s.data.toList) h1)
  clear h1 t1 P0
  obtain ⟨q0, q1, q2, q3, q4⟩ := seen5 P1.out.ver
  have z0 := one_free 0 P1.out.ver
  go_wp2_with fail
  have P2 := hide (P1.out.put 0 (.string (ofL (numT s.data.toList (0, 0)))))
  refine (D1.out _ _ P2.out.rd).mono ?_
  rintro r W2 ⟨rfl, h1, t1⟩
  have P3 := hide (P2.out.turn t1 (x' := x2 s.data.toList) h1)
  clear h1 t1 P1 P2 q0 q1 q2 q3 q4 z0
  go_wp2_with fail
  refine (N2.out _ _ P3.out.rd).mono ?_
  rintro r W3 ⟨rfl, h1, t1⟩
  have P4 := hide (P3.out.turn t1 (x' := x3 s.data.toList) h1)
  clear h1 t1 P3
  obtain ⟨q0, q1, q2, q3, q4⟩ := seen5 P4.out.ver
  have z0 := one_free 1 P4.out.ver
  go_wp2_with fail
  have P5 := hide (P4.out.put 1 (.string (ofL (numT s.data.toList (x2 s.data.toList)))))
  refine (D2.out _ _ P5.out.rd).mono ?_
  rintro r W4 ⟨rfl, h1, t1⟩
  have P6 := hide (P5.out.turn t1 (x' := x4 s.data.toList) h1)
  clear h1 t1 P4 P5 q0 q1 q2 q3 q4 z0
  go_wp2_with fail
  refine (N3.out _ _ P6.out.rd).mono ?_
  rintro r W5 ⟨rfl, h1, t1⟩
  have P7 := hide (P6.out.turn t1 (x' := x5 s.data.toList) h1)
  clear h1 t1 P6
  obtain ⟨q0, q1, q2, q3, q4⟩ := seen5 P7.out.ver
  have z0 := one_free 2 P7.out.ver
  go_wp2_with fail
  have P8 : Hid (PM w (W5.setCell ⟨w.heap.size + 1 + 1, 2, none⟩ (.string (ofL (numT s.data.toList (x4 s.data.toList))))) s (x5 s.data.toList) #[.string (ofL (numT s.data.toList (0, 0))), .string (ofL (numT s.data.toList (x2 s.data.toList))), .string (ofL (numT s.data.toList (x4 s.data.toList))), .slice none 0 0, .slice none 0 0]) := P7.out.put 2 (.string (ofL (numT s.data.toList (x4 s.data.toList))))
  clear P7 q0 q1 q2 q3 q4 z0
  refine (I1.out _ _ P8.out.rd).mono ?_
  rintro r W6 ⟨rfl, n6, hW6⟩
  have P9 := hide (P8.out.drewN n6)
  rw [← hW6] at P9
  clear hW6 P8 N1 D1 N2 D2 N3 I1 l1 l2 l3 l4
  cases hn : numsR s.data.toList with
  | error y =>
    have hp := hide (parse_nums (by rw [HL.out]; exact hs) hn)
    obtain ⟨e5, ey⟩ := hE.out y hn
    clear hE hO hn
    rw [e5] at P9 l5 ⊢
    obtain ⟨y1, y2⟩ := y
    simp only at ey P9 l5 ⊢
    rw [show (decide (y1 = 0) && atB s.data.toList y2 45) = false by simp [ey]]
    have EY := hide ey
    generalize numT s.data.toList (0, 0) = m1 at *
    generalize numT s.data.toList (x2 s.data.toList) = m2 at *
    generalize numT s.data.toList (x4 s.data.toList) = m3 at *
    clear ey
    have I2 := hide (rIs_any (w.heap.size + 1) s y2 y1 43 W6 P9.out.rd)
    rw [show (decide (y1 = 0) && atB s.data.toList y2 43) = false by simp [EY.out]] at I2
    have M2 := hide (fun n => rmore_any (w.heap.size + 1) s y2 y1 (World.drewN W6 n) (P9.out.rd.drewN n))
    rw [show (decide (y1 = 0) && decide (y2 < s.size)) = false by simp [EY.out]] at M2
    have hby : (y1 == 0) = false := by simpa using EY.out
    go_wp2_with fail
    refine I2.out.mono ?_
    rintro r W7 ⟨rfl, n7, rfl⟩
    go_wp2_with fail
    refine (M2.out _).mono ?_
    rintro r W8 ⟨rfl, n8, rfl⟩
    have PE := hide ((P9.out.drewN n7).drewN n8)
    rw [World.drewN_drewN] at PE
    clear I2 M2
    go_simp
    generalize hWE : World.drewN W6 (n7 + n8) = WE at *
    clear hWE
    obtain ⟨c0, c1, c2, f1, f2⟩ := PE.out.rd.seen
    obtain ⟨q0, q1, q2, q3, q4⟩ := seen5 PE.out.res
    have z0 := one_free 0 PE.out.res
    have z1 := one_free 1 PE.out.res
    have z2 := one_free 2 PE.out.res
    have z3 := one_free 3 PE.out.res
    have z4 := one_free 4 PE.out.res
    simp only at c0 c1 c2
    go_wp2_with fail
    go_region_held3 (fun w' => w'.cell? ⟨w.heap.size + 1, 1, none⟩ = some (.int .i64 (y2 : Int)) ∧ w'.cell? ⟨w.heap.size + 1, 2, none⟩ = some (.int .i64 y1)) (go_keep) (fail)
    go_wp2_with fail
    obtain ⟨W99, hW99, g99, hb99⟩ := five_world (W := WE) (.string ⟨#[]⟩) (.string ⟨#[]⟩) (.string ⟨#[]⟩) (.slice none 0 0) (.slice none 0 0) PE.out.res
    rw [← hW99]
    refine fin32 _ _ w.heap.size ⟨#[]⟩ ⟨#[]⟩ ⟨#[]⟩ (.slice none 0 0) (.slice none 0 0) y1 y2 ⟨_, _, _, rfl⟩ ⟨_, _, _, rfl⟩ rfl rfl rfl g99 ?_
    exact rpost_err (x := (y2, y1)) hp.out ((PE.out.below.trans (hb99 _ (Nat.le_refl _))).drew)
  | ok q =>
    obtain ⟨a, b, c, d, e⟩ := q
    obtain ⟨e5, e1, e2, e3⟩ := hO.out a b c d e hn
    have hp := parse_tail (by rw [HL.out]; exact hs) hn
    clear hE hO hn
    rw [e5] at P9 l5 ⊢
    rw [e1, e2, e3] at P9 ⊢
    rw [show (decide ((e, (0 : Int)).2 = 0) && atB s.data.toList (e, (0 : Int)).1 45) = atB s.data.toList e 45 by simp]
    simp only at l5
    have HSem : Hid (∀ pre bld : List (Nat × Nat), semOf s.data.toList ⟨a, b, c, d, e, pre, bld⟩ = ⟨seg s.data.toList 0 a, seg s.data.toList b c, seg s.data.toList d e, pre.map fun x => seg s.data.toList x.1 x.2, bld.map fun x => seg s.data.toList x.1 x.2⟩) := fun _ _ => rfl
    generalize seg s.data.toList 0 a = m1 at *
    generalize seg s.data.toList b c = m2 at *
    generalize seg s.data.toList d e = m3 at *
    cases h45 : atB s.data.toList e 45
    · have ht : Hid (tailR s.data.toList e = buildR s.data.toList e []) := by
        show _ = _
        unfold tailR; rw [if_neg (fun hh => by rw [(atB_iff _ _ _).2 hh] at h45; cases h45)]
      rw [ht.out] at hp
      have OV : Hid (W6.ownsRow (w.heap.size + 3) 9 1 (.slice none 0 0) ([] : List (Nat × Nat)).length (strs s [])) := World.ownsRow_nil _ _ _ _
      have hbp : w.heap.size + 1 + 1 < w.heap.size + 3 := by omega
      clear h45 ht
      have I3 := hide (rIs_any (w.heap.size + 1) s e 0 43 W6 P9.out.rd)
      rw [show (decide ((0 : Int) = 0) && atB s.data.toList e 43) = atB s.data.toList e 43 by simp] at I3
      cases h43 : atB s.data.toList e 43
      · rw [h43] at I3
        have hb : Hid (buildR s.data.toList e [] = if e < s.data.toList.length then .error (10, e) else .ok ([], [])) := by
          show _ = _
          unfold buildR; rw [if_neg (fun hh => by rw [(atB_iff _ _ _).2 hh] at h43; cases h43)]
        rw [hb.out, HL.out] at hp
        clear h43 hb
        go_wp2_with fail
        refine I3.out.mono ?_
        rintro r W21 ⟨rfl, n21, hW21⟩
        have P21 := hide (P9.out.drewN n21)
        rw [← hW21] at P21
        have OV1 := hide (own_turn OV.out (Turn.drewN (w.heap.size + 1) W6 n21) (by omega))
        rw [← hW21] at OV1
        clear hW21 I3 P9 OV
        have OB : Hid (W21.ownsRow (w.heap.size + 3) 9 1 (.slice none 0 0) ([] : List (Nat × Nat)).length (strs s [])) := World.ownsRow_nil _ _ _ _
        have hbb : w.heap.size + 1 + 1 < w.heap.size + 3 := by omega
        have M3 := hide (rmore_any (w.heap.size + 1) s e 0 W21 P21.out.rd)
        by_cases hq : e < s.size
        · rw [show (decide ((0 : Int) = 0) && decide (e < s.size)) = true by simp [hq]] at M3
          rw [if_pos hq] at hp
          simp only at hp
          have HP := hide hp
          clear hp
          go_wp2_with fail
          refine M3.out.mono ?_
          rintro r W31 ⟨rfl, n31, hW31⟩
          have P31 := hide (P21.out.drewN n31)
          rw [← hW31] at P31
          clear hW31 M3
          go_wp2_with fail
          refine (rwrong_any (w.heap.size + 1) s e 0 10 W31 P31.out.rd).mono ?_
          rintro r W32 ⟨rfl, h1, t1⟩
          rw [rerr_0] at h1
          have PE := hide (P31.out.turn t1 (x' := (e, 10)) h1)
          clear h1 t1 P31
          obtain ⟨c0, c1, c2, f1, f2⟩ := PE.out.rd.seen
          obtain ⟨q0, q1, q2, q3, q4⟩ := seen5 PE.out.res
          have z0 := one_free 0 PE.out.res
          have z1 := one_free 1 PE.out.res
          have z2 := one_free 2 PE.out.res
          have z3 := one_free 3 PE.out.res
          have z4 := one_free 4 PE.out.res
          simp only at c0 c1 c2
          go_wp2_with fail
          go_region_held3 (fun w' => w'.cell? ⟨w.heap.size + 1, 1, none⟩ = some (.int .i64 (e : Int)) ∧ w'.cell? ⟨w.heap.size + 1, 2, none⟩ = some (.int .i64 10)) (go_keep) (fail)
          go_wp2_with fail
          obtain ⟨W99, hW99, g99, hb99⟩ := five_world (W := W32) (.string ⟨#[]⟩) (.string ⟨#[]⟩) (.string ⟨#[]⟩) (.slice none 0 0) (.slice none 0 0) PE.out.res
          rw [← hW99]
          refine fin32 _ _ w.heap.size ⟨#[]⟩ ⟨#[]⟩ ⟨#[]⟩ (.slice none 0 0) (.slice none 0 0) 10 e ⟨_, _, _, rfl⟩ ⟨_, _, _, rfl⟩ rfl rfl rfl g99 ?_
          exact rpost_err (x := (e, 10)) HP.out ((PE.out.below.trans (hb99 _ (Nat.le_refl _))).drew)

        · rw [show (decide ((0 : Int) = 0) && decide (e < s.size)) = false by simp [hq]] at M3
          rw [if_neg hq] at hp
          simp only at hp
          have HP := hide hp
          clear hp
          go_wp2_with fail
          refine M3.out.mono ?_
          rintro r W31 ⟨rfl, n31, hW31⟩
          have P31 := hide (P21.out.drewN n31)
          have OV9 := hide (own_turn OV1.out (Turn.drewN (w.heap.size + 1) W21 n31) (by omega))
          have OB9 := hide (own_turn OB.out (Turn.drewN (w.heap.size + 1) W21 n31) (by omega))
          rw [← hW31] at P31 OV9 OB9
          clear hW31 M3
          obtain ⟨c0, c1, c2, f1, f2⟩ := P31.out.rd.seen
          obtain ⟨q0, q1, q2, q3, q4⟩ := seen5 P31.out.res
          obtain ⟨k0, k1, k2, k3, k4⟩ := seen5 P31.out.ver
          have z0 := one_free 0 P31.out.res
          have z1 := one_free 1 P31.out.res
          have z2 := one_free 2 P31.out.res
          have z3 := one_free 3 P31.out.res
          have z4 := one_free 4 P31.out.res
          simp only at c0 c1 c2
          go_wp2_with fail
          obtain ⟨W99, hW99, g99, hb99⟩ := five_world (W := W31) (.string (ofL m1)) (.string (ofL m2)) (.string (ofL m3)) (.slice none 0 0) (.slice none 0 0) P31.out.res
          have t99 := five_turn hW99
          rw [← hW99]
          refine fin32 _ _ w.heap.size (ofL m1) (ofL m2) (ofL m3) (.slice none 0 0) (.slice none 0 0) 0 0 ⟨_, _, _, rfl⟩ ⟨_, _, _, rfl⟩ rfl rfl rfl g99 ?_
          refine rpost_ok HP.out (P31.out.below.trans (hb99 _ (Nat.le_refl _))) ?_
          rw [HSem.out]
          exact ⟨_, _, rfl, txt_of_row (own_turn OV9.out t99 (by omega)), txt_of_row (own_turn OB9.out t99 (by omega)), fun a i c e => by have := fresh_row OV9.out a i c e; omega, fun a i c e => by have := fresh_row OB9.out a i c e; omega⟩

      · rw [h43] at I3
        have hp1 : e < s.size := by
          rcases Nat.lt_or_ge e s.size with h | h
          · exact h
          · rw [atB_out s e 43 (by omega)] at h43; cases h43
        have hb : Hid (buildR s.data.toList e [] = match idsR false s.data.toList (e + 1) with | .error x => .error x | .ok (b, q) => if q < s.data.toList.length then .error (10, q) else .ok ([], b)) := by
          show _ = _
          unfold buildR; rw [if_pos ((atB_iff _ _ _).1 h43)]; rfl
        rw [hb.out, HL.out] at hp
        clear h43 hb
        go_wp2_with fail
        refine I3.out.mono ?_
        rintro r W21 ⟨rfl, n21, hW21⟩
        have P21 := hide (P9.out.drewN n21)
        rw [← hW21] at P21
        have OV1 := hide (own_turn OV.out (Turn.drewN (w.heap.size + 1) W6 n21) (by omega))
        rw [← hW21] at OV1
        clear hW21 I3 P9 OV
        obtain ⟨c0, c1, c2, f1, f2⟩ := P21.out.rd.seen
        simp only at c1
        go_wp2_with fail
        have P22 := hide P21.out.step
        have OV2 := hide (own_turn OV1.out (Turn.set (w.heap.size + 1) 1 W21 (.int .i64 ((e : Int) + 1))) (by omega))
        have hsz22 := (Array.getElem?_eq_some_iff.1 P22.out.ver).1
        generalize W21.setCell ⟨w.heap.size + 1, 1, none⟩ (.int .i64 ((e : Int) + 1)) = W22 at *
        clear P21 OV1 c0 c1 c2 f1 f2
        refine (rIdents_any false (w.heap.size + 1) s (e + 1) W22 P22.out.rd (by omega) hs).mono ?_
        rintro r W23 hI
        unfold IdsPost at hI
        cases hid : idsR false s.data.toList (e + 1) with
        | error y =>
          rw [hid] at hI hp
          obtain ⟨rfl, h1, t1⟩ := hI
          have EY := hide (ids_err hid)
          have P23 := hide (P22.out.turn t1 (x' := (y.2, y.1)) h1)
          obtain ⟨y1, y2⟩ := y
          simp only at EY P23 hp
          have HP := hide hp
          clear hp h1 t1 hid P22 OV2
          obtain ⟨q0, q1, q2, q3, q4⟩ := seen5 P23.out.ver
          have z0 := one_free 4 P23.out.ver
          have P24 := hide (P23.out.put 4 (.slice none 0 0))
          go_wp2_with fail
          generalize W23.setCell ⟨w.heap.size + 1 + 1, 4, none⟩ (.slice none 0 0) = W24 at *
          clear P23 q0 q1 q2 q3 q4 z0
          have M2 := hide (fun n => rmore_any (w.heap.size + 1) s y2 y1 (World.drewN W24 n) (P24.out.rd.drewN n))
          rw [show (decide (y1 = 0) && decide (y2 < s.size)) = false by simp [EY.out]] at M2
          have hby : (y1 == 0) = false := by simpa using EY.out
          go_wp2_with fail
          refine (M2.out 0).mono ?_
          rintro r W8 ⟨rfl, n8, rfl⟩
          have PE := hide (P24.out.drewN n8)
          clear M2
          go_simp
          generalize hWE : World.drewN W24 n8 = WE at *
          clear hWE
          obtain ⟨c0, c1, c2, f1, f2⟩ := PE.out.rd.seen
          obtain ⟨q0, q1, q2, q3, q4⟩ := seen5 PE.out.res
          have z0 := one_free 0 PE.out.res
          have z1 := one_free 1 PE.out.res
          have z2 := one_free 2 PE.out.res
          have z3 := one_free 3 PE.out.res
          have z4 := one_free 4 PE.out.res
          simp only at c0 c1 c2
          go_wp2_with fail
          go_region_held3 (fun w' => w'.cell? ⟨w.heap.size + 1, 1, none⟩ = some (.int .i64 (y2 : Int)) ∧ w'.cell? ⟨w.heap.size + 1, 2, none⟩ = some (.int .i64 y1)) (go_keep) (fail)
          go_wp2_with fail
          obtain ⟨W99, hW99, g99, hb99⟩ := five_world (W := WE) (.string ⟨#[]⟩) (.string ⟨#[]⟩) (.string ⟨#[]⟩) (.slice none 0 0) (.slice none 0 0) PE.out.res
          rw [← hW99]
          refine fin32 _ _ w.heap.size ⟨#[]⟩ ⟨#[]⟩ ⟨#[]⟩ (.slice none 0 0) (.slice none 0 0) y1 y2 ⟨_, _, _, rfl⟩ ⟨_, _, _, rfl⟩ rfl rfl rfl g99 ?_
          exact rpost_err (x := (y2, y1)) HP.out ((PE.out.below.trans (hb99 _ (Nat.le_refl _))).drew)

        | ok bq =>
          obtain ⟨bs, q⟩ := bq
          rw [hid] at hI hp
          obtain ⟨v2, rfl, hown, h1, t1⟩ := hI
          simp only at hp hown h1
          have P23 := hide (P22.out.turn t1 (x' := (q, 0)) h1)
          obtain ⟨av2, cv2, rfl⟩ := row_slice hown
          obtain ⟨q0, q1, q2, q3, q4⟩ := seen5 P23.out.ver
          have z0 := one_free 4 P23.out.ver
          have P24 : Hid (PM w (W23.setCell ⟨w.heap.size + 1 + 1, 4, none⟩ (.slice av2 bs.length cv2)) s (q, 0) #[.string (ofL m1), .string (ofL m2), .string (ofL m3), (.slice none 0 0), .slice av2 bs.length cv2]) := P23.out.put 4 (.slice av2 bs.length cv2)
          have OB := hide (ownsRow_setCell_below hown (a := ⟨w.heap.size + 1 + 1, 4, none⟩) hsz22 (.slice av2 bs.length cv2))
          have OV3 := hide (ownsRow_setCell_below (own_turn OV2.out t1 (by omega)) (a := ⟨w.heap.size + 1 + 1, 4, none⟩) hbp (.slice av2 bs.length cv2))
          have hbb := hsz22
          clear h1 t1 hid P22 hown OV2
          go_wp2_with fail
          generalize W23.setCell ⟨w.heap.size + 1 + 1, 4, none⟩ (.slice av2 bs.length cv2) = W24 at *
          generalize hbbb : W22.heap.size = bb at *
          clear P23 q0 q1 q2 q3 q4 z0 hbbb
          have M3 := hide (rmore_any (w.heap.size + 1) s q 0 W24 P24.out.rd)
          by_cases hq : q < s.size
          · rw [show (decide ((0 : Int) = 0) && decide (q < s.size)) = true by simp [hq]] at M3
            rw [if_pos hq] at hp
            simp only at hp
            have HP := hide hp
            clear hp
            go_wp2_with fail
            refine M3.out.mono ?_
            rintro r W31 ⟨rfl, n31, hW31⟩
            have P31 := hide (P24.out.drewN n31)
            rw [← hW31] at P31
            clear hW31 M3
            go_wp2_with fail
            refine (rwrong_any (w.heap.size + 1) s q 0 10 W31 P31.out.rd).mono ?_
            rintro r W32 ⟨rfl, h1, t1⟩
            rw [rerr_0] at h1
            have PE := hide (P31.out.turn t1 (x' := (q, 10)) h1)
            clear h1 t1 P31
            obtain ⟨c0, c1, c2, f1, f2⟩ := PE.out.rd.seen
            obtain ⟨q0, q1, q2, q3, q4⟩ := seen5 PE.out.res
            have z0 := one_free 0 PE.out.res
            have z1 := one_free 1 PE.out.res
            have z2 := one_free 2 PE.out.res
            have z3 := one_free 3 PE.out.res
            have z4 := one_free 4 PE.out.res
            simp only at c0 c1 c2
            go_wp2_with fail
            go_region_held3 (fun w' => w'.cell? ⟨w.heap.size + 1, 1, none⟩ = some (.int .i64 (q : Int)) ∧ w'.cell? ⟨w.heap.size + 1, 2, none⟩ = some (.int .i64 10)) (go_keep) (fail)
            go_wp2_with fail
            obtain ⟨W99, hW99, g99, hb99⟩ := five_world (W := W32) (.string ⟨#[]⟩) (.string ⟨#[]⟩) (.string ⟨#[]⟩) (.slice none 0 0) (.slice none 0 0) PE.out.res
            rw [← hW99]
            refine fin32 _ _ w.heap.size ⟨#[]⟩ ⟨#[]⟩ ⟨#[]⟩ (.slice none 0 0) (.slice none 0 0) 10 q ⟨_, _, _, rfl⟩ ⟨_, _, _, rfl⟩ rfl rfl rfl g99 ?_
            exact rpost_err (x := (q, 10)) HP.out ((PE.out.below.trans (hb99 _ (Nat.le_refl _))).drew)

          · rw [show (decide ((0 : Int) = 0) && decide (q < s.size)) = false by simp [hq]] at M3
            rw [if_neg hq] at hp
            simp only at hp
            have HP := hide hp
            clear hp
            go_wp2_with fail
            refine M3.out.mono ?_
            rintro r W31 ⟨rfl, n31, hW31⟩
            have P31 := hide (P24.out.drewN n31)
            have OV9 := hide (own_turn OV3.out (Turn.drewN (w.heap.size + 1) W24 n31) (by omega))
            have OB9 := hide (own_turn OB.out (Turn.drewN (w.heap.size + 1) W24 n31) (by omega))
            rw [← hW31] at P31 OV9 OB9
            clear hW31 M3
            obtain ⟨c0, c1, c2, f1, f2⟩ := P31.out.rd.seen
            obtain ⟨q0, q1, q2, q3, q4⟩ := seen5 P31.out.res
            obtain ⟨k0, k1, k2, k3, k4⟩ := seen5 P31.out.ver
            have z0 := one_free 0 P31.out.res
            have z1 := one_free 1 P31.out.res
            have z2 := one_free 2 P31.out.res
            have z3 := one_free 3 P31.out.res
            have z4 := one_free 4 P31.out.res
            simp only at c0 c1 c2
            go_wp2_with fail
            obtain ⟨W99, hW99, g99, hb99⟩ := five_world (W := W31) (.string (ofL m1)) (.string (ofL m2)) (.string (ofL m3)) (.slice none 0 0) (.slice av2 bs.length cv2) P31.out.res
            have t99 := five_turn hW99
            rw [← hW99]
            refine fin32 _ _ w.heap.size (ofL m1) (ofL m2) (ofL m3) (.slice none 0 0) (.slice av2 bs.length cv2) 0 0 ⟨_, _, _, rfl⟩ ⟨_, _, _, rfl⟩ rfl rfl rfl g99 ?_
            refine rpost_ok HP.out (P31.out.below.trans (hb99 _ (Nat.le_refl _))) ?_
            rw [HSem.out]
            exact ⟨_, _, rfl, txt_of_row (own_turn OV9.out t99 (by omega)), txt_of_row (own_turn OB9.out t99 (by omega)), fun a i c e => by have := fresh_row OV9.out a i c e; omega, fun a i c e => by have := fresh_row OB9.out a i c e; omega⟩


    · have he1 : e < s.size := by
        rcases Nat.lt_or_ge e s.size with h | h
        · exact h
        · rw [atB_out s e 45 (by omega)] at h45; cases h45
      obtain ⟨c0, c1, c2, f1, f2⟩ := P9.out.rd.seen
      simp only at c1
      have ht : Hid (tailR s.data.toList e = match idsR true s.data.toList (e + 1) with | .error x => .error x | .ok (pre, p) => buildR s.data.toList p pre) := by
        show _ = _
        unfold tailR; rw [if_pos ((atB_iff _ _ _).1 h45)]; rfl
      rw [ht.out] at hp
      clear h45 ht
      go_wp2_with fail
      have P10 := hide P9.out.step
      have hsz10 := (Array.getElem?_eq_some_iff.1 P10.out.ver).1
      generalize W6.setCell ⟨w.heap.size + 1, 1, none⟩ (.int .i64 ((e : Int) + 1)) = W7 at *
      clear P9 c0 c1 c2 f1 f2
      refine (rIdents_any true (w.heap.size + 1) s (e + 1) W7 P10.out.rd (by omega) hs).mono ?_
      rintro r W8 hI
      unfold IdsPost at hI
      cases hid : idsR true s.data.toList (e + 1) with
      | error y =>
        rw [hid] at hI hp
        obtain ⟨rfl, h1, t1⟩ := hI
        have EY := hide (ids_err hid)
        have P11 := hide (P10.out.turn t1 (x' := (y.2, y.1)) h1)
        obtain ⟨y1, y2⟩ := y
        simp only at EY P11 hp
        have HP := hide hp
        clear hp h1 t1 hid P10
        obtain ⟨q0, q1, q2, q3, q4⟩ := seen5 P11.out.ver
        have z0 := one_free 3 P11.out.ver
        have P12 : Hid (PM w (W8.setCell ⟨w.heap.size + 1 + 1, 3, none⟩ (.slice none 0 0)) s (y2, y1) #[.string (ofL m1), .string (ofL m2), .string (ofL m3), .slice none 0 0, .slice none 0 0]) := P11.out.put 3 (.slice none 0 0)
        go_wp2_with fail
        generalize W8.setCell ⟨w.heap.size + 1 + 1, 3, none⟩ (.slice none 0 0) = W9 at *
        clear P11 q0 q1 q2 q3 q4 z0
        have I2 := hide (rIs_any (w.heap.size + 1) s y2 y1 43 W9 P12.out.rd)
        rw [show (decide (y1 = 0) && atB s.data.toList y2 43) = false by simp [EY.out]] at I2
        have M2 := hide (fun n => rmore_any (w.heap.size + 1) s y2 y1 (World.drewN W9 n) (P12.out.rd.drewN n))
        rw [show (decide (y1 = 0) && decide (y2 < s.size)) = false by simp [EY.out]] at M2
        have hby : (y1 == 0) = false := by simpa using EY.out
        go_wp2_with fail
        refine I2.out.mono ?_
        rintro r W7 ⟨rfl, n7, rfl⟩
        go_wp2_with fail
        refine (M2.out _).mono ?_
        rintro r W8 ⟨rfl, n8, rfl⟩
        have PE := hide ((P12.out.drewN n7).drewN n8)
        rw [World.drewN_drewN] at PE
        clear I2 M2
        go_simp
        generalize hWE : World.drewN W9 (n7 + n8) = WE at *
        clear hWE
        obtain ⟨c0, c1, c2, f1, f2⟩ := PE.out.rd.seen
        obtain ⟨q0, q1, q2, q3, q4⟩ := seen5 PE.out.res
        have z0 := one_free 0 PE.out.res
        have z1 := one_free 1 PE.out.res
        have z2 := one_free 2 PE.out.res
        have z3 := one_free 3 PE.out.res
        have z4 := one_free 4 PE.out.res
        simp only at c0 c1 c2
        go_wp2_with fail
        go_region_held3 (fun w' => w'.cell? ⟨w.heap.size + 1, 1, none⟩ = some (.int .i64 (y2 : Int)) ∧ w'.cell? ⟨w.heap.size + 1, 2, none⟩ = some (.int .i64 y1)) (go_keep) (fail)
        go_wp2_with fail
        obtain ⟨W99, hW99, g99, hb99⟩ := five_world (W := WE) (.string ⟨#[]⟩) (.string ⟨#[]⟩) (.string ⟨#[]⟩) (.slice none 0 0) (.slice none 0 0) PE.out.res
        rw [← hW99]
        refine fin32 _ _ w.heap.size ⟨#[]⟩ ⟨#[]⟩ ⟨#[]⟩ (.slice none 0 0) (.slice none 0 0) y1 y2 ⟨_, _, _, rfl⟩ ⟨_, _, _, rfl⟩ rfl rfl rfl g99 ?_
        exact rpost_err (x := (y2, y1)) HP.out ((PE.out.below.trans (hb99 _ (Nat.le_refl _))).drew)

      | ok xq =>
        obtain ⟨xs, p⟩ := xq
        rw [hid] at hI hp
        obtain ⟨v, rfl, hown, h1, t1⟩ := hI
        simp only at hp hown h1
        have hpl : p ≤ s.size := by
          have := lastE_ends s.data.toList (e + 1) (by rw [HL.out]; omega)
          unfold idsR at hid
          split at hid
          · cases hid
          · cases hid; rw [HL.out] at this; exact this.1
        have P11 := hide (P10.out.turn t1 (x' := (p, 0)) h1)
        obtain ⟨av, cv, rfl⟩ := row_slice hown
        obtain ⟨q0, q1, q2, q3, q4⟩ := seen5 P11.out.ver
        have z0 := one_free 3 P11.out.ver
        have P12 : Hid (PM w (W8.setCell ⟨w.heap.size + 1 + 1, 3, none⟩ (.slice av xs.length cv)) s (p, 0) #[.string (ofL m1), .string (ofL m2), .string (ofL m3), .slice av xs.length cv, .slice none 0 0]) := P11.out.put 3 (.slice av xs.length cv)
        have OV := hide (ownsRow_setCell_below hown (a := ⟨w.heap.size + 1 + 1, 3, none⟩) hsz10 (.slice av xs.length cv))
        have hbp := hsz10
        clear h1 t1 hid P10 hown
        go_wp2_with fail
        generalize W8.setCell ⟨w.heap.size + 1 + 1, 3, none⟩ (.slice av xs.length cv) = W9 at *
        generalize hbb : W7.heap.size = bp at *
        clear P11 q0 q1 q2 q3 q4 z0 hbb
        have I3 := hide (rIs_any (w.heap.size + 1) s p 0 43 W9 P12.out.rd)
        rw [show (decide ((0 : Int) = 0) && atB s.data.toList p 43) = atB s.data.toList p 43 by simp] at I3
        cases h43 : atB s.data.toList p 43
        · rw [h43] at I3
          have hb : Hid (buildR s.data.toList p xs = if p < s.data.toList.length then .error (10, p) else .ok (xs, [])) := by
            show _ = _
            unfold buildR; rw [if_neg (fun hh => by rw [(atB_iff _ _ _).2 hh] at h43; cases h43)]
          rw [hb.out, HL.out] at hp
          clear h43 hb
          go_wp2_with fail
          refine I3.out.mono ?_
          rintro r W21 ⟨rfl, n21, hW21⟩
          have P21 := hide (P12.out.drewN n21)
          rw [← hW21] at P21
          have OV1 := hide (own_turn OV.out (Turn.drewN (w.heap.size + 1) W9 n21) (by omega))
          rw [← hW21] at OV1
          clear hW21 I3 P12 OV
          have OB : Hid (W21.ownsRow (w.heap.size + 3) 9 1 (.slice none 0 0) ([] : List (Nat × Nat)).length (strs s [])) := World.ownsRow_nil _ _ _ _
          have hbb : w.heap.size + 1 + 1 < w.heap.size + 3 := by omega
          have M3 := hide (rmore_any (w.heap.size + 1) s p 0 W21 P21.out.rd)
          by_cases hq : p < s.size
          · rw [show (decide ((0 : Int) = 0) && decide (p < s.size)) = true by simp [hq]] at M3
            rw [if_pos hq] at hp
            simp only at hp
            have HP := hide hp
            clear hp
            go_wp2_with fail
            refine M3.out.mono ?_
            rintro r W31 ⟨rfl, n31, hW31⟩
            have P31 := hide (P21.out.drewN n31)
            rw [← hW31] at P31
            clear hW31 M3
            go_wp2_with fail
            refine (rwrong_any (w.heap.size + 1) s p 0 10 W31 P31.out.rd).mono ?_
            rintro r W32 ⟨rfl, h1, t1⟩
            rw [rerr_0] at h1
            have PE := hide (P31.out.turn t1 (x' := (p, 10)) h1)
            clear h1 t1 P31
            obtain ⟨c0, c1, c2, f1, f2⟩ := PE.out.rd.seen
            obtain ⟨q0, q1, q2, q3, q4⟩ := seen5 PE.out.res
            have z0 := one_free 0 PE.out.res
            have z1 := one_free 1 PE.out.res
            have z2 := one_free 2 PE.out.res
            have z3 := one_free 3 PE.out.res
            have z4 := one_free 4 PE.out.res
            simp only at c0 c1 c2
            go_wp2_with fail
            go_region_held3 (fun w' => w'.cell? ⟨w.heap.size + 1, 1, none⟩ = some (.int .i64 (p : Int)) ∧ w'.cell? ⟨w.heap.size + 1, 2, none⟩ = some (.int .i64 10)) (go_keep) (fail)
            go_wp2_with fail
            obtain ⟨W99, hW99, g99, hb99⟩ := five_world (W := W32) (.string ⟨#[]⟩) (.string ⟨#[]⟩) (.string ⟨#[]⟩) (.slice none 0 0) (.slice none 0 0) PE.out.res
            rw [← hW99]
            refine fin32 _ _ w.heap.size ⟨#[]⟩ ⟨#[]⟩ ⟨#[]⟩ (.slice none 0 0) (.slice none 0 0) 10 p ⟨_, _, _, rfl⟩ ⟨_, _, _, rfl⟩ rfl rfl rfl g99 ?_
            exact rpost_err (x := (p, 10)) HP.out ((PE.out.below.trans (hb99 _ (Nat.le_refl _))).drew)

          · rw [show (decide ((0 : Int) = 0) && decide (p < s.size)) = false by simp [hq]] at M3
            rw [if_neg hq] at hp
            simp only at hp
            have HP := hide hp
            clear hp
            go_wp2_with fail
            refine M3.out.mono ?_
            rintro r W31 ⟨rfl, n31, hW31⟩
            have P31 := hide (P21.out.drewN n31)
            have OV9 := hide (own_turn OV1.out (Turn.drewN (w.heap.size + 1) W21 n31) (by omega))
            have OB9 := hide (own_turn OB.out (Turn.drewN (w.heap.size + 1) W21 n31) (by omega))
            rw [← hW31] at P31 OV9 OB9
            clear hW31 M3
            obtain ⟨c0, c1, c2, f1, f2⟩ := P31.out.rd.seen
            obtain ⟨q0, q1, q2, q3, q4⟩ := seen5 P31.out.res
            obtain ⟨k0, k1, k2, k3, k4⟩ := seen5 P31.out.ver
            have z0 := one_free 0 P31.out.res
            have z1 := one_free 1 P31.out.res
            have z2 := one_free 2 P31.out.res
            have z3 := one_free 3 P31.out.res
            have z4 := one_free 4 P31.out.res
            simp only at c0 c1 c2
            go_wp2_with fail
            obtain ⟨W99, hW99, g99, hb99⟩ := five_world (W := W31) (.string (ofL m1)) (.string (ofL m2)) (.string (ofL m3)) (.slice av xs.length cv) (.slice none 0 0) P31.out.res
            have t99 := five_turn hW99
            rw [← hW99]
            refine fin32 _ _ w.heap.size (ofL m1) (ofL m2) (ofL m3) (.slice av xs.length cv) (.slice none 0 0) 0 0 ⟨_, _, _, rfl⟩ ⟨_, _, _, rfl⟩ rfl rfl rfl g99 ?_
            refine rpost_ok HP.out (P31.out.below.trans (hb99 _ (Nat.le_refl _))) ?_
            rw [HSem.out]
            exact ⟨_, _, rfl, txt_of_row (own_turn OV9.out t99 (by omega)), txt_of_row (own_turn OB9.out t99 (by omega)), fun a i c e => by have := fresh_row OV9.out a i c e; omega, fun a i c e => by have := fresh_row OB9.out a i c e; omega⟩

        · rw [h43] at I3
          have hp1 : p < s.size := by
            rcases Nat.lt_or_ge p s.size with h | h
            · exact h
            · rw [atB_out s p 43 (by omega)] at h43; cases h43
          have hb : Hid (buildR s.data.toList p xs = match idsR false s.data.toList (p + 1) with | .error x => .error x | .ok (b, q) => if q < s.data.toList.length then .error (10, q) else .ok (xs, b)) := by
            show _ = _
            unfold buildR; rw [if_pos ((atB_iff _ _ _).1 h43)]; rfl
          rw [hb.out, HL.out] at hp
          clear h43 hb
          go_wp2_with fail
          refine I3.out.mono ?_
          rintro r W21 ⟨rfl, n21, hW21⟩
          have P21 := hide (P12.out.drewN n21)
          rw [← hW21] at P21
          have OV1 := hide (own_turn OV.out (Turn.drewN (w.heap.size + 1) W9 n21) (by omega))
          rw [← hW21] at OV1
          clear hW21 I3 P12 OV
          obtain ⟨c0, c1, c2, f1, f2⟩ := P21.out.rd.seen
          simp only at c1
          go_wp2_with fail
          have P22 := hide P21.out.step
          have OV2 := hide (own_turn OV1.out (Turn.set (w.heap.size + 1) 1 W21 (.int .i64 ((p : Int) + 1))) (by omega))
          have hsz22 := (Array.getElem?_eq_some_iff.1 P22.out.ver).1
          generalize W21.setCell ⟨w.heap.size + 1, 1, none⟩ (.int .i64 ((p : Int) + 1)) = W22 at *
          clear P21 OV1 c0 c1 c2 f1 f2
          refine (rIdents_any false (w.heap.size + 1) s (p + 1) W22 P22.out.rd (by omega) hs).mono ?_
          rintro r W23 hI
          unfold IdsPost at hI
          cases hid : idsR false s.data.toList (p + 1) with
          | error y =>
            rw [hid] at hI hp
            obtain ⟨rfl, h1, t1⟩ := hI
            have EY := hide (ids_err hid)
            have P23 := hide (P22.out.turn t1 (x' := (y.2, y.1)) h1)
            obtain ⟨y1, y2⟩ := y
            simp only at EY P23 hp
            have HP := hide hp
            clear hp h1 t1 hid P22 OV2
            obtain ⟨q0, q1, q2, q3, q4⟩ := seen5 P23.out.ver
            have z0 := one_free 4 P23.out.ver
            have P24 := hide (P23.out.put 4 (.slice none 0 0))
            go_wp2_with fail
            generalize W23.setCell ⟨w.heap.size + 1 + 1, 4, none⟩ (.slice none 0 0) = W24 at *
            clear P23 q0 q1 q2 q3 q4 z0
            have M2 := hide (fun n => rmore_any (w.heap.size + 1) s y2 y1 (World.drewN W24 n) (P24.out.rd.drewN n))
            rw [show (decide (y1 = 0) && decide (y2 < s.size)) = false by simp [EY.out]] at M2
            have hby : (y1 == 0) = false := by simpa using EY.out
            go_wp2_with fail
            refine (M2.out 0).mono ?_
            rintro r W8 ⟨rfl, n8, rfl⟩
            have PE := hide (P24.out.drewN n8)
            clear M2
            go_simp
            generalize hWE : World.drewN W24 n8 = WE at *
            clear hWE
            obtain ⟨c0, c1, c2, f1, f2⟩ := PE.out.rd.seen
            obtain ⟨q0, q1, q2, q3, q4⟩ := seen5 PE.out.res
            have z0 := one_free 0 PE.out.res
            have z1 := one_free 1 PE.out.res
            have z2 := one_free 2 PE.out.res
            have z3 := one_free 3 PE.out.res
            have z4 := one_free 4 PE.out.res
            simp only at c0 c1 c2
            go_wp2_with fail
            go_region_held3 (fun w' => w'.cell? ⟨w.heap.size + 1, 1, none⟩ = some (.int .i64 (y2 : Int)) ∧ w'.cell? ⟨w.heap.size + 1, 2, none⟩ = some (.int .i64 y1)) (go_keep) (fail)
            go_wp2_with fail
            obtain ⟨W99, hW99, g99, hb99⟩ := five_world (W := WE) (.string ⟨#[]⟩) (.string ⟨#[]⟩) (.string ⟨#[]⟩) (.slice none 0 0) (.slice none 0 0) PE.out.res
            rw [← hW99]
            refine fin32 _ _ w.heap.size ⟨#[]⟩ ⟨#[]⟩ ⟨#[]⟩ (.slice none 0 0) (.slice none 0 0) y1 y2 ⟨_, _, _, rfl⟩ ⟨_, _, _, rfl⟩ rfl rfl rfl g99 ?_
            exact rpost_err (x := (y2, y1)) HP.out ((PE.out.below.trans (hb99 _ (Nat.le_refl _))).drew)

          | ok bq =>
            obtain ⟨bs, q⟩ := bq
            rw [hid] at hI hp
            obtain ⟨v2, rfl, hown, h1, t1⟩ := hI
            simp only at hp hown h1
            have P23 := hide (P22.out.turn t1 (x' := (q, 0)) h1)
            obtain ⟨av2, cv2, rfl⟩ := row_slice hown
            obtain ⟨q0, q1, q2, q3, q4⟩ := seen5 P23.out.ver
            have z0 := one_free 4 P23.out.ver
            have P24 : Hid (PM w (W23.setCell ⟨w.heap.size + 1 + 1, 4, none⟩ (.slice av2 bs.length cv2)) s (q, 0) #[.string (ofL m1), .string (ofL m2), .string (ofL m3), (.slice av xs.length cv), .slice av2 bs.length cv2]) := P23.out.put 4 (.slice av2 bs.length cv2)
            have OB := hide (ownsRow_setCell_below hown (a := ⟨w.heap.size + 1 + 1, 4, none⟩) hsz22 (.slice av2 bs.length cv2))
            have OV3 := hide (ownsRow_setCell_below (own_turn OV2.out t1 (by omega)) (a := ⟨w.heap.size + 1 + 1, 4, none⟩) hbp (.slice av2 bs.length cv2))
            have hbb := hsz22
            clear h1 t1 hid P22 hown OV2
            go_wp2_with fail
            generalize W23.setCell ⟨w.heap.size + 1 + 1, 4, none⟩ (.slice av2 bs.length cv2) = W24 at *
            generalize hbbb : W22.heap.size = bb at *
            clear P23 q0 q1 q2 q3 q4 z0 hbbb
            have M3 := hide (rmore_any (w.heap.size + 1) s q 0 W24 P24.out.rd)
            by_cases hq : q < s.size
            · rw [show (decide ((0 : Int) = 0) && decide (q < s.size)) = true by simp [hq]] at M3
              rw [if_pos hq] at hp
              simp only at hp
              have HP := hide hp
              clear hp
              go_wp2_with fail
              refine M3.out.mono ?_
              rintro r W31 ⟨rfl, n31, hW31⟩
              have P31 := hide (P24.out.drewN n31)
              rw [← hW31] at P31
              clear hW31 M3
              go_wp2_with fail
              refine (rwrong_any (w.heap.size + 1) s q 0 10 W31 P31.out.rd).mono ?_
              rintro r W32 ⟨rfl, h1, t1⟩
              rw [rerr_0] at h1
              have PE := hide (P31.out.turn t1 (x' := (q, 10)) h1)
              clear h1 t1 P31
              obtain ⟨c0, c1, c2, f1, f2⟩ := PE.out.rd.seen
              obtain ⟨q0, q1, q2, q3, q4⟩ := seen5 PE.out.res
              have z0 := one_free 0 PE.out.res
              have z1 := one_free 1 PE.out.res
              have z2 := one_free 2 PE.out.res
              have z3 := one_free 3 PE.out.res
              have z4 := one_free 4 PE.out.res
              simp only at c0 c1 c2
              go_wp2_with fail
              go_region_held3 (fun w' => w'.cell? ⟨w.heap.size + 1, 1, none⟩ = some (.int .i64 (q : Int)) ∧ w'.cell? ⟨w.heap.size + 1, 2, none⟩ = some (.int .i64 10)) (go_keep) (fail)
              go_wp2_with fail
              obtain ⟨W99, hW99, g99, hb99⟩ := five_world (W := W32) (.string ⟨#[]⟩) (.string ⟨#[]⟩) (.string ⟨#[]⟩) (.slice none 0 0) (.slice none 0 0) PE.out.res
              rw [← hW99]
              refine fin32 _ _ w.heap.size ⟨#[]⟩ ⟨#[]⟩ ⟨#[]⟩ (.slice none 0 0) (.slice none 0 0) 10 q ⟨_, _, _, rfl⟩ ⟨_, _, _, rfl⟩ rfl rfl rfl g99 ?_
              exact rpost_err (x := (q, 10)) HP.out ((PE.out.below.trans (hb99 _ (Nat.le_refl _))).drew)

            · rw [show (decide ((0 : Int) = 0) && decide (q < s.size)) = false by simp [hq]] at M3
              rw [if_neg hq] at hp
              simp only at hp
              have HP := hide hp
              clear hp
              go_wp2_with fail
              refine M3.out.mono ?_
              rintro r W31 ⟨rfl, n31, hW31⟩
              have P31 := hide (P24.out.drewN n31)
              have OV9 := hide (own_turn OV3.out (Turn.drewN (w.heap.size + 1) W24 n31) (by omega))
              have OB9 := hide (own_turn OB.out (Turn.drewN (w.heap.size + 1) W24 n31) (by omega))
              rw [← hW31] at P31 OV9 OB9
              clear hW31 M3
              obtain ⟨c0, c1, c2, f1, f2⟩ := P31.out.rd.seen
              obtain ⟨q0, q1, q2, q3, q4⟩ := seen5 P31.out.res
              obtain ⟨k0, k1, k2, k3, k4⟩ := seen5 P31.out.ver
              have z0 := one_free 0 P31.out.res
              have z1 := one_free 1 P31.out.res
              have z2 := one_free 2 P31.out.res
              have z3 := one_free 3 P31.out.res
              have z4 := one_free 4 P31.out.res
              simp only at c0 c1 c2
              go_wp2_with fail
              obtain ⟨W99, hW99, g99, hb99⟩ := five_world (W := W31) (.string (ofL m1)) (.string (ofL m2)) (.string (ofL m3)) (.slice av xs.length cv) (.slice av2 bs.length cv2) P31.out.res
              have t99 := five_turn hW99
              rw [← hW99]
              refine fin32 _ _ w.heap.size (ofL m1) (ofL m2) (ofL m3) (.slice av xs.length cv) (.slice av2 bs.length cv2) 0 0 ⟨_, _, _, rfl⟩ ⟨_, _, _, rfl⟩ rfl rfl rfl g99 ?_
              refine rpost_ok HP.out (P31.out.below.trans (hb99 _ (Nat.le_refl _))) ?_
              rw [HSem.out]
              exact ⟨_, _, rfl, txt_of_row (own_turn OV9.out t99 (by omega)), txt_of_row (own_turn OB9.out t99 (by omega)), fun a i c e => by have := fresh_row OV9.out a i c e; omega, fun a i c e => by have := fresh_row OB9.out a i c e; omega⟩



end Go.Proofs.YtaflflelcdcanaaGreat
