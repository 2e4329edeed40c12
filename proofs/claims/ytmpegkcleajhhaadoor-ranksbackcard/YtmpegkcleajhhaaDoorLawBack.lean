/-
  Proved: for any number and any two rows of spans that are fit sets below it, Union, Meet, Minus, Not and All are fit sets again, Of of List is the set itself, Count is the length of List, and Within holds just where Union with the second is the second; and chapter 7's example holds: RanksBack returns true and leaves its arguments as they were. The listed variables start as the program's text lays them (the card ties them); no condition but that and the form's own reach.
-/
import Derived.Test.YtmpegkcleajhhaaDoorDr
import Derived.Test.YtmpegkcleajhhaaDoorCards
import Derived.SevenTiedAt
namespace Go.Proofs.YtmpegkcleajhhaaDoor
open Go.ChangeShapes Go.WideShapes Go.ChangeAt Go.RowKit
set_option linter.unusedVariables false

namespace RanksBackP
open Go.ChangeMaps (open_string shut_string)
open Go.Shelf

theorem of_list {n : Int} {s : List Sp} (h : fitL n s = true) : ofRL n (listL s) = s := by
  have h' := fitL_iff.1 h
  have hc := cnt_of n h'.1 h'.2.1
  have hw := where_set (atP (marksL (cnt n) (listL s))) (cnt n) (cnt_le n)
  refine hw.eq (IsSet.self h) fun r => ?_
  rw [marks_at, hc]
  by_cases h0 : 0 ≤ r
  · by_cases h1 : r < n
    · have e : ((r.toNat : Nat) : Int) = r := by omega
      have hi : r.toNat < cnt n := by omega
      rw [e]
      simp only [h0, h1, hi, decide_true, Bool.true_and]
      rw [Bool.eq_iff_iff, decide_eq_true_eq, list_mem]
    · rw [fit_out h'.2.2 (.inr (by omega))]
      simp [h1]
  · rw [fit_out h'.2.2 (.inl (by omega))]
    simp [h0]
theorem within_iff {n : Int} {a b s t : List Sp} (ha : fitL n a = true) (hb : fitL n b = true) (hs : IsSet n (fun r => hasL a r && !hasL b r) s) (ht : IsSet n (fun r => hasL a r || hasL b r) t) : decide (s = []) = decide (t = b) := by
  have h' := fitL_iff.1 ha
  rw [Bool.eq_iff_iff, decide_eq_true_eq, decide_eq_true_eq]
  constructor
  · rintro rfl
    refine ht.eq (IsSet.self hb) fun r => ?_
    have := hs.has r
    rw [has_nil] at this
    revert this
    cases hasL a r <;> cases hasL b r <;> simp
  · rintro rfl
    refine hs.eq (m := n) (g := fun _ => false) ⟨fitL_iff.2 ⟨h'.1, h'.2.1, rfl⟩, fun _ => rfl⟩ fun r => ?_
    have := ht.has r
    revert this
    cases hasL a r <;> cases hasL t r <;> simp

set_option maxRecDepth 100000 in
set_option maxHeartbeats 8000000 in
theorem core (n : Int) (aa ab : Option Addr) (la lb ca cb : Nat) (a b : List Sp) (w : World) (hA : Spans w (.slice aa la ca) a) (hB : Spans w (.slice ab lb cb) b) (hT : Tab w) (ha : fitL n a = true) (hb : fitL n b = true)
    (F1 : ∀ W, Below w.heap.size w W → Calls Tryd.prog 8 #[.int .i64 n, .slice aa la ca] W fun e w' => e = .returned (.bool true) ∧ Below W.heap.size W w')
    (F2 : ∀ W, Below w.heap.size w W → Calls Tryd.prog 8 #[.int .i64 n, .slice ab lb cb] W fun e w' => e = .returned (.bool true) ∧ Below W.heap.size W w') :
    Calls Tryd.prog 6 #[.int .i64 n, .slice aa la ca, .slice ab lb cb] w fun e w' => e = .returned (.bool true) ∧ Below w.heap.size w w' := by
  have hn := fitL_iff.1 ha
  have CU := hide (fun W (h : Below w.heap.size w W) => UnionV n _ _ _ _ W (SetV.of (hA.below h) ha) (SetV.of (hB.below h) hb))
  have CM := hide (fun W (h : Below w.heap.size w W) => MeetV n _ _ _ _ W (SetV.of (hA.below h) ha) (SetV.of (hB.below h) hb))
  have CD := hide (fun W (h : Below w.heap.size w W) => MinusV n _ _ _ _ W (SetV.of (hA.below h) ha) (SetV.of (hB.below h) hb))
  have CN := hide (fun W (h : Below w.heap.size w W) => NotV n _ _ W (SetV.of (hA.below h) ha))
  have CL := hide (fun W => AllV n W hn.1 hn.2.1)
  have CI := hide (fun W (h : Below w.heap.size w W) => Within_any n _ _ a b W (hA.below h) (hB.below h) ha hb)
  have CU2 := hide (fun W (h : Below w.heap.size w W) => Union_any n _ _ a b W (hA.below h) (hB.below h) ha hb)
  have CSa := hide (fun W v t (h : Below w.heap.size w W) (h2 : Spans W v t) (h3 : t.length ≤ 1000000000000000) => Same_any v _ t b W h2 (hB.below h) h3)
  have HWI := hide (fun s t => within_iff (s := s) (t := t) ha hb)
  have CW := hide (fun W (b : Below w.heap.size w W) => awake_any W (hT.below b))
  have F1 := hide F1
  have F2 := hide F2
  have CF := hide (fun W v s (h : Spans W v s) (hf : fitL n s = true) => (by have := Fit_any n v s W h (by have := fit_len hf; omega); rwa [hf] at this : Calls Tryd.prog 7 #[.int .i64 n, v] W fun e w' => e = .returned (.bool true) ∧ Below W.heap.size W w'))
  have CLi := hide (fun W v s (h : Spans W v s) (hf : fitL n s = true) => List_any n v s W h hf)
  have CC := hide (fun W v s (h : Spans W v s) (hf : fitL n s = true) => Count_any n v s W h hf)
  have CO := hide (fun W v s (h : Ints W v (listL s)) (hf : fitL n s = true) => (by have := Of_any n v (listL s) W h (by have h1 := list_len hf; have := count_bound hf; omega); rwa [of_list hf] at this : Calls Tryd.prog 10 #[.int .i64 n, v] W (SetPost s W)))
  have CS := hide (fun W v v' s (h : Spans W v s) (h' : Spans W v' s) (hf : fitL n s = true) => (by have := RSame_any v v' s s W h h' (by have := fit_len hf; omega); rwa [decide_eq_true rfl] at this : Calls Tryd.prog 9 #[v, v'] W fun e w' => e = .returned (.bool true) ∧ Below W.heap.size W w'))
  clear hT hA hB ha hb hn
  go_enter Tryd.func6, Tryd.ntmps6
  go_wp2_with fail
  refine (F1.out _ (Below.refl _ _)).mono ?_
  rintro e w1 ⟨rfl, b1⟩
  try dsimp only
  go_wp2_with fail
  refine (F2.out _ b1).mono ?_
  rintro e w2 ⟨rfl, k2⟩
  have b2 : Below w.heap.size w w2 := b1.trans (k2.mono b1.size)
  try dsimp only
  go_wp2_with fail
  refine (CU.out _ b2).mono ?_
  rintro e w3 ⟨v1, rfl, x1, k3⟩
  have b3 : Below w.heap.size w w3 := b2.trans (k3.mono b2.size)
  try dsimp only
  go_wp2_with fail
  refine (CM.out _ b3).mono ?_
  rintro e w4 ⟨v2, rfl, x2, k4⟩
  have b4 : Below w.heap.size w w4 := b3.trans (k4.mono b3.size)
  have x1 := x1.below k4
  try dsimp only
  go_wp2_with fail
  refine (CD.out _ b4).mono ?_
  rintro e w5 ⟨v3, rfl, x3, k5⟩
  have b5 : Below w.heap.size w w5 := b4.trans (k5.mono b4.size)
  have x1 := x1.below k5
  have x2 := x2.below k5
  try dsimp only
  go_wp2_with fail
  refine (CN.out _ b5).mono ?_
  rintro e w6 ⟨v4, rfl, x4, k6⟩
  have b6 : Below w.heap.size w w6 := b5.trans (k6.mono b5.size)
  have x1 := x1.below k6
  have x2 := x2.below k6
  have x3 := x3.below k6
  try dsimp only
  go_wp2_with fail
  refine (CL.out _).mono ?_
  rintro e w7 ⟨v5, rfl, x5, k7⟩
  have b7 : Below w.heap.size w w7 := b6.trans (k7.mono b6.size)
  have x1 := x1.below k7
  have x2 := x2.below k7
  have x3 := x3.below k7
  have x4 := x4.below k7
  try dsimp only
  clear k2 k3 k4 k5 k6 k7 b1 b2 b3 b4 b5 b6
  obtain ⟨s1, ⟨a1, c1, rfl, y1⟩, i1⟩ := x1
  obtain ⟨s2, ⟨a2, c2, rfl, y2⟩, i2⟩ := x2
  obtain ⟨s3, ⟨a3, c3, rfl, y3⟩, i3⟩ := x3
  obtain ⟨s4, ⟨a4, c4, rfl, y4⟩, i4⟩ := x4
  obtain ⟨s5, ⟨a5, c5, rfl, y5⟩, i5⟩ := x5
  go_wp2_with fail
  have bz : Below w7.heap.size w7 (w7.alloc (.cells #[.slice a1 s1.length c1, .slice a2 s2.length c2, .slice a3 s3.length c3, .slice a4 s4.length c4, .slice a5 s5.length c5] 22)) := (Below.refl _ w7).alloc (Nat.le_refl _) _
  have hcs := fun j => World.cell?_alloc_mark w7 #[.slice a1 s1.length c1, .slice a2 s2.length c2, .slice a3 s3.length c3, .slice a4 s4.length c4, .slice a5 s5.length c5] 22 (0, 0) j
  have b8 : Below w.heap.size w (w7.alloc (.cells #[.slice a1 s1.length c1, .slice a2 s2.length c2, .slice a3 s3.length c3, .slice a4 s4.length c4, .slice a5 s5.length c5] 22)) := b7.trans (bz.mono b7.size)
  have hlB : w7.heap.size < (w7.alloc (.cells #[.slice a1 s1.length c1, .slice a2 s2.length c2, .slice a3 s3.length c3, .slice a4 s4.length c4, .slice a5 s5.length c5] 22)).heap.size := by simp
  have EACH : Hid (∀ k, k < 5 → ∃ v s, (w7.alloc (.cells #[.slice a1 s1.length c1, .slice a2 s2.length c2, .slice a3 s3.length c3, .slice a4 s4.length c4, .slice a5 s5.length c5] 22)).cell? ⟨w7.heap.size, k, none⟩ = some v ∧ Spans (w7.alloc (.cells #[.slice a1 s1.length c1, .slice a2 s2.length c2, .slice a3 s3.length c3, .slice a4 s4.length c4, .slice a5 s5.length c5] 22)) v s ∧ fitL n s = true) := by
    intro k hk
    match k, hk with
    | 0, _ => exact ⟨_, s1, hcs 0, Spans.below ⟨a1, c1, rfl, y1⟩ bz, i1.fit⟩
    | 1, _ => exact ⟨_, s2, hcs 1, Spans.below ⟨a2, c2, rfl, y2⟩ bz, i2.fit⟩
    | 2, _ => exact ⟨_, s3, hcs 2, Spans.below ⟨a3, c3, rfl, y3⟩ bz, i3.fit⟩
    | 3, _ => exact ⟨_, s4, hcs 3, Spans.below ⟨a4, c4, rfl, y4⟩ bz, i4.fit⟩
    | 4, _ => exact ⟨_, s5, hcs 4, Spans.below ⟨a5, c5, rfl, y5⟩ bz, i5.fit⟩
  clear hcs bz y1 y2 y3 y4 y5 i1 i2 i3 i4 i5 b7 CU CM CD CN CL
  generalize w7.alloc (.cells #[.slice a1 s1.length c1, .slice a2 s2.length c2, .slice a3 s3.length c3, .slice a4 s4.length c4, .slice a5 s5.length c5] 22) = w8 at *
  generalize w7.heap.size = B at *
  try dsimp only
  go_loopw [36] (fun x wr => ∃ k : Nat, k ≤ 5 ∧ x = .int .i64 k ∧ Below w8.heap.size w8 wr) (fun x _ => 5 - (intOf x).toNat)
  case atStart => exact ⟨0, by omega, rfl, Below.refl _ _⟩
  case round =>
    obtain ⟨k, hk, rfl, hBw⟩ := hrel
    have hb0 : Below w.heap.size w wr := b8.trans (hBw.mono b8.size)
    by_cases hlt : k < 5
    · have hlt' : (k : Int) < 5 := by omega
      obtain ⟨v, s, hcell, hsp, hfit⟩ := EACH.out k hlt
      have ck : wr.cell? ⟨B, k, none⟩ = some v := by rw [← hcell]; simp only [World.cell?]; rw [hBw.block B hlB]
      have hs0 := hsp.below hBw
      have hlen : ((listL s).length : Int) = countL s := list_len hfit
      obtain ⟨va, vc, rfl, _⟩ := hsp
      clear hcell
      try dsimp only
      go_wp2_with fail
      refine (CF.out _ _ _ hs0 hfit).mono ?_
      rintro e u1 ⟨rfl, k1⟩
      have hs1 := hs0.below k1
      have hB1 : Below w8.heap.size w8 u1 := hBw.trans (k1.mono hBw.size)
      try dsimp only
      go_wp2_with fail
      refine (CLi.out _ _ _ hs1 hfit).mono ?_
      rintro e u2 ⟨vl, rfl, hi2, k2⟩
      have hs2 := hs1.below k2
      have hB2 : Below w8.heap.size w8 u2 := hB1.trans (k2.mono hB1.size)
      try dsimp only
      go_wp2_with fail
      refine (CO.out _ _ _ hi2 hfit).mono ?_
      rintro e u3 ⟨vo, rfl, ho3, k3⟩
      have hs3 := hs2.below k3
      have hB3 : Below w8.heap.size w8 u3 := hB2.trans (k3.mono hB2.size)
      try dsimp only
      go_wp2_with fail
      refine (CS.out _ _ _ _ ho3 hs3 hfit).mono ?_
      rintro e u4 ⟨rfl, k4⟩
      have hs4 := hs3.below k4
      have hB4 : Below w8.heap.size w8 u4 := hB3.trans (k4.mono hB3.size)
      try dsimp only
      go_wp2_with fail
      refine (CC.out _ _ _ hs4 hfit).mono ?_
      rintro e u5 ⟨rfl, k5⟩
      have hs5 := hs4.below k5
      have hB5 : Below w8.heap.size w8 u5 := hB4.trans (k5.mono hB4.size)
      try dsimp only
      go_wp2_with fail
      refine (CLi.out _ _ _ hs5 hfit).mono ?_
      rintro e u6 ⟨vl6, rfl, hi6, k6⟩
      have hB6 : Below w8.heap.size w8 u6 := hB5.trans (k6.mono hB5.size)
      obtain ⟨al6, cl6, rfl, _⟩ := hi6
      have hq : (countL s != ((listL s).length : Int)) = false := by rw [hlen]; simp
      clear hs0 hs1 hs2 hs3 hs4 hs5 k1 k2 k3 k4 k5 k6 hB1 hB2 hB3 hB4 hB5 ho3 hlen
      try dsimp only
      go_wp2_with fail
      go_roundw
      case rel => exact ⟨k + 1, by omega, by go_num, hB6⟩
      case measure => simp [intOf]; omega
    · have hlt' : ¬ (k : Int) < 5 := by omega
      try dsimp only
      go_wp2_with fail
      refine (CI.out _ hb0).mono ?_
      rintro e u1 ⟨⟨s, is, rfl⟩, k1⟩
      have c1 : Below w.heap.size w u1 := hb0.trans (k1.mono hb0.size)
      try dsimp only
      go_wp2_with fail
      refine (CU2.out _ c1).mono ?_
      rintro e u2 ⟨vt, t, rfl, ht, it, k2⟩
      have c2 : Below w.heap.size w u2 := c1.trans (k2.mono c1.size)
      try dsimp only
      go_wp2_with fail
      refine (CSa.out _ _ _ c2 ht (by have := fit_len it.fit; omega)).mono ?_
      rintro e u3 ⟨rfl, k3⟩
      have c3 : Below w.heap.size w u3 := c2.trans (k3.mono c2.size)
      have hq : (decide (s = []) == decide (t = b)) = true := by rw [HWI.out s t is it]; simp
      generalize decide (s = []) = q1 at *
      generalize decide (t = b) = q2 at *
      clear is it ht
      try dsimp only
      go_wp2_with fail
      refine (CW.out _ c3).mono ?_
      rintro e u4 ⟨rfl, k4⟩
      have c4 : Below w.heap.size w u4 := c3.trans (k4.mono c3.size)
      try dsimp only
      go_wp2_with fail
      go_ret
      exact ⟨rfl, c4⟩

set_option maxRecDepth 100000 in
set_option maxHeartbeats 4000000 in
theorem walk (n : Int) (va : Value) (a : List Sp) (vb : Value) (b : List Sp) (w : World) (hA : Spans w va a) (zA : a.length ≤ 1000000000000000) (hB : Spans w vb b) (zB : b.length ≤ 1000000000000000) (hT : Tab w) :
    Calls Tryd.prog 6 #[.int .i64 n, va, vb] w fun e w' => e = .returned (.bool true) ∧ Below w.heap.size w w' := by
  have F1 := fun W (hb : Below w.heap.size w W) => RFit_any n va a W (hA.below hb) zA
  have F2 := fun W (hb : Below w.heap.size w W) => RFit_any n vb b W (hB.below hb) zB
  have CW := hide (fun W (b : Below w.heap.size w W) => awake_any W (hT.below b))
  have kA := hA
  have kB := hB
  obtain ⟨aa, ca, rfl, _⟩ := hA
  obtain ⟨ab, cb, rfl, _⟩ := hB
  cases ha : fitL n a
  · rw [ha] at F1
    have F1 := hide F1
    clear F2 hT kA kB
    go_enter Tryd.func6, Tryd.ntmps6
    go_wp2_with fail
    refine (F1.out _ (Below.refl _ _)).mono ?_
    rintro e w1 ⟨rfl, b1⟩
    try dsimp only
    go_wp2_with fail
    refine (CW.out _ b1).mono ?_
    rintro e w2 ⟨rfl, k2⟩
    have b2 : Below w.heap.size w w2 := b1.trans (k2.mono b1.size)
    try dsimp only
    go_wp2_with fail
    go_ret
    exact ⟨rfl, b2⟩
  cases hb : fitL n b
  · rw [ha] at F1
    rw [hb] at F2
    have F1 := hide F1
    have F2 := hide F2
    clear hT kA kB
    go_enter Tryd.func6, Tryd.ntmps6
    go_wp2_with fail
    refine (F1.out _ (Below.refl _ _)).mono ?_
    rintro e w1 ⟨rfl, b1⟩
    try dsimp only
    go_wp2_with fail
    refine (F2.out _ b1).mono ?_
    rintro e w2 ⟨rfl, k2⟩
    have b2 : Below w.heap.size w w2 := b1.trans (k2.mono b1.size)
    try dsimp only
    go_wp2_with fail
    refine (CW.out _ b2).mono ?_
    rintro e w3 ⟨rfl, k3⟩
    have b3 : Below w.heap.size w w3 := b2.trans (k3.mono b2.size)
    try dsimp only
    go_wp2_with fail
    go_ret
    exact ⟨rfl, b3⟩
  rw [ha] at F1
  rw [hb] at F2
  exact core n aa ab _ _ ca cb a b w kA kB hT ha hb F1 F2

set_option maxRecDepth 100000 in
theorem lifted (os : Os) (started : os.Started) (H : Type) (enc : TypeId × Value → H) :
    ReturnsInHanded {} Tryd.checked os 6 .any (fun w args => (Rows.ranksBackSpec.pre enc Tryd.prog Tryd.f6 [] false w args ∧ laidMetH Tryd.prog laidV w) ∧ sizedMet enc Tryd.prog Tryd.f6 (OpenSpec.ofChange Rows.ranksBackSpec) false w args)
      (Rows.ranksBackSpec.post enc Tryd.prog Tryd.f6 false true false false) := by
  refine returnsInHanded_of_change_and (C := Tryd.checked) (X := fun w _ => laidMetH Tryd.prog laidV w) (fun _ _ _ hh h => h.of_heap hh) ownK started (by kernel_rfl) Tryd.func6
    (ChangeSpec.witness_shaped (enc := enc) (C := Tryd.checked) (os := os) (X := fun w _ => laidMetH Tryd.prog laidV w) false (World.doorLaid Tryd.prog 400 os) #[.int .i64 0, .slice none 0 0, .slice none 0 0] 8 rfl (World.shaped_of_RefB (by kernel_rfl) (by kernel_rfl)) (by kernel_rfl) (by kernel_rfl) (by kernel_rfl) (door_met os _)) ?_
  intro W base args ds gs before hval0 hW _ hsz0 hL _
  have hval : ∀ (j : Nat) t v, Tryd.f6.params[j]? = some t → args[j]? = some v → Value.okWide Tryd.prog W .any base t v := hval0
  have hsz : (DataW.weightsEach Tryd.prog (Tryd.f6.params.toList ++ Rows.ranksBackSpec.plain.varTypes Tryd.prog) (ds ++ gs)).all (· ≤ reachBytes) = true := hsz0
  have hW' := hW
  obtain ⟨p, q, hA0, hV, rfl, hfz, hnd⟩ := hW
  have hA : DataW.TrodAll enc Tryd.prog W 0 (fun _ => true) true Tryd.f6.params.toList args.toList ds p := hA0
  rw [Tryd.params6] at hA hval hsz
  obtain ⟨v0, vs0, d0, ds0, p0, q0, hargs, rfl, rfl, h0, r0⟩ := trodAll_cons hA
  obtain ⟨v1, vs1, d1, ds1, p1, q1, rfl, rfl, rfl, h1, r1⟩ := trodAll_cons r0
  obtain ⟨v2, vs2, d2, ds2, p2, q2, rfl, rfl, rfl, h2, r2⟩ := trodAll_cons r1
  obtain ⟨rfl, rfl, rfl⟩ := trodAll_nil r2
  obtain rfl : args = #[v0, v1, v2] := by cases args; simp_all
  obtain ⟨rfl, rfl⟩ := trodVars_none hV
  obtain ⟨a0, rfl, rfl, rfl, w0⟩ := open_int Tryd.underlying3 (hval 0 3 v0 rfl rfl) h0
  have k1 := h1
  have lt1 : ∀ x ∈ p1, x.block < W.heap.size := by obtain ⟨m, hm⟩ := k1; exact DataW.trod_lt m _ _ _ hm
  obtain ⟨b1, l1, c1, rfl⟩ := okWide_slice Tryd.underlying22 (hval 1 22 v1 rfl rfl)
  obtain ⟨m1, hm1⟩ := h1
  obtain ⟨a1, n1, e1, s1, hv1, hl1, hS1, hz1⟩ := open_spans (hm1 : DataW.trod enc Tryd.prog W 0 _ true m1 22 [.slice b1 l1 c1] = some (d1, p1))
  cases hv1
  have hb1 := row_len hsz (j := 1) (t := 22) (e := 45) rfl rfl Tryd.underlying22 (by rw [bytes45]; decide) hz1
  have k2 := h2
  have lt2 : ∀ x ∈ p2, x.block < W.heap.size := by obtain ⟨m, hm⟩ := k2; exact DataW.trod_lt m _ _ _ hm
  obtain ⟨b2, l2, c2, rfl⟩ := okWide_slice Tryd.underlying22 (hval 2 22 v2 rfl rfl)
  obtain ⟨m2, hm2⟩ := h2
  obtain ⟨a2, n2, e2, s2, hv2, hl2, hS2, hz2⟩ := open_spans (hm2 : DataW.trod enc Tryd.prog W 0 _ true m2 22 [.slice b2 l2 c2] = some (d2, p2))
  cases hv2
  have hb2 := row_len hsz (j := 2) (t := 22) (e := 45) rfl rfl Tryd.underlying22 (by rw [bytes45]; decide) hz2
  have hk := of_laid hL
  clear hA0 hval0 hsz0 hsz
  refine (walk a0 _ s1 _ s2 W hS1 (by rw [hl1]; exact hb1) hS2 (by rw [hl2]; exact hb2) hk).mono fun e W' ⟨he, bel⟩ => ?_
  subst he
  exact ⟨_, rfl, _, _, _, [], _, [], hW', trodAll_mk1 (shut_bool Tryd.underlying4 _), (trodAll_cons_mk (shut_int Tryd.underlying3 w0) (trodAll_cons_mk (Below.trod laidOut (by kernel_rfl) (of_decide_eq_true (by kernel_rfl)) k1 bel lt1) (trodAll_cons_mk (Below.trod laidOut (by kernel_rfl) (of_decide_eq_true (by kernel_rfl)) k2 bel lt2) trodAll_mk0))), rfl, bel.frame _, fun h => by cases h⟩

theorem over : Rows.ranksBackRow.holds Tryd.pinned (OpenSpec.ofChange Rows.ranksBackSpec) :=
  OpenClaim.holds_of_wide 6 Tryd.f6 rfl rfl rfl rfl rfl rfl rfl ⟨rfl, rfl, rfl, rfl, rfl⟩ rfl rfl rfl rfl rfl (by kernel_rfl) Tryd.func6 (by kernel_rfl)
    (of_decide_eq_true (by kernel_rfl)) (by unfold Func.isWrapper; first | (rw [if_pos (by decide +kernel)]; kernel_rfl) | (rw [if_neg (by decide +kernel)]; exact ⟨rfl, rfl⟩))
    (fun os started H enc _ => lifted os started H enc)

theorem card : Claim7.holds Tryd.pinned (.plain (OpenSpec.ofChange Rows.ranksBackSpec)) Rows.ranksBackCard :=
  Claim7.holds_tied_plain_at .later [] [.data, .data, .data] true (true, "7538bfbc963d9866992706910c0bf13ef14b8610dd84b3703efe6427513f24f8") false
    over (fun _ h => by cases h) (by kernel_rfl) (fun _ h => by cases h) ranksBack_row_tie rfl ⟨rfl, rfl⟩ (by kernel_rfl) rfl
    (fun f fn hf hfn => by
      obtain rfl : f = 6 := Option.some.inj ((show Tryd.prog.funcNamed "dovetail/dovetaillaw07.RanksBack" = some 6 by kernel_rfl).symm.trans hf) |>.symm
      obtain rfl : fn = Tryd.f6 := (Option.some.inj (Tryd.func6.symm.trans hfn)).symm
      exact ⟨by kernel_rfl, fun j t ht => by
        rw [Tryd.params6] at ht
        have hm : t ∈ [3, 22, 22] := by simpa using Array.mem_of_getElem? ht
        have hall : ([3, 22, 22].all fun u => !Tryd.prog.wantsStandIn u) = true := by kernel_rfl
        exact (show Tryd.prog.wantsStandIn t = false by simpa using List.all_eq_true.1 hall t hm)⟩)
    (by kernel_rfl)
end RanksBackP

theorem ranksBack_holds : Rows.RanksBackCardSaid := RanksBackP.card
#print axioms ranksBack_holds

end Go.Proofs.YtmpegkcleajhhaaDoor
