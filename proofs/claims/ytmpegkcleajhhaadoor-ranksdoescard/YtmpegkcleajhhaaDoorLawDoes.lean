/-
  Proved: for any number, any two rows of spans and any rank, Same is the document's; and where both are fit sets below the number, Union, Meet, Minus, Not, Has, List, Count, Within, Same and Text are the document's, and the sets stay as they are; and chapter 7's example holds: RanksDoes returns true and leaves its arguments as they were. The listed variables start as the program's text lays them (the card ties them); no condition but that and the form's own reach.
-/
import Derived.Test.YtmpegkcleajhhaaDoorDr
import Derived.Test.YtmpegkcleajhhaaDoorDt
import Derived.Test.YtmpegkcleajhhaaDoorDu
import Derived.Test.YtmpegkcleajhhaaDoorCards
import Derived.SevenTiedAt
namespace Go.Proofs.YtmpegkcleajhhaaDoor
open Go.ChangeShapes Go.WideShapes Go.ChangeAt Go.RowKit
set_option linter.unusedVariables false

namespace RanksDoesP
open Go.ChangeMaps (open_string shut_string)
open Go.Shelf

/-- A nil slice that came in has no room. -/
theorem nil_room {H : Type} {enc : TypeId × Value → H} {W : World} {fuel : Nat} {c : Value} {y : DataW H × List MemPlace} (h : DataW.trod enc Tryd.prog W 0 (fun _ => true) true fuel 22 [c] = some y) : ∀ n cap, c = .slice none n cap → cap = 0 := by
  rintro n cap rfl
  rcases Go.Deep.open_slice Tryd.underlying22 h with ⟨hcs, _⟩ | ⟨a, len, cap', m, n', D, Pl, hcs, _⟩
  · simp at hcs; omega
  · simp at hcs
theorem RUnionV (n : Int) (va vb : Value) (f g : Int → Bool) (w : World) (hA : SetV n w va f) (hB : SetV n w vb g) : Calls Tryd.prog 20 #[va, vb] w (SetP n (fun r => f r || g r) w) := by
  obtain ⟨a, a1, a2⟩ := hA
  obtain ⟨b, b1, b2⟩ := hB
  exact (RUnion_any n va vb a b w a1 b1 a2.fit b2.fit).mono fun e w' h => of_made h fun x => by rw [a2.has, b2.has]
theorem RMeetV (n : Int) (va vb : Value) (f g : Int → Bool) (w : World) (hA : SetV n w va f) (hB : SetV n w vb g) : Calls Tryd.prog 22 #[va, vb] w (SetP n (fun r => f r && g r) w) := by
  obtain ⟨a, a1, a2⟩ := hA
  obtain ⟨b, b1, b2⟩ := hB
  exact (RMeet_any n va vb a b w a1 b1 a2.fit b2.fit).mono fun e w' h => of_made h fun x => by rw [a2.has, b2.has]
theorem RMinusV (n : Int) (va vb : Value) (f g : Int → Bool) (w : World) (hA : SetV n w va f) (hB : SetV n w vb g) : Calls Tryd.prog 24 #[va, vb] w (SetP n (fun r => f r && !g r) w) := by
  obtain ⟨a, a1, a2⟩ := hA
  obtain ⟨b, b1, b2⟩ := hB
  exact (RMinus_any n va vb a b w a1 b1 a2.fit b2.fit).mono fun e w' h => of_made h fun x => by rw [a2.has, b2.has]
theorem RNotV (n : Int) (va : Value) (f : Int → Bool) (w : World) (hA : SetV n w va f) : Calls Tryd.prog 26 #[.int .i64 n, va] w (SetP n (fun r => inR n r && !f r) w) := by
  obtain ⟨a, a1, a2⟩ := hA
  exact (RNot_any n va a w a1 a2.fit).mono fun e w' h => of_made h fun x => by rw [a2.has]; rfl
/-- What Within tells. -/
def noneB (n : Int) (a b : List Sp) : Bool := decide (∀ k : Nat, k < n.toNat → (hasL a (k : Int) && !hasL b (k : Int)) = false)
theorem none_is {n : Int} {a b s : List Sp} (ha : fitL n a = true) (h : IsSet n (fun r => hasL a r && !hasL b r) s) : decide (s = []) = noneB n a b := by
  have h' := fitL_iff.1 ha
  unfold noneB
  rw [Bool.eq_iff_iff, decide_eq_true_eq, decide_eq_true_eq]
  constructor
  · rintro rfl k _
    rw [← h.has (k : Int), has_nil]
  · intro hk
    refine h.eq (m := n) (g := fun _ => false) ⟨fitL_iff.2 ⟨h'.1, h'.2.1, rfl⟩, fun _ => rfl⟩ fun r => ?_
    by_cases hr : 0 ≤ r ∧ r < n
    · have := hk r.toNat (by omega)
      rwa [show ((r.toNat : Nat) : Int) = r by omega] at this
    · rw [fit_out h'.2.2 (by omega)]; rfl

set_option maxRecDepth 100000 in
set_option maxHeartbeats 8000000 in
theorem core (n : Int) (aa ab : Option Addr) (la lb ca cb : Nat) (rank : Int) (a b : List Sp) (w : World) (hA : Spans w (.slice aa la ca) a) (hB : Spans w (.slice ab lb cb) b) (na : aa = none → ca = 0) (nb : ab = none → cb = 0) (hT : Tab w) (ha : fitL n a = true) (hb : fitL n b = true)
    (F1 : ∀ W, Below w.heap.size w W → Calls Tryd.prog 8 #[.int .i64 n, .slice aa la ca] W fun e w' => e = .returned (.bool true) ∧ Below W.heap.size W w')
    (F2 : ∀ W, Below w.heap.size w W → Calls Tryd.prog 8 #[.int .i64 n, .slice ab lb cb] W fun e w' => e = .returned (.bool true) ∧ Below W.heap.size W w') :
    Calls Tryd.prog 4 #[.int .i64 n, .slice aa la ca, .slice ab lb cb, .int .i64 rank] w fun e w' => e = .returned (.bool true) ∧ Below w.heap.size w w' := by
  have lA := fit_len ha
  have lB := fit_len hb
  have P1 := hide (fun W (h : Below w.heap.size w W) => copied_any (.slice aa la ca) a W (hA.below h) (by omega) (by rintro n c e; cases e; exact na rfl))
  have P2 := hide (fun W (h : Below w.heap.size w W) => copied_any (.slice ab lb cb) b W (hB.below h) (by omega) (by rintro n c e; cases e; exact nb rfl))
  have CU := hide (fun W va vb (h1 : Spans W va a) (h2 : Spans W vb b) => UnionV n va vb _ _ W (SetV.of h1 ha) (SetV.of h2 hb))
  have CM := hide (fun W va vb (h1 : Spans W va a) (h2 : Spans W vb b) => MeetV n va vb _ _ W (SetV.of h1 ha) (SetV.of h2 hb))
  have CD := hide (fun W va vb (h1 : Spans W va a) (h2 : Spans W vb b) => MinusV n va vb _ _ W (SetV.of h1 ha) (SetV.of h2 hb))
  have CN := hide (fun W va (h1 : Spans W va a) => NotV n va _ W (SetV.of h1 ha))
  have RU := hide (fun W (h1 : Spans W (.slice aa la ca) a) (h2 : Spans W (.slice ab lb cb) b) => RUnionV n _ _ _ _ W (SetV.of h1 ha) (SetV.of h2 hb))
  have RM := hide (fun W (h1 : Spans W (.slice aa la ca) a) (h2 : Spans W (.slice ab lb cb) b) => RMeetV n _ _ _ _ W (SetV.of h1 ha) (SetV.of h2 hb))
  have RD := hide (fun W (h1 : Spans W (.slice aa la ca) a) (h2 : Spans W (.slice ab lb cb) b) => RMinusV n _ _ _ _ W (SetV.of h1 ha) (SetV.of h2 hb))
  have RN := hide (fun W (h1 : Spans W (.slice aa la ca) a) => RNotV n _ _ W (SetV.of h1 ha))
  have CS := hide (RSameV n)
  have CH := hide (fun W va (h1 : Spans W va a) => Has_any n va a rank W h1 ha (by omega))
  have RH := (fun W (h1 : Spans W (.slice aa la ca) a) => (RHas_any (.slice aa la ca) a rank W h1 (by omega)).mono fun e w' (h : e = .returned (.bool (hasL a rank)) ∧ w' = W) => (⟨h.1, by rw [h.2]; exact Below.refl _ _⟩ : e = .returned (.bool (hasL a rank)) ∧ Below W.heap.size W w'))
  have RH := hide RH
  have CLi := hide (fun W va (h1 : Spans W va a) => List_any n va a W h1 ha)
  have RLi := hide (fun W (h1 : Spans W (.slice aa la ca) a) => RList_any n (.slice aa la ca) a W h1 ha)
  have LL : (listL a).length ≤ 1000000000000000 := by have := list_len ha; have := count_bound ha; omega
  have CI := hide (fun W v1 v2 (h1 : Ints W v1 (listL a)) (h2 : Ints W v2 (listL a)) => (by have := ints_any v1 v2 _ _ W h1 h2 LL; rwa [decide_eq_true rfl] at this : Calls Tryd.prog 29 #[v1, v2] W fun e w' => e = .returned (.bool true) ∧ Below W.heap.size W w'))
  have CC := hide (fun W va (h1 : Spans W va a) => Count_any n va a W h1 ha)
  have RC := hide (fun W (h1 : Spans W (.slice aa la ca) a) => RCount_any n (.slice aa la ca) a W h1 ha)
  have CW := hide (fun W va vb (h1 : Spans W va a) (h2 : Spans W vb b) => (Within_any n va vb a b W h1 h2 ha hb).mono fun e w' h => (by obtain ⟨⟨s, hs, he⟩, hb'⟩ := h; rw [none_is ha hs] at he; exact ⟨he, hb'⟩ : e = .returned (.bool (noneB n a b)) ∧ Below W.heap.size W w'))
  have RW := hide (fun W (h1 : Spans W (.slice aa la ca) a) (h2 : Spans W (.slice ab lb cb) b) => (RWithin_any n (.slice aa la ca) (.slice ab lb cb) a b W h1 h2 ha hb).mono fun e w' h => (by obtain ⟨⟨s, hs, he⟩, hb'⟩ := h; rw [none_is ha hs] at he; exact ⟨he, hb'⟩ : e = .returned (.bool (noneB n a b)) ∧ Below W.heap.size W w'))
  have CE := hide (fun W va vb (h1 : Spans W va a) (h2 : Spans W vb b) => Same_any va vb a b W h1 h2 (by omega))
  have RE := hide (fun W (h1 : Spans W (.slice aa la ca) a) (h2 : Spans W (.slice ab lb cb) b) => RSame_any (.slice aa la ca) (.slice ab lb cb) a b W h1 h2 (by omega))
  have CT := hide (fun W va (hb' : Below w.heap.size w W) (h1 : Spans W va a) => Text_any n va a W h1 ha (hT.below hb'))
  have RT := hide (fun W (hb' : Below w.heap.size w W) (h1 : Spans W (.slice aa la ca) a) => RText_any n (.slice aa la ca) a W h1 ha (hT.below hb'))
  have CX := hide (fun W va (h1 : Spans W va a) (h2 : Spans W (.slice aa la ca) a) => RSameV n va (.slice aa la ca) _ _ W (SetV.of h1 ha) (SetV.of h2 ha) (fun _ => rfl))
  have CY := hide (fun W va (h1 : Spans W va b) (h2 : Spans W (.slice ab lb cb) b) => RSameV n va (.slice ab lb cb) _ _ W (SetV.of h1 hb) (SetV.of h2 hb) (fun _ => rfl))
  have CK := hide (fun W (hb' : Below w.heap.size w W) => awake_any W (hT.below hb'))
  have F1 := hide F1
  have F2 := hide F2
  have sa := hA
  have sb := hB
  clear hA hB hT ha hb na nb lA lB LL
  generalize hasL a rank = d1 at *
  generalize countL a = d2 at *
  generalize noneB n a b = d3 at *
  generalize decide (a = b) = d4 at *
  generalize ofL (textL a) = d5 at *
  have q1 : (d1 == d1) = true := by simp
  have q2 : (d2 == d2) = true := by simp
  have q3 : (d3 == d3) = true := by simp
  have q4 : (d4 == d4) = true := by simp
  have q5 : (d5.toList == d5.toList) = true := by simp
  go_enter Tryd.func4, Tryd.ntmps4
  go_wp2_with fail
  refine (F1.out _ (Below.refl _ _)).mono ?_
  rintro e u1 ⟨rfl, c1⟩
  have sa := sa.below c1
  have sb := sb.below c1
  try dsimp only
  go_wp2_with fail
  refine (F2.out _ c1).mono ?_
  rintro e u2 ⟨rfl, k2⟩
  have c2 : Below w.heap.size w u2 := c1.trans (k2.mono c1.size)
  have sa := sa.below k2
  have sb := sb.below k2
  clear c1 k2
  try dsimp only
  go_wp2_with fail
  refine (P1.out _ c2).mono ?_
  rintro e u3 ⟨vx, rfl, sx, k3⟩
  have c3 : Below w.heap.size w u3 := c2.trans (k3.mono c2.size)
  have sa := sa.below k3
  have sb := sb.below k3
  clear c2 k3
  try dsimp only
  go_wp2_with fail
  refine (P2.out _ c3).mono ?_
  rintro e u4 ⟨vy, rfl, sy, k4⟩
  have c4 : Below w.heap.size w u4 := c3.trans (k4.mono c3.size)
  have sa := sa.below k4
  have sb := sb.below k4
  have sx := sx.below k4
  clear c3 k4
  try dsimp only
  have b0 := c4
  have sx_0 := sx
  have sy_0 := sy
  have sa_0 := sa
  have sb_0 := sb
  clear sx sy sa sb c4
  go_wp2_with fail
  refine (CU.out _ _ _ sx_0 sy_0).mono ?_
  rintro e w1 ⟨v19, rfl, p19_1, k1⟩
  have b1 : Below w.heap.size w w1 := b0.trans (k1.mono b0.size)
  have sx_1 := sx_0.below k1
  have sy_1 := sy_0.below k1
  have sa_1 := sa_0.below k1
  have sb_1 := sb_0.below k1
  clear b0 k1 sx_0 sy_0 sa_0 sb_0
  try dsimp only
  go_wp2_with fail
  refine (RU.out _ sa_1 sb_1).mono ?_
  rintro e w2 ⟨v20, rfl, p20_2, k2⟩
  have b2 : Below w.heap.size w w2 := b1.trans (k2.mono b1.size)
  have sx_2 := sx_1.below k2
  have sy_2 := sy_1.below k2
  have sa_2 := sa_1.below k2
  have sb_2 := sb_1.below k2
  have p19_2 := p19_1.below k2
  clear b1 k2 sx_1 sy_1 sa_1 sb_1 p19_1
  try dsimp only
  go_wp2_with fail
  refine (CS.out _ _ _ _ _ p19_2 p20_2 (fun _ => rfl)).mono ?_
  rintro e w3 ⟨rfl, k3⟩
  have b3 : Below w.heap.size w w3 := b2.trans (k3.mono b2.size)
  have sx_3 := sx_2.below k3
  have sy_3 := sy_2.below k3
  have sa_3 := sa_2.below k3
  have sb_3 := sb_2.below k3
  have p19_3 := p19_2.below k3
  have p20_3 := p20_2.below k3
  clear b2 k3 sx_2 sy_2 sa_2 sb_2 p19_2 p20_2
  try dsimp only
  go_wp2_with fail
  refine (CM.out _ _ _ sx_3 sy_3).mono ?_
  rintro e w4 ⟨v21, rfl, p21_4, k4⟩
  have b4 : Below w.heap.size w w4 := b3.trans (k4.mono b3.size)
  have sx_4 := sx_3.below k4
  have sy_4 := sy_3.below k4
  have sa_4 := sa_3.below k4
  have sb_4 := sb_3.below k4
  clear b3 k4 sx_3 sy_3 sa_3 sb_3
  try dsimp only
  go_wp2_with fail
  refine (RM.out _ sa_4 sb_4).mono ?_
  rintro e w5 ⟨v22, rfl, p22_5, k5⟩
  have b5 : Below w.heap.size w w5 := b4.trans (k5.mono b4.size)
  have sx_5 := sx_4.below k5
  have sy_5 := sy_4.below k5
  have sa_5 := sa_4.below k5
  have sb_5 := sb_4.below k5
  have p21_5 := p21_4.below k5
  clear b4 k5 sx_4 sy_4 sa_4 sb_4 p21_4
  try dsimp only
  go_wp2_with fail
  refine (CS.out _ _ _ _ _ p21_5 p22_5 (fun _ => rfl)).mono ?_
  rintro e w6 ⟨rfl, k6⟩
  have b6 : Below w.heap.size w w6 := b5.trans (k6.mono b5.size)
  have sx_6 := sx_5.below k6
  have sy_6 := sy_5.below k6
  have sa_6 := sa_5.below k6
  have sb_6 := sb_5.below k6
  have p21_6 := p21_5.below k6
  have p22_6 := p22_5.below k6
  clear b5 k6 sx_5 sy_5 sa_5 sb_5 p21_5 p22_5
  try dsimp only
  go_wp2_with fail
  refine (CD.out _ _ _ sx_6 sy_6).mono ?_
  rintro e w7 ⟨v23, rfl, p23_7, k7⟩
  have b7 : Below w.heap.size w w7 := b6.trans (k7.mono b6.size)
  have sx_7 := sx_6.below k7
  have sy_7 := sy_6.below k7
  have sa_7 := sa_6.below k7
  have sb_7 := sb_6.below k7
  clear b6 k7 sx_6 sy_6 sa_6 sb_6
  try dsimp only
  go_wp2_with fail
  refine (RD.out _ sa_7 sb_7).mono ?_
  rintro e w8 ⟨v24, rfl, p24_8, k8⟩
  have b8 : Below w.heap.size w w8 := b7.trans (k8.mono b7.size)
  have sx_8 := sx_7.below k8
  have sy_8 := sy_7.below k8
  have sa_8 := sa_7.below k8
  have sb_8 := sb_7.below k8
  have p23_8 := p23_7.below k8
  clear b7 k8 sx_7 sy_7 sa_7 sb_7 p23_7
  try dsimp only
  go_wp2_with fail
  refine (CS.out _ _ _ _ _ p23_8 p24_8 (fun _ => rfl)).mono ?_
  rintro e w9 ⟨rfl, k9⟩
  have b9 : Below w.heap.size w w9 := b8.trans (k9.mono b8.size)
  have sx_9 := sx_8.below k9
  have sy_9 := sy_8.below k9
  have sa_9 := sa_8.below k9
  have sb_9 := sb_8.below k9
  have p23_9 := p23_8.below k9
  have p24_9 := p24_8.below k9
  clear b8 k9 sx_8 sy_8 sa_8 sb_8 p23_8 p24_8
  try dsimp only
  go_wp2_with fail
  refine (CN.out _ _ sx_9).mono ?_
  rintro e w10 ⟨v25, rfl, p25_10, k10⟩
  have b10 : Below w.heap.size w w10 := b9.trans (k10.mono b9.size)
  have sx_10 := sx_9.below k10
  have sy_10 := sy_9.below k10
  have sa_10 := sa_9.below k10
  have sb_10 := sb_9.below k10
  clear b9 k10 sx_9 sy_9 sa_9 sb_9
  try dsimp only
  go_wp2_with fail
  refine (RN.out _ sa_10).mono ?_
  rintro e w11 ⟨v26, rfl, p26_11, k11⟩
  have b11 : Below w.heap.size w w11 := b10.trans (k11.mono b10.size)
  have sx_11 := sx_10.below k11
  have sy_11 := sy_10.below k11
  have sa_11 := sa_10.below k11
  have sb_11 := sb_10.below k11
  have p25_11 := p25_10.below k11
  clear b10 k11 sx_10 sy_10 sa_10 sb_10 p25_10
  try dsimp only
  go_wp2_with fail
  refine (CS.out _ _ _ _ _ p25_11 p26_11 (fun _ => rfl)).mono ?_
  rintro e w12 ⟨rfl, k12⟩
  have b12 : Below w.heap.size w w12 := b11.trans (k12.mono b11.size)
  have sx_12 := sx_11.below k12
  have sy_12 := sy_11.below k12
  have sa_12 := sa_11.below k12
  have sb_12 := sb_11.below k12
  have p25_12 := p25_11.below k12
  have p26_12 := p26_11.below k12
  clear b11 k12 sx_11 sy_11 sa_11 sb_11 p25_11 p26_11
  try dsimp only
  go_wp2_with fail
  refine (CH.out _ _ sx_12).mono ?_
  rintro e w13 ⟨rfl, k13⟩
  have b13 : Below w.heap.size w w13 := b12.trans (k13.mono b12.size)
  have sx_13 := sx_12.below k13
  have sy_13 := sy_12.below k13
  have sa_13 := sa_12.below k13
  have sb_13 := sb_12.below k13
  clear b12 k13 sx_12 sy_12 sa_12 sb_12
  try dsimp only
  go_wp2_with fail
  refine (RH.out _ sa_13).mono ?_
  rintro e w14 ⟨rfl, k14⟩
  have b14 : Below w.heap.size w w14 := b13.trans (k14.mono b13.size)
  have sx_14 := sx_13.below k14
  have sy_14 := sy_13.below k14
  have sa_14 := sa_13.below k14
  have sb_14 := sb_13.below k14
  clear b13 k14 sx_13 sy_13 sa_13 sb_13
  try dsimp only
  go_wp2_with fail
  refine (CLi.out _ _ sx_14).mono ?_
  rintro e w15 ⟨v30, rfl, p30_15, k15⟩
  have b15 : Below w.heap.size w w15 := b14.trans (k15.mono b14.size)
  have sx_15 := sx_14.below k15
  have sy_15 := sy_14.below k15
  have sa_15 := sa_14.below k15
  have sb_15 := sb_14.below k15
  clear b14 k15 sx_14 sy_14 sa_14 sb_14
  try dsimp only
  go_wp2_with fail
  refine (RLi.out _ sa_15).mono ?_
  rintro e w16 ⟨v31, rfl, p31_16, k16⟩
  have b16 : Below w.heap.size w w16 := b15.trans (k16.mono b15.size)
  have sx_16 := sx_15.below k16
  have sy_16 := sy_15.below k16
  have sa_16 := sa_15.below k16
  have sb_16 := sb_15.below k16
  have p30_16 := p30_15.below k16
  clear b15 k16 sx_15 sy_15 sa_15 sb_15 p30_15
  try dsimp only
  go_wp2_with fail
  refine (CI.out _ _ _ p30_16 p31_16).mono ?_
  rintro e w17 ⟨rfl, k17⟩
  have b17 : Below w.heap.size w w17 := b16.trans (k17.mono b16.size)
  have sx_17 := sx_16.below k17
  have sy_17 := sy_16.below k17
  have sa_17 := sa_16.below k17
  have sb_17 := sb_16.below k17
  have p30_17 := p30_16.below k17
  have p31_17 := p31_16.below k17
  clear b16 k17 sx_16 sy_16 sa_16 sb_16 p30_16 p31_16
  try dsimp only
  go_wp2_with fail
  refine (CC.out _ _ sx_17).mono ?_
  rintro e w18 ⟨rfl, k18⟩
  have b18 : Below w.heap.size w w18 := b17.trans (k18.mono b17.size)
  have sx_18 := sx_17.below k18
  have sy_18 := sy_17.below k18
  have sa_18 := sa_17.below k18
  have sb_18 := sb_17.below k18
  clear b17 k18 sx_17 sy_17 sa_17 sb_17
  try dsimp only
  go_wp2_with fail
  refine (RC.out _ sa_18).mono ?_
  rintro e w19 ⟨rfl, k19⟩
  have b19 : Below w.heap.size w w19 := b18.trans (k19.mono b18.size)
  have sx_19 := sx_18.below k19
  have sy_19 := sy_18.below k19
  have sa_19 := sa_18.below k19
  have sb_19 := sb_18.below k19
  clear b18 k19 sx_18 sy_18 sa_18 sb_18
  try dsimp only
  go_wp2_with fail
  refine (CW.out _ _ _ sx_19 sy_19).mono ?_
  rintro e w20 ⟨rfl, k20⟩
  have b20 : Below w.heap.size w w20 := b19.trans (k20.mono b19.size)
  have sx_20 := sx_19.below k20
  have sy_20 := sy_19.below k20
  have sa_20 := sa_19.below k20
  have sb_20 := sb_19.below k20
  clear b19 k20 sx_19 sy_19 sa_19 sb_19
  try dsimp only
  go_wp2_with fail
  refine (RW.out _ sa_20 sb_20).mono ?_
  rintro e w21 ⟨rfl, k21⟩
  have b21 : Below w.heap.size w w21 := b20.trans (k21.mono b20.size)
  have sx_21 := sx_20.below k21
  have sy_21 := sy_20.below k21
  have sa_21 := sa_20.below k21
  have sb_21 := sb_20.below k21
  clear b20 k21 sx_20 sy_20 sa_20 sb_20
  try dsimp only
  go_wp2_with fail
  refine (CE.out _ _ _ sx_21 sy_21).mono ?_
  rintro e w22 ⟨rfl, k22⟩
  have b22 : Below w.heap.size w w22 := b21.trans (k22.mono b21.size)
  have sx_22 := sx_21.below k22
  have sy_22 := sy_21.below k22
  have sa_22 := sa_21.below k22
  have sb_22 := sb_21.below k22
  clear b21 k22 sx_21 sy_21 sa_21 sb_21
  try dsimp only
  go_wp2_with fail
  refine (RE.out _ sa_22 sb_22).mono ?_
  rintro e w23 ⟨rfl, k23⟩
  have b23 : Below w.heap.size w w23 := b22.trans (k23.mono b22.size)
  have sx_23 := sx_22.below k23
  have sy_23 := sy_22.below k23
  have sa_23 := sa_22.below k23
  have sb_23 := sb_22.below k23
  clear b22 k23 sx_22 sy_22 sa_22 sb_22
  try dsimp only
  go_wp2_with fail
  refine (CT.out _ _ b23 sx_23).mono ?_
  rintro e w24 ⟨rfl, k24⟩
  have b24 : Below w.heap.size w w24 := b23.trans (k24.mono b23.size)
  have sx_24 := sx_23.below k24
  have sy_24 := sy_23.below k24
  have sa_24 := sa_23.below k24
  have sb_24 := sb_23.below k24
  clear b23 k24 sx_23 sy_23 sa_23 sb_23
  try dsimp only
  go_wp2_with fail
  refine (RT.out _ b24 sa_24).mono ?_
  rintro e w25 ⟨rfl, k25⟩
  have b25 : Below w.heap.size w w25 := b24.trans (k25.mono b24.size)
  have sx_25 := sx_24.below k25
  have sy_25 := sy_24.below k25
  have sa_25 := sa_24.below k25
  have sb_25 := sb_24.below k25
  clear b24 k25 sx_24 sy_24 sa_24 sb_24
  try dsimp only
  go_wp2_with fail
  refine (CX.out _ _ sx_25 sa_25).mono ?_
  rintro e z1 ⟨rfl, y1⟩
  have x1 : Below w.heap.size w z1 := b25.trans (y1.mono b25.size)
  have sy_9 := sy_25.below y1
  have sb_9 := sb_25.below y1
  try dsimp only
  go_wp2_with fail
  refine (CY.out _ _ sy_9 sb_9).mono ?_
  rintro e z2 ⟨rfl, y2⟩
  have x2 : Below w.heap.size w z2 := x1.trans (y2.mono x1.size)
  try dsimp only
  go_wp2_with fail
  refine (CK.out _ x2).mono ?_
  rintro e z3 ⟨rfl, y3⟩
  have x3 : Below w.heap.size w z3 := x2.trans (y3.mono x2.size)
  try dsimp only
  go_wp2_with fail
  go_ret
  exact ⟨rfl, x3⟩

set_option maxRecDepth 100000 in
set_option maxHeartbeats 4000000 in
theorem walk (n : Int) (va : Value) (a : List Sp) (vb : Value) (b : List Sp) (rank : Int) (w : World) (hA : Spans w va a) (zA : a.length ≤ 1000000000000000) (nA : ∀ n c, va = .slice none n c → c = 0) (hB : Spans w vb b) (zB : b.length ≤ 1000000000000000) (nB : ∀ n c, vb = .slice none n c → c = 0) (hT : Tab w) :
    Calls Tryd.prog 4 #[.int .i64 n, va, vb, .int .i64 rank] w fun e w' => e = .returned (.bool true) ∧ Below w.heap.size w w' := by
  have F1 := fun W (hb : Below w.heap.size w W) => RFit_any n va a W (hA.below hb) zA
  have F2 := fun W (hb : Below w.heap.size w W) => RFit_any n vb b W (hB.below hb) zB
  have CK := hide (fun W (b : Below w.heap.size w W) => awake_any W (hT.below b))
  have CE := hide (fun W (h : Below w.heap.size w W) => Same_any va vb a b W (hA.below h) (hB.below h) zA)
  have RE := hide (fun W (h : Below w.heap.size w W) => RSame_any va vb a b W (hA.below h) (hB.below h) zA)
  have kA := hA
  have kB := hB
  obtain ⟨aa, ca, rfl, _⟩ := hA
  obtain ⟨ab, cb, rfl, _⟩ := hB
  cases ha : fitL n a
  · rw [ha] at F1
    have F1 := hide F1
    clear F2 hT kA kB nA nB zA zB
    generalize decide (a = b) = d4 at *
    have q4 : (d4 == d4) = true := by simp
    go_enter Tryd.func4, Tryd.ntmps4
    go_wp2_with fail
    refine (F1.out _ (Below.refl _ _)).mono ?_
    rintro e w1 ⟨rfl, b1⟩
    try dsimp only
    go_wp2_with fail
    refine (CE.out _ b1).mono ?_
    rintro e w2 ⟨rfl, k2⟩
    have b2 : Below w.heap.size w w2 := b1.trans (k2.mono b1.size)
    try dsimp only
    go_wp2_with fail
    refine (RE.out _ b2).mono ?_
    rintro e w3 ⟨rfl, k3⟩
    have b3 : Below w.heap.size w w3 := b2.trans (k3.mono b2.size)
    try dsimp only
    go_wp2_with fail
    refine (CK.out _ b3).mono ?_
    rintro e w4 ⟨rfl, k4⟩
    have b4 : Below w.heap.size w w4 := b3.trans (k4.mono b3.size)
    try dsimp only
    go_wp2_with fail
    go_ret
    exact ⟨rfl, b4⟩
  cases hb : fitL n b
  · rw [ha] at F1
    rw [hb] at F2
    have F1 := hide F1
    have F2 := hide F2
    clear hT kA kB nA nB zA zB
    generalize decide (a = b) = d4 at *
    have q4 : (d4 == d4) = true := by simp
    go_enter Tryd.func4, Tryd.ntmps4
    go_wp2_with fail
    refine (F1.out _ (Below.refl _ _)).mono ?_
    rintro e w0 ⟨rfl, b0⟩
    try dsimp only
    go_wp2_with fail
    refine (F2.out _ b0).mono ?_
    rintro e w1 ⟨rfl, k1⟩
    have b1 : Below w.heap.size w w1 := b0.trans (k1.mono b0.size)
    try dsimp only
    go_wp2_with fail
    refine (CE.out _ b1).mono ?_
    rintro e w2 ⟨rfl, k2⟩
    have b2 : Below w.heap.size w w2 := b1.trans (k2.mono b1.size)
    try dsimp only
    go_wp2_with fail
    refine (RE.out _ b2).mono ?_
    rintro e w3 ⟨rfl, k3⟩
    have b3 : Below w.heap.size w w3 := b2.trans (k3.mono b2.size)
    try dsimp only
    go_wp2_with fail
    refine (CK.out _ b3).mono ?_
    rintro e w4 ⟨rfl, k4⟩
    have b4 : Below w.heap.size w w4 := b3.trans (k4.mono b3.size)
    try dsimp only
    go_wp2_with fail
    go_ret
    exact ⟨rfl, b4⟩
  rw [ha] at F1
  rw [hb] at F2
  exact core n aa ab _ _ ca cb rank a b w kA kB (fun h => by subst h; exact nA _ _ rfl) (fun h => by subst h; exact nB _ _ rfl) hT ha hb F1 F2

set_option maxRecDepth 100000 in
theorem lifted (os : Os) (started : os.Started) (H : Type) (enc : TypeId × Value → H) :
    ReturnsInHanded {} Tryd.checked os 4 .any (fun w args => (Rows.ranksDoesSpec.pre enc Tryd.prog Tryd.f4 [] false w args ∧ laidMetH Tryd.prog laidV w) ∧ sizedMet enc Tryd.prog Tryd.f4 (OpenSpec.ofChange Rows.ranksDoesSpec) false w args)
      (Rows.ranksDoesSpec.post enc Tryd.prog Tryd.f4 false true false false) := by
  refine returnsInHanded_of_change_and (C := Tryd.checked) (X := fun w _ => laidMetH Tryd.prog laidV w) (fun _ _ _ hh h => h.of_heap hh) ownK started (by kernel_rfl) Tryd.func4
    (ChangeSpec.witness_shaped (enc := enc) (C := Tryd.checked) (os := os) (X := fun w _ => laidMetH Tryd.prog laidV w) false (World.doorLaid Tryd.prog 400 os) #[.int .i64 0, .slice none 0 0, .slice none 0 0, .int .i64 0] 8 rfl (World.shaped_of_RefB (by kernel_rfl) (by kernel_rfl)) (by kernel_rfl) (by kernel_rfl) (by kernel_rfl) (door_met os _)) ?_
  intro W base args ds gs before hval0 hW _ hsz0 hL _
  have hval : ∀ (j : Nat) t v, Tryd.f4.params[j]? = some t → args[j]? = some v → Value.okWide Tryd.prog W .any base t v := hval0
  have hsz : (DataW.weightsEach Tryd.prog (Tryd.f4.params.toList ++ Rows.ranksDoesSpec.plain.varTypes Tryd.prog) (ds ++ gs)).all (· ≤ reachBytes) = true := hsz0
  have hW' := hW
  obtain ⟨p, q, hA0, hV, rfl, hfz, hnd⟩ := hW
  have hA : DataW.TrodAll enc Tryd.prog W 0 (fun _ => true) true Tryd.f4.params.toList args.toList ds p := hA0
  rw [Tryd.params4] at hA hval hsz
  obtain ⟨v0, vs0, d0, ds0, p0, q0, hargs, rfl, rfl, h0, r0⟩ := trodAll_cons hA
  obtain ⟨v1, vs1, d1, ds1, p1, q1, rfl, rfl, rfl, h1, r1⟩ := trodAll_cons r0
  obtain ⟨v2, vs2, d2, ds2, p2, q2, rfl, rfl, rfl, h2, r2⟩ := trodAll_cons r1
  obtain ⟨v3, vs3, d3, ds3, p3, q3, rfl, rfl, rfl, h3, r3⟩ := trodAll_cons r2
  obtain ⟨rfl, rfl, rfl⟩ := trodAll_nil r3
  obtain rfl : args = #[v0, v1, v2, v3] := by cases args; simp_all
  obtain ⟨rfl, rfl⟩ := trodVars_none hV
  obtain ⟨a0, rfl, rfl, rfl, w0⟩ := open_int Tryd.underlying3 (hval 0 3 v0 rfl rfl) h0
  have k1 := h1
  have lt1 : ∀ x ∈ p1, x.block < W.heap.size := by obtain ⟨m, hm⟩ := k1; exact DataW.trod_lt m _ _ _ hm
  obtain ⟨b1, l1, c1, rfl⟩ := okWide_slice Tryd.underlying22 (hval 1 22 v1 rfl rfl)
  obtain ⟨m1, hm1⟩ := h1
  obtain ⟨a1, n1, e1, s1, hv1, hl1, hS1, hz1⟩ := open_spans (hm1 : DataW.trod enc Tryd.prog W 0 _ true m1 22 [.slice b1 l1 c1] = some (d1, p1))
  cases hv1
  have hb1 := row_len hsz (j := 1) (t := 22) (e := 45) rfl rfl Tryd.underlying22 (by rw [bytes45]; decide) hz1
  have k2 := h2
  have lt2 : ∀ x ∈ p2, x.block < W.heap.size := by obtain ⟨m, hm⟩ := k2; exact DataW.trod_lt m _ _ _ hm
  obtain ⟨b2, l2, c2, rfl⟩ := okWide_slice Tryd.underlying22 (hval 2 22 v2 rfl rfl)
  obtain ⟨m2, hm2⟩ := h2
  obtain ⟨a2, n2, e2, s2, hv2, hl2, hS2, hz2⟩ := open_spans (hm2 : DataW.trod enc Tryd.prog W 0 _ true m2 22 [.slice b2 l2 c2] = some (d2, p2))
  cases hv2
  have hb2 := row_len hsz (j := 2) (t := 22) (e := 45) rfl rfl Tryd.underlying22 (by rw [bytes45]; decide) hz2
  obtain ⟨a3, rfl, rfl, rfl, w3⟩ := open_int Tryd.underlying3 (hval 3 3 v3 rfl rfl) h3
  have hk := of_laid hL
  clear hA0 hval0 hsz0 hsz
  refine (walk a0 _ s1 _ s2 a3 W hS1 (by rw [hl1]; exact hb1) (nil_room hm1) hS2 (by rw [hl2]; exact hb2) (nil_room hm2) hk).mono fun e W' ⟨he, bel⟩ => ?_
  subst he
  exact ⟨_, rfl, _, _, _, [], _, [], hW', trodAll_mk1 (shut_bool Tryd.underlying4 _), (trodAll_cons_mk (shut_int Tryd.underlying3 w0) (trodAll_cons_mk (Below.trod laidOut (by kernel_rfl) (of_decide_eq_true (by kernel_rfl)) k1 bel lt1) (trodAll_cons_mk (Below.trod laidOut (by kernel_rfl) (of_decide_eq_true (by kernel_rfl)) k2 bel lt2) (trodAll_cons_mk (shut_int Tryd.underlying3 w3) trodAll_mk0)))), rfl, bel.frame _, fun h => by cases h⟩

theorem over : Rows.ranksDoesRow.holds Tryd.pinned (OpenSpec.ofChange Rows.ranksDoesSpec) :=
  OpenClaim.holds_of_wide 4 Tryd.f4 rfl rfl rfl rfl rfl rfl rfl ⟨rfl, rfl, rfl, rfl, rfl⟩ rfl rfl rfl rfl rfl (by kernel_rfl) Tryd.func4 (by kernel_rfl)
    (of_decide_eq_true (by kernel_rfl)) (by unfold Func.isWrapper; first | (rw [if_pos (by decide +kernel)]; kernel_rfl) | (rw [if_neg (by decide +kernel)]; exact ⟨rfl, rfl⟩))
    (fun os started H enc _ => lifted os started H enc)

theorem card : Claim7.holds Tryd.pinned (.plain (OpenSpec.ofChange Rows.ranksDoesSpec)) Rows.ranksDoesCard :=
  Claim7.holds_tied_plain_at .later [] [.data, .data, .data] true (true, "7538bfbc963d9866992706910c0bf13ef14b8610dd84b3703efe6427513f24f8") false
    over (fun _ h => by cases h) (by kernel_rfl) (fun _ h => by cases h) ranksDoes_row_tie rfl ⟨rfl, rfl⟩ (by kernel_rfl) rfl
    (fun f fn hf hfn => by
      obtain rfl : f = 4 := Option.some.inj ((show Tryd.prog.funcNamed "dovetail/dovetaillaw07.RanksDoes" = some 4 by kernel_rfl).symm.trans hf) |>.symm
      obtain rfl : fn = Tryd.f4 := (Option.some.inj (Tryd.func4.symm.trans hfn)).symm
      exact ⟨by kernel_rfl, fun j t ht => by
        rw [Tryd.params4] at ht
        have hm : t ∈ [3, 22, 22, 3] := by simpa using Array.mem_of_getElem? ht
        have hall : ([3, 22, 22, 3].all fun u => !Tryd.prog.wantsStandIn u) = true := by kernel_rfl
        exact (show Tryd.prog.wantsStandIn t = false by simpa using List.all_eq_true.1 hall t hm)⟩)
    (by kernel_rfl)
end RanksDoesP

theorem ranksDoes_holds : Rows.RanksDoesCardSaid := RanksDoesP.card
#print axioms ranksDoes_holds

end Go.Proofs.YtmpegkcleajhhaaDoor
