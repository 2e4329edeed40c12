/-
  Walks: the chapter example.
-/
import Derived.Test.YtmpegkcleajhhaaDoorDn
import Derived.Test.YtmpegkcleajhhaaDoorDo
import Derived.Test.YtmpegkcleajhhaaDoorDc
namespace Go.Proofs.YtmpegkcleajhhaaDoor
open Go.RowKit Go.Shelf
set_option linter.unusedVariables false

theorem itoa_dig (n : Nat) (h : n < 10) : Lib.itoa (n : Int) = [UInt8.ofNat (48 + n)] := by
  unfold Lib.itoa
  rw [if_neg (by omega), Int.toNat_natCast, Lib.decDigits, dif_pos h]
theorem text_ex : ofL (textL [(1, 3), (5, 6)]) = ⟨#[49, 45, 50, 44, 53]⟩ := by
  have h1 := itoa_dig 1 (by decide)
  have h2 := itoa_dig 2 (by decide)
  have h5 := itoa_dig 5 (by decide)
  have e1 : writeT (1, 3) = [49, 45, 50] := by
    unfold writeT
    rw [if_neg (by decide)]
    show Lib.itoa ((1 : Nat) : Int) ++ 45 :: Lib.itoa ((2 : Nat) : Int) = _
    rw [h1, h2]; rfl
  have e2 : writeT (5, 6) = [53] := by
    unfold writeT
    rw [if_pos (by decide)]
    exact h5
  unfold textL
  rw [if_neg (by simp)]
  show ofL (Lib.join [writeT (1, 3), writeT (5, 6)] [44]) = _
  rw [e1, e2]
  rfl
theorem of_ex : ofRL 9 [5, 1, 2, 9] = [(1, 3), (5, 6)] := by kernel_rfl
theorem not_ex (s : List Sp) (h : IsSet 4 (fun r => (decide (0 ≤ r) && decide (r < 4)) && !hasL [(1, 3)] r) s) : s = [(0, 1), (3, 4)] := by
  refine h.eq (m := 4) (g := fun r => (decide (0 ≤ r) && decide (r < 4)) && !hasL [(1, 3)] r) ⟨by decide, fun r => ?_⟩ (fun _ => rfl)
  rw [Bool.eq_iff_iff]
  simp [hasL]
  omega
theorem ints_lit (w : World) : Ints (w.alloc (.cells #[.int .i64 5, .int .i64 1, .int .i64 2, .int .i64 9] 3)) (.slice (some ⟨w.heap.size, 0, none⟩) 4 4) [5, 1, 2, 9] := by
  refine ⟨_, 4, rfl, .inr ⟨w.heap.size, 0, rfl, by simp, fun i hi => ?_⟩⟩
  have h := fun j => World.cell?_alloc_mark w #[.int .i64 5, .int .i64 1, .int .i64 2, .int .i64 9] 3 (0, 0) j
  match i, hi with
  | 0, _ => exact h 0
  | 1, _ => exact h 1
  | 2, _ => exact h 2
  | 3, _ => exact h 3
theorem two_spans (w : World) (a b c d : Int) : Spans (w.alloc (.cells #[.int .i64 a, .int .i64 b, .int .i64 c, .int .i64 d] 45)) (.slice (some ⟨w.heap.size, 0, none⟩) 2 2) [(a, b), (c, d)] := by
  refine ⟨_, 2, rfl, .inr ⟨w.heap.size, 0, rfl, by simp, ?_⟩⟩
  exact cells_row (s := [(a, b), (c, d)]) (sp := []) (World.alloc_heap_new w _)

set_option maxRecDepth 100000 in
set_option maxHeartbeats 4000000 in
theorem awake_any (w : World) (hT : Tab w) : Calls Tryd.prog 16 #[] w fun e w' => e = .returned (.bool true) ∧ Below w.heap.size w w' := by
  have HT := hide hT
  clear hT
  have b0 : Below w.heap.size w (w.alloc (.cells #[.int .i64 5, .int .i64 1, .int .i64 2, .int .i64 9] 3)) := (Below.refl _ w).alloc (Nat.le_refl _) _
  have C1 := Of_any 9 _ _ _ (ints_lit w) (by decide)
  rw [of_ex] at C1
  have C1 := hide C1
  go_enter Tryd.func16, Tryd.ntmps16
  go_wp2_with fail
  refine C1.out.mono ?_
  rintro e w1 ⟨v1, rfl, s1, b1'⟩
  have b1 : Below w.heap.size w w1 := b0.trans (b1'.mono b0.size)
  clear b0 b1' C1
  have ba : Below w1.heap.size w1 (w1.alloc (.cells #[.int .i64 1, .int .i64 3, .int .i64 5, .int .i64 6] 45)) := (Below.refl _ w1).alloc (Nat.le_refl _) _
  have C2 := RSame_any _ _ _ _ _ (s1.below ba) (two_spans w1 1 3 5 6) (by decide)
  rw [decide_eq_true rfl] at C2
  have C2 := hide C2
  go_wp2_with fail
  refine C2.out.mono ?_
  rintro e w2 ⟨rfl, b2'⟩
  have k2 : Below w1.heap.size w1 w2 := ba.trans (b2'.mono ba.size)
  have b2 : Below w.heap.size w w2 := b1.trans (k2.mono b1.size)
  have s2 := s1.below k2
  clear ba b2' C2 k2 s1 b1
  have C3 := Text_any 9 v1 _ w2 s2 (by decide) (HT.out.below b2)
  rw [text_ex] at C3
  have C3 := hide C3
  go_wp2_with fail
  refine C3.out.mono ?_
  rintro e w3 ⟨rfl, k3⟩
  have b3 : Below w.heap.size w w3 := b2.trans (k3.mono b2.size)
  have s3 := s2.below k3
  clear C3 k3 s2 b2
  have C4 := Text_any 9 (.slice none 0 0) [] w3 (Spans.nil _) (by decide) (HT.out.below b3)
  have e4 : ofL (textL []) = ⟨#[110, 111, 110, 101]⟩ := rfl
  rw [e4] at C4
  have C4 := hide C4
  go_wp2_with fail
  refine C4.out.mono ?_
  rintro e w4 ⟨rfl, k4⟩
  have b4 : Below w.heap.size w w4 := b3.trans (k4.mono b3.size)
  have s4 := s3.below k4
  clear C4 k4 s3 b3 e4
  have C5 := Has_any 9 v1 _ 2 w4 s4 (by decide) (by decide)
  rw [show hasL [(1, 3), (5, 6)] 2 = true from rfl] at C5
  have C5 := hide C5
  go_wp2_with fail
  refine C5.out.mono ?_
  rintro e w5 ⟨rfl, k5⟩
  have b5 : Below w.heap.size w w5 := b4.trans (k5.mono b4.size)
  have s5 := s4.below k5
  clear C5 k5 s4 b4
  have C6 := Has_any 9 v1 _ 3 w5 s5 (by decide) (by decide)
  rw [show hasL [(1, 3), (5, 6)] 3 = false from rfl] at C6
  have C6 := hide C6
  go_wp2_with fail
  refine C6.out.mono ?_
  rintro e w6 ⟨rfl, k6⟩
  have b6 : Below w.heap.size w w6 := b5.trans (k6.mono b5.size)
  have s6 := s5.below k6
  clear C6 k6 s5 b5
  have bb : Below w6.heap.size w6 (w6.alloc (.cells #[.int .i64 1, .int .i64 3] 45)) := (Below.refl _ w6).alloc (Nat.le_refl _) _
  have C7 := hide (Not_any 4 _ [(1, 3)] _ (one_spans w6 1 3) (by decide))
  go_wp2_with fail
  refine C7.out.mono ?_
  rintro e w7 ⟨v7, s, rfl, s7', i7, k7'⟩
  have hs := not_ex s i7
  subst hs
  have k7 : Below w6.heap.size w6 w7 := bb.trans (k7'.mono bb.size)
  have b7 : Below w.heap.size w w7 := b6.trans (k7.mono b6.size)
  have s7 := s6.below k7
  obtain ⟨a7, c7, rfl, _⟩ := s7'
  clear C7 k7' k7 bb i7 s6 b6
  have C8 := Fit_any 9 v1 _ w7 s7 (by decide)
  rw [show fitL 9 [(1, 3), (5, 6)] = true from rfl] at C8
  have C8 := hide C8
  go_wp2_with fail
  refine C8.out.mono ?_
  rintro e w8 ⟨rfl, k8⟩
  have b8 : Below w.heap.size w w8 := b7.trans (k8.mono b7.size)
  have s8 := s7.below k8
  clear C8 k8 s7 b7
  have C9 := Fit_any 5 v1 _ w8 s8 (by decide)
  rw [show fitL 5 [(1, 3), (5, 6)] = false from rfl] at C9
  have C9 := hide C9
  go_wp2_with fail
  refine C9.out.mono ?_
  rintro e w9 ⟨rfl, k9⟩
  have b9 : Below w.heap.size w w9 := b8.trans (k9.mono b8.size)
  clear C9 k9 s8 b8
  go_wp2_with fail
  go_ret
  exact ⟨rfl, b9⟩

end Go.Proofs.YtmpegkcleajhhaaDoor
