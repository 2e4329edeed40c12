/-
  Walks: Parse.
-/
import Derived.Test.YtpdlgiioahjhiaaGreatQWf
namespace Go.Proofs.YtpdlgiioahjhiaaGreat
open Go.RowKit Go.Shelf
set_option linter.unusedVariables false
attribute [local go_sem] Oper.semAt_some

set_option maxRecDepth 100000 in
set_option maxHeartbeats 4000000 in
theorem Parse_in (s : ByteArray) (w : World) (hs : s.size ≤ 64) :
  CallsIn Fence.wide 5 Tryz.prog 39 #[.string s] w (PPost s w) := by
 have hnot : ¬ ((64 : Int) < (s.size : Int)) := by omega
 obtain ⟨i0, hi, hz0, hz1, hz2⟩ := info_parts Tryz.info9
 refine callsIn_of_wp_marks Tryz.func39 rfl trivial (wpIn_wide.2 ?_) rfl
 simp only [Tryz.ntmps39, List.size_toArray, List.length_cons, List.length_nil, Nat.reduceAdd, Nat.reduceSub, Array.replicate_succ, Array.replicate_zero, List.push_toArray, List.append_toArray, List.nil_append, List.cons_append]
 cases hN : numsR s.data.toList with
 | error x =>
  have HN : Hid (numsV s = .tuple #[semZ, .int .i64 (x.2 : Int), .int .i64 x.1]) := by show _ = _; unfold numsV; rw [hN]
  have hx := nums_err hN
  have hxb : (x.1 == 0) = false := by simpa using hx
  have hxc : (x.1 != 0) = true := by simpa using hx
  have HP : Hid (parseR s.data.toList = .error x) := by show _ = _; unfold parseR; rw [if_neg (by rw [len_data]; omega), hN]
  clear hx hN
  go_wp2_with fail
  go_step3
  go_wp2_with fail
  refine (numbers_any s _ (by omega)).mono ?_
  rintro e w1 ⟨rfl, b1⟩
  rw [HN.out]
  try unfold semZ
  go_wp2_with fail
  go_step3
  go_wp2_with fail
  refine wp_loop_rounds 5 ?_
  have hsz := b1.size
  simp only [World.size_alloc] at hsz
  have hL0 := lies_start s w w1 b1
  have hB1 : Below w.heap.size w w1 := below_start s w w1 b1
  generalize hV : w1.heap.size = V at *
  generalize hW : ((w1.alloc (.cells #[.string ⟨#[]⟩, .string ⟨#[]⟩, .string ⟨#[]⟩, .slice none 0 0, .slice none 0 0] 33)).alloc (.cells #[.int .i64 (x.2 : Int)] 3)).alloc (.cells #[.int .i64 x.1] 23) = W at *
  have hLV := lies_vars w1 (.cells #[.string ⟨#[]⟩, .string ⟨#[]⟩, .string ⟨#[]⟩, .slice none 0 0, .slice none 0 0] 33) (.cells #[.int .i64 (x.2 : Int)] 3) (.cells #[.int .i64 x.1] 23) _ hL0
  have hBW := below_vars w w1 (.cells #[.string ⟨#[]⟩, .string ⟨#[]⟩, .string ⟨#[]⟩, .slice none 0 0, .slice none 0 0] 33) (.cells #[.int .i64 (x.2 : Int)] 3) (.cells #[.int .i64 x.1] 23) hB1
  have hX := congrArg (fun x : World => x.heap.size) hW
  simp only [World.size_alloc, hV] at hX
  rw [hW] at hLV hBW
  rw [hV] at hLV
  clear hW hL0 hB1 b1 hV
  have eV := hLV.head
  have eA := hLV.tail.head
  have eE := hLV.tail.tail.head
  have eS := hLV.tail.tail.tail.head
  have eR := hLV.tail.tail.tail.tail.head
  have eF := hLV.tail.tail.tail.tail.tail.head
  clear hLV
  have cS := one_cell eS
  have cA := one_cell eA
  have cE := one_cell eE
  have r0 := cell_at 0 eR rfl
  have r1 := cell_at 1 eR rfl
  have r2 := cell_at 2 eR rfl
  have r3 := cell_at 3 eR rfl
  have r4 := cell_at 4 eR rfl
  have f0 := cell_at 0 eF rfl
  have f1 := cell_at 1 eF rfl
  have z0 := one_free 0 eR
  have z1 := one_free 1 eR
  have z2 := one_free 2 eR
  have z3 := one_free 3 eR
  have z4 := one_free 4 eR
  have y0 := one_free 0 eF
  have y1 := one_free 1 eF
  clear eV eA eE eS
  rw [rounds_succ]
  go_wp2_with fail
  go_region
  go_wp2_with fail
  rw [Exit.noGoto_ret]
  obtain ⟨W9, hW9, gr, gf, hk, hbl⟩ := end_world (W := W) (B1 := w.heap.size + 1) (B2 := w.heap.size + 1 + 1) (by omega) (.string ⟨#[]⟩) (.string ⟨#[]⟩) (.string ⟨#[]⟩) (.slice none 0 0) (.slice none 0 0) (.int .i64 (x).1) (.int .i64 ((x).2 : Int)) eR eF
  rw [← hW9]
  refine fin9 _ [] W9.drew w.heap.size (w.heap.size + 1) (w.heap.size + 1 + 1) _ _ _ _ _ _ _ ⟨_, _, _, rfl⟩ ⟨_, _, _, rfl⟩ rfl rfl gr gf (by simp) (by simp) ?_
  exact fun W' h => ppost_err HP.out ((hBW.trans (hbl _ (by omega) (by omega))).drew) h
 | ok q =>
  obtain ⟨a, b, c, d, e⟩ := q
  have HN : Hid (numsV s = .tuple #[.agg #[.string (s.extract 0 a), .string (s.extract b c), .string (s.extract d e), .slice none 0 0, .slice none 0 0], .int .i64 (e : Int), .int .i64 0]) := by show _ = _; unfold numsV; rw [hN]
  have hT : parseR s.data.toList = putT a b c d e (tailR s.data.toList e) := parse_put (by rw [len_data]; omega) hN
  have he : e ≤ s.size := nums_le hN
  clear hN
  go_wp2_with fail
  go_step3
  go_wp2_with fail
  refine (numbers_any s _ (by omega)).mono ?_
  rintro e w1 ⟨rfl, b1⟩
  rw [HN.out]
  try unfold semZ
  go_wp2_with fail
  go_step3
  go_wp2_with fail
  refine wp_loop_rounds 5 ?_
  have hsz := b1.size
  simp only [World.size_alloc] at hsz
  have hL0 := lies_start s w w1 b1
  have hB1 : Below w.heap.size w w1 := below_start s w w1 b1
  generalize hV : w1.heap.size = V at *
  generalize hW : ((w1.alloc (.cells #[.string (s.extract 0 a), .string (s.extract b c), .string (s.extract d e), .slice none 0 0, .slice none 0 0] 33)).alloc (.cells #[.int .i64 (e : Int)] 3)).alloc (.cells #[.int .i64 0] 23) = W at *
  have hLV := lies_vars w1 (.cells #[.string (s.extract 0 a), .string (s.extract b c), .string (s.extract d e), .slice none 0 0, .slice none 0 0] 33) (.cells #[.int .i64 (e : Int)] 3) (.cells #[.int .i64 0] 23) _ hL0
  have hBW := below_vars w w1 (.cells #[.string (s.extract 0 a), .string (s.extract b c), .string (s.extract d e), .slice none 0 0, .slice none 0 0] 33) (.cells #[.int .i64 (e : Int)] 3) (.cells #[.int .i64 0] 23) hB1
  have hX := congrArg (fun x : World => x.heap.size) hW
  simp only [World.size_alloc, hV] at hX
  rw [hW] at hLV hBW
  rw [hV] at hLV
  clear hW hL0 hB1 b1 hV
  have hL := hLV
  clear hLV
  have eV := hL.head
  have eA := hL.tail.head
  have eE := hL.tail.tail.head
  have eS := hL.tail.tail.tail.head
  have eR := hL.tail.tail.tail.tail.head
  have eF := hL.tail.tail.tail.tail.tail.head
  have cS := one_cell eS
  have cA := one_cell eA
  have cE := one_cell eE
  have v0 := cell_at 0 eV rfl
  have v1 := cell_at 1 eV rfl
  have v2 := cell_at 2 eV rfl
  have v3 := cell_at 3 eV rfl
  have v4 := cell_at 4 eV rfl
  have zA := one_free 0 eA
  have zE := one_free 0 eE
  by_cases h45 : s.data.toList[e]? = some 45
  ·have hlt : e < s.size := by have := (List.getElem?_eq_some_iff.1 h45).1; rw [len_data] at this; exact this
   have h45b : s[e] = 45 := by rw [at_some s e hlt] at h45; simpa using h45
   have hb1 : ((s[e].toNat : Int) == 45) = true := by rw [h45b]; rfl
   have H45 := hide h45
   have HT := hide hT
   clear h45 h45b hT
   have hWs := hBW.size
   have ls0 : w.heap.size < W.heap.size := by omega
   have ls1 : w.heap.size < W.heap.size + 1 := by omega
   have ls2 : w.heap.size < W.heap.size + 1 + 1 := by omega
   have lr0 : w.heap.size + 1 < W.heap.size := by omega
   have lr1 : w.heap.size + 1 < W.heap.size + 1 := by omega
   have lr2 : w.heap.size + 1 < W.heap.size + 1 + 1 := by omega
   have lf0 : w.heap.size + 1 + 1 < W.heap.size := by omega
   have lf1 : w.heap.size + 1 + 1 < W.heap.size + 1 := by omega
   have lf2 : w.heap.size + 1 + 1 < W.heap.size + 1 + 1 := by omega
   have lv0 : V < W.heap.size := by omega
   have lv1 : V < W.heap.size + 1 := by omega
   have lv2 : V < W.heap.size + 1 + 1 := by omega
   have la0 : V + 1 < W.heap.size := by omega
   have la1 : V + 1 < W.heap.size + 1 := by omega
   have la2 : V + 1 < W.heap.size + 1 + 1 := by omega
   have le0 : V + 1 + 1 < W.heap.size := by omega
   have le1 : V + 1 + 1 < W.heap.size + 1 := by omega
   have le2 : V + 1 + 1 < W.heap.size + 1 + 1 := by omega
   rw [rounds_succ]
   go_wp2_with fail
   refine (identifiers_any s _ _).mono ?_
   rintro e' w2 ⟨rfl, hw2⟩
   rw [hw2]
   clear hw2 w2
   go_wp2_with fail
   have hLf := lies_four W (.cells #[.bool true] 4) (.cells #[.pointer (some ⟨V, 3, none⟩)] 104) (.cells #[.string s] 9) (.cells #[.int .i64 ((e : Int) + 1)] 3) _ hL
   have hBf := below_four w W (.cells #[.bool true] 4) (.cells #[.pointer (some ⟨V, 3, none⟩)] 104) (.cells #[.string s] 9) (.cells #[.int .i64 ((e : Int) + 1)] 3) hBW
   have hLs := Lies.cons hLf.tail.tail.tail.tail.head (Lies.cons hLf.tail.tail.tail.tail.tail.head (Lies.cons hLf.tail.tail.tail.tail.tail.tail.head (Lies.cons hLf.head (Lies.cons hLf.tail.head (Lies.cons hLf.tail.tail.head (Lies.cons hLf.tail.tail.tail.head hLf.tail.tail.tail.tail.tail.tail.tail))))))
   have hbA : Boxed _ (W.heap.size + 1 + 1 + 1) 3 (.int .i64 ((e + 1 : Nat) : Int)) := hLf.tail.tail.tail.head
   have hbS : Boxed _ (W.heap.size + 1 + 1) 9 (.string s) := hLf.tail.tail.head
   have hps : ∀ q ∈ (((W.heap.size, .cells #[.bool true] 4) :: (W.heap.size + 1, .cells #[.pointer (some ⟨V, 3, none⟩)] 104) :: (W.heap.size + 1 + 1, .cells #[.string s] 9) :: (W.heap.size + 1 + 1 + 1, .cells #[.int .i64 ((e : Int) + 1)] 3) :: (w.heap.size, .cells #[.string s] 9) :: (w.heap.size + 1, .cells #[.string ⟨#[]⟩, .string ⟨#[]⟩, .string ⟨#[]⟩, .slice none 0 0, .slice none 0 0] 33) :: (w.heap.size + 1 + 1, .cells #[.int .i64 0, .int .i64 0] 25) :: []) : List (Nat × Obj)), q.1 < (W.heap.size + 1 + 1 + 1 + 1) := fun q hq => by
    have := hLs.lt q (List.mem_cons_of_mem _ (List.mem_cons_of_mem _ (List.mem_cons_of_mem _ hq)))
    simpa only [World.size_alloc] using this
   have hwX := hBW.size
   have hpsV : ∀ q ∈ (((W.heap.size, .cells #[.bool true] 4) :: (W.heap.size + 1, .cells #[.pointer (some ⟨V, 3, none⟩)] 104) :: (W.heap.size + 1 + 1, .cells #[.string s] 9) :: (W.heap.size + 1 + 1 + 1, .cells #[.int .i64 ((e : Int) + 1)] 3) :: (w.heap.size, .cells #[.string s] 9) :: (w.heap.size + 1, .cells #[.string ⟨#[]⟩, .string ⟨#[]⟩, .string ⟨#[]⟩, .slice none 0 0, .slice none 0 0] 33) :: (w.heap.size + 1 + 1, .cells #[.int .i64 0, .int .i64 0] 25) :: []) : List (Nat × Obj)), q.1 ≠ V := by
    intro q hq
    simp only [List.mem_cons, List.not_mem_nil, or_false] at hq
    rcases hq with rfl | rfl | rfl | rfl | rfl | rfl | rfl <;> simp only <;> omega
   have hps1 : ∀ q ∈ (((W.heap.size, .cells #[.bool true] 4) :: (W.heap.size + 1, .cells #[.pointer (some ⟨V, 3, none⟩)] 104) :: (W.heap.size + 1 + 1, .cells #[.string s] 9) :: (W.heap.size + 1 + 1 + 1, .cells #[.int .i64 ((e : Int) + 1)] 3) :: (w.heap.size, .cells #[.string s] 9) :: (w.heap.size + 1, .cells #[.string ⟨#[]⟩, .string ⟨#[]⟩, .string ⟨#[]⟩, .slice none 0 0, .slice none 0 0] 33) :: (w.heap.size + 1 + 1, .cells #[.int .i64 0, .int .i64 0] 25) :: []) : List (Nat × Obj)), q.1 ≠ V + 1 ∧ q.1 ≠ V + 1 + 1 := by
    intro q hq
    simp only [List.mem_cons, List.not_mem_nil, or_false] at hq
    rcases hq with rfl | rfl | rfl | rfl | rfl | rfl | rfl <;> simp only <;> omega
   clear hLf
   generalize hn0 : (W.heap.size + 1 + 1 + 1 + 1) = n₀ at *
   refine (wpIn_wide (n := 5)).1 ?_
   refine wpIn_rangeFunc_ownG rfl (by omega) (gf := 108) (lb := #[.pointer (some ⟨W.heap.size + 1 + 1 + 1, 0, none⟩), .pointer (some ⟨W.heap.size + 1 + 1, 0, none⟩)]) rfl trivial (enters_of Tryz.func108 (by kernel_rfl) rfl)
    (ids_stops 4 (by omega) (W.heap.size + 1 + 1 + 1) (W.heap.size + 1 + 1) s (e + 1) (by omega) (by omega) _ hbA hbS) Two.trans (two_b (by simp only [World.size_alloc]; omega) (by simp only [World.size_alloc]; omega)) (Below.refl _ _) (fun _ => rfl)
    (PI s w n₀ V ((W.heap.size, .cells #[.bool true] 4) :: (W.heap.size + 1, .cells #[.pointer (some ⟨V, 3, none⟩)] 104) :: (W.heap.size + 1 + 1, .cells #[.string s] 9) :: (W.heap.size + 1 + 1 + 1, .cells #[.int .i64 ((e : Int) + 1)] 3) :: (w.heap.size, .cells #[.string s] 9) :: (w.heap.size + 1, .cells #[.string ⟨#[]⟩, .string ⟨#[]⟩, .string ⟨#[]⟩, .slice none 0 0, .slice none 0 0] 33) :: (w.heap.size + 1 + 1, .cells #[.int .i64 0, .int .i64 0] 25) :: []) (fun v => #[.string (s.extract 0 a), .string (s.extract b c), .string (s.extract d e), v, .slice none 0 0]) true e)
    (PX s w n₀ V ((W.heap.size, .cells #[.bool true] 4) :: (W.heap.size + 1, .cells #[.pointer (some ⟨V, 3, none⟩)] 104) :: (W.heap.size + 1 + 1, .cells #[.string s] 9) :: (W.heap.size + 1 + 1 + 1, .cells #[.int .i64 ((e : Int) + 1)] 3) :: (w.heap.size, .cells #[.string s] 9) :: (w.heap.size + 1, .cells #[.string ⟨#[]⟩, .string ⟨#[]⟩, .string ⟨#[]⟩, .slice none 0 0, .slice none 0 0] 33) :: (w.heap.size + 1 + 1, .cells #[.int .i64 0, .int .i64 0] 25) :: []) (fun v => #[.string (s.extract 0 a), .string (s.extract b c), .string (s.extract d e), v, .slice none 0 0]) true 0)
    (fun pre A B row h hg hr => ⟨PS_own s w _ V _ _ _ _ pre _ (by simp only [World.size_alloc]; omega) (fun q hq => by have := hps q hq; simp only [World.size_alloc]; omega) (by simp only [World.size_alloc]; omega) A B row h.1 hg hr, h.2⟩)
    (fun c ys A B row h hg hr => by
     obtain ⟨hc, pre, x, e1, e2, e3, h4⟩ := h
     exact ⟨hc, pre, x, e1, e2, e3, PS_own s w _ V _ _ _ _ pre _ (by simp only [World.size_alloc]; omega) (fun q hq => by have := hps q hq; simp only [World.size_alloc]; omega) (by simp only [World.size_alloc]; omega) A B row h4 hg hr⟩)
    ⟨⟨_, hLs, World.ownsRow_nil _ _ _ _, hBf⟩, rfl⟩ ?a1_p1 ?assign_p1 ?body_p1 ?done_p1 ?stop_p1
   case assign_p1 =>
    intro l x W K hK
    gi_wp2
    exact hK
   case body_p1 =>
    rintro lx pre x Wi ⟨⟨v, hLi, hrow, hB⟩, hbad⟩ hlen
    obtain ⟨ao, cap, rfl⟩ := row_slice hrow
    have eV := hLi.head
    have eA := hLi.tail.head
    have eE := hLi.tail.tail.head
    have eI := hLi.tail.tail.tail.head
    have eL := hLi.tail.tail.tail.tail.head
    have eS := hLi.tail.tail.tail.tail.tail.tail.tail.head
    clear cS cA cE v0 v1 v2 v3 v4 zA zE
    have cS := one_cell eS
    have cI := one_cell eI
    have cL := one_cell eL
    have cA := one_cell eA
    have cE := one_cell eE
    have zA := one_free 0 eA
    have zE := one_free 0 eE
    have WC0 : ∀ w : World, Calls Tryz.prog 74 #[.string s, .string (s.extract x.1 x.2), .int .i64 (x.2 : Int), .bool true] w fun r w' => r = .returned (.int .i64 (wrongL true s.data.toList (seg s.data.toList x.1 x.2) x.2)) ∧ w' = w := fun w => by
     have := wrong_any s (s.extract x.1 x.2) x.2 true w (by unfold maxLen; omega) (by rw [extract_seg, ofL_size]; unfold maxLen; simp [seg]; omega)
     rw [extract_data] at this
     exact this
    have hrowl : pre.length ≤ 70 := by have := segs_len s.data.toList _ (e + 1) rfl; rw [len_data] at this; omega
    by_cases hk0 : wrongL true s.data.toList (seg s.data.toList x.1 x.2) x.2 = 0
    ·rw [hk0] at WC0
     have WC := hide WC0
     clear WC0
     gi_wp2_with (refine ⟨trivial, ?_⟩; gi_at_call 74; refine (callsIn_wide.2 (WC.out _)).mono ?_; rintro e w' ⟨rfl, hw'⟩; rw [hw']; clear hw' w')
     obtain ⟨W1, hW1, hL1, hr1, hB1, hk1, h21, hs1⟩ := mid_world (s := s) (cs := fun v => #[.string (s.extract 0 a), .string (s.extract b c), .string (s.extract d e), v, .slice none 0 0]) (v := .slice ao pre.length cap) (x.2 : Int) 0 (W.heap.size + 1 + 1 + 1) (W.heap.size + 1 + 1) (by omega) (by omega) hps1 (by omega) (by omega) hLi hrow hB
     have hn1 : n₀ ≤ W1.drew.heap.size := by show n₀ ≤ W1.heap.size; rw [hs1]; have := hLi.lt _ (List.mem_cons_of_mem _ (List.mem_cons_of_mem _ (List.mem_cons_of_mem _ (List.mem_cons_of_mem _ (List.mem_cons_of_mem _ (List.mem_cons_of_mem _ List.mem_cons_self)))))); simp only at this; omega
     rw [← hW1]
     refine wpIn_region_any (by kernel_rfl) ?_
     refine wpAnyIn_round (F := Fence.wide) rfl ?hd_p1 _ _ _ _ ?_
     case hd_p1 => exact noDefer_of (by kernel_rfl)
     change wpAnyIn _ _ _ _ _ _ _ _ _ (World.drew _)
     clear hW1
     replace hL1 : Lies W1.drew _ := hL1
     replace hr1 := hr1.drew
     replace hB1 := hB1.drew
     replace hk1 := hk1.trans (KeepsOthers.drew W1)
     replace h21 : Two (W.heap.size + 1 + 1 + 1) (W.heap.size + 1 + 1) Wi W1.drew := h21
     clear hs1
     generalize W1.drew = W2 at *
     have cL2 := one_cell hL1.tail.tail.tail.tail.head
     have cV2 := cell_at 3 hL1.head rfl
     have cLa : ∀ o : Obj, (W2.alloc o).cell? ⟨W.heap.size + 1, 0, none⟩ = some (.pointer (some ⟨V, 3, none⟩)) := fun o => one_cell (hL1.alloc o).tail.tail.tail.tail.head
     have cVa : ∀ o : Obj, (W2.alloc o).cell? ⟨V, 3, none⟩ = some (.slice ao pre.length cap) := fun o => cell_at 3 (hL1.alloc o).head rfl
     have hq3 : ∀ q ∈ ((V, Obj.cells ((fun v => #[.string (s.extract 0 a), .string (s.extract b c), .string (s.extract d e), v, .slice none 0 0]) (.slice ao pre.length cap)) 33 (0, 0)) :: (V + 1, .cells #[.int .i64 (x.2 : Int)] 3 (0, 0)) :: (V + 1 + 1, .cells #[.int .i64 0] 23 (0, 0)) :: ((W.heap.size, .cells #[.bool true] 4) :: (W.heap.size + 1, .cells #[.pointer (some ⟨V, 3, none⟩)] 104) :: (W.heap.size + 1 + 1, .cells #[.string s] 9) :: (W.heap.size + 1 + 1 + 1, .cells #[.int .i64 ((e : Int) + 1)] 3) :: (w.heap.size, .cells #[.string s] 9) :: (w.heap.size + 1, .cells #[.string ⟨#[]⟩, .string ⟨#[]⟩, .string ⟨#[]⟩, .slice none 0 0, .slice none 0 0] 33) :: (w.heap.size + 1 + 1, .cells #[.int .i64 0, .int .i64 0] 25) :: [])), q.1 < n₀ := by
      intro q hq
      rcases List.mem_cons.1 hq with rfl | hq
      ·show V < n₀; omega
      rcases List.mem_cons.1 hq with rfl | hq
      ·show V + 1 < n₀; omega
      rcases List.mem_cons.1 hq with rfl | hq
      ·show V + 1 + 1 < n₀; omega
      exact hps q hq
     have HCL : Hid (∀ (tmp : Obj) (w1 : World), (W2.alloc tmp).grownBy w1 (Value.slice ao pre.length cap).ownBlock → w1.cell? ⟨W.heap.size + 1, 0, none⟩ = some (.pointer (some ⟨V, 3, none⟩)) ∧ w1.cell? ⟨V, 3, none⟩ = some (.slice ao pre.length cap) ∧ w1.frozen? ⟨V, 3, none⟩ = false) := fun tmp w1 hg => by
      have h := lies_grown hL1 hq3 hr1 hg
      exact ⟨one_cell h.tail.tail.tail.tail.head, cell_at 3 h.head rfl, one_free 3 h.head⟩
     have FIN := hide (fun (g' cap' : Nat) (tmp : Obj) (w1 : World) hown' hgrow (B : Nat) => fin_step (g' := g') (cap' := cap') (tmp := tmp) (w1 := w1) (z := e) (off := 3) (cs := fun v => #[.string (s.extract 0 a), .string (s.extract b c), .string (s.extract d e), v, .slice none 0 0]) (by omega) (fun q hq => ⟨hps q hq, hpsV q hq⟩) (by omega) (by omega) (by omega) (fun u => rfl) hn1 hL1 hr1 hB1 hk1 h21 hbad hk0 hown' hgrow B)
     clear cS cI cL cA cE zA zE eV eA eE eI eL eS hLi hrow hB
     refine wpAnyIn_take (i := 4) (v := ?_) rfl rfl (by kernel_rfl) (by kernel_rfl) (by kernel_rfl) (fun _ _ _ h => h) ⟨Or.inl ⟨by rfl, ?_⟩, fun _ => rfl⟩ ?_
     rotate_left
     ·intro w; go_simp
      try with_reducible rfl
     refine wpAnyIn_ready (rs := [0, 1, 5]) (by kernel_rfl) (by simp) ?_
     refine AllReadyIn.cons rfl (fun K hK => ?_) ?_
     ·go_simp
      refine hK _ _ ?_
      clear hK K
      refine wpAnyIn_ready (rs := [1, 5]) (by kernel_rfl) (by simp) ?_
      refine AllReadyIn.cons rfl (fun K hK => ?_) ?_
      ·go_simp
       refine hK _ _ ?_
       clear hK K
       refine wpAnyIn_take (i := 2) (v := ?_) rfl rfl (by kernel_rfl) (by kernel_rfl) (by kernel_rfl) (fun _ _ _ h => h) ⟨Or.inl ⟨by rfl, ?_⟩, fun _ => rfl⟩ ?_
       rotate_left
       ·intro w; go_simp
        try with_reducible rfl
       refine wpAnyIn_ready (rs := [3, 5]) (by kernel_rfl) (by simp) ?_
       refine AllReadyIn.cons rfl (fun K hK => ?_) ?_
       ·go_simp
        refine hK _ _ ?_
        clear hK K
        refine wpAnyIn_ready (rs := [5]) (by kernel_rfl) (by simp) ?_
        refine AllReadyIn.cons rfl (fun K hK => ?_) ?_
        ·go_simp
         refine hK _ _ ?_
         clear hK K
         refine wpAnyIn_ready (rs := [6]) (by kernel_rfl) (by simp) ?_
         refine AllReadyIn.cons rfl (fun K hK => ?_) ?_
         ·refine stepIn_append_own rfl _ _ 31 rfl n₀ 9 i0 (.string .empty) 1 16 Tryz.underlying31 hi hz0 hz1 hz2 rfl (by decide) _ _ _ rfl (hr1.alloc _) ⟨W2.heap.size, 0, none⟩ 1 1 [.string (s.extract x.1 x.2)] rfl rfl (cell_str_new _ _ _) (str_one _) (by unfold maxLen; omega) (by omega) (by simp; omega) ?_
          intro v' w1 hown' hgrow _
          obtain ⟨g', cap', rfl⟩ := ownsRow_succ hown'
          obtain ⟨hc1, hc2, hf2⟩ := HCL.out _ _ hgrow
          refine hK _ _ ?_
          clear hK K
          refine wpAnyIn_take (i := 7) (v := ?_) rfl rfl (by kernel_rfl) (by kernel_rfl) (by kernel_rfl) (fun _ _ _ h => h) ⟨Or.inl ⟨by rfl, ?_⟩, fun _ => rfl⟩ ?_
          rotate_left
          ·intro w; go_simp
           try with_reducible rfl
          refine wpAnyIn_ready (rs := [8]) (by kernel_rfl) (by simp) ?_
          refine AllReadyIn.cons rfl (fun K hK => ?_) ?_
          ·go_simp
           refine hK _ _ ?_
           clear hK K
           refine wpAnyIn_done (by kernel_rfl) ?_ _
           exact FIN.out _ _ _ _ hown' hgrow _
          exact AllReadyIn.nil
         exact AllReadyIn.nil
        exact AllReadyIn.nil
       refine AllReadyIn.cons rfl (fun K hK => ?_) ?_
       ·go_simp
        refine hK _ _ ?_
        clear hK K
        refine wpAnyIn_ready (rs := [3]) (by kernel_rfl) (by simp) ?_
        refine AllReadyIn.cons rfl (fun K hK => ?_) ?_
        ·go_simp
         refine hK _ _ ?_
         clear hK K
         refine wpAnyIn_ready (rs := [6]) (by kernel_rfl) (by simp) ?_
         refine AllReadyIn.cons rfl (fun K hK => ?_) ?_
         ·refine stepIn_append_own rfl _ _ 31 rfl n₀ 9 i0 (.string .empty) 1 16 Tryz.underlying31 hi hz0 hz1 hz2 rfl (by decide) _ _ _ rfl (hr1.alloc _) ⟨W2.heap.size, 0, none⟩ 1 1 [.string (s.extract x.1 x.2)] rfl rfl (cell_str_new _ _ _) (str_one _) (by unfold maxLen; omega) (by omega) (by simp; omega) ?_
          intro v' w1 hown' hgrow _
          obtain ⟨g', cap', rfl⟩ := ownsRow_succ hown'
          obtain ⟨hc1, hc2, hf2⟩ := HCL.out _ _ hgrow
          refine hK _ _ ?_
          clear hK K
          refine wpAnyIn_take (i := 7) (v := ?_) rfl rfl (by kernel_rfl) (by kernel_rfl) (by kernel_rfl) (fun _ _ _ h => h) ⟨Or.inl ⟨by rfl, ?_⟩, fun _ => rfl⟩ ?_
          rotate_left
          ·intro w; go_simp
           try with_reducible rfl
          refine wpAnyIn_ready (rs := [8]) (by kernel_rfl) (by simp) ?_
          refine AllReadyIn.cons rfl (fun K hK => ?_) ?_
          ·go_simp
           refine hK _ _ ?_
           clear hK K
           refine wpAnyIn_done (by kernel_rfl) ?_ _
           exact FIN.out _ _ _ _ hown' hgrow _
          exact AllReadyIn.nil
         exact AllReadyIn.nil
        exact AllReadyIn.nil
       exact AllReadyIn.nil
      refine AllReadyIn.cons rfl (fun K hK => ?_) ?_
      ·go_simp
       refine hK _ _ ?_
       clear hK K
       refine wpAnyIn_ready (rs := [1]) (by kernel_rfl) (by simp) ?_
       refine AllReadyIn.cons rfl (fun K hK => ?_) ?_
       ·go_simp
        refine hK _ _ ?_
        clear hK K
        refine wpAnyIn_take (i := 2) (v := ?_) rfl rfl (by kernel_rfl) (by kernel_rfl) (by kernel_rfl) (fun _ _ _ h => h) ⟨Or.inl ⟨by rfl, ?_⟩, fun _ => rfl⟩ ?_
        rotate_left
        ·intro w; go_simp
         try with_reducible rfl
        refine wpAnyIn_ready (rs := [3]) (by kernel_rfl) (by simp) ?_
        refine AllReadyIn.cons rfl (fun K hK => ?_) ?_
        ·go_simp
         refine hK _ _ ?_
         clear hK K
         refine wpAnyIn_ready (rs := [6]) (by kernel_rfl) (by simp) ?_
         refine AllReadyIn.cons rfl (fun K hK => ?_) ?_
         ·refine stepIn_append_own rfl _ _ 31 rfl n₀ 9 i0 (.string .empty) 1 16 Tryz.underlying31 hi hz0 hz1 hz2 rfl (by decide) _ _ _ rfl (hr1.alloc _) ⟨W2.heap.size, 0, none⟩ 1 1 [.string (s.extract x.1 x.2)] rfl rfl (cell_str_new _ _ _) (str_one _) (by unfold maxLen; omega) (by omega) (by simp; omega) ?_
          intro v' w1 hown' hgrow _
          obtain ⟨g', cap', rfl⟩ := ownsRow_succ hown'
          obtain ⟨hc1, hc2, hf2⟩ := HCL.out _ _ hgrow
          refine hK _ _ ?_
          clear hK K
          refine wpAnyIn_take (i := 7) (v := ?_) rfl rfl (by kernel_rfl) (by kernel_rfl) (by kernel_rfl) (fun _ _ _ h => h) ⟨Or.inl ⟨by rfl, ?_⟩, fun _ => rfl⟩ ?_
          rotate_left
          ·intro w; go_simp
           try with_reducible rfl
          refine wpAnyIn_ready (rs := [8]) (by kernel_rfl) (by simp) ?_
          refine AllReadyIn.cons rfl (fun K hK => ?_) ?_
          ·go_simp
           refine hK _ _ ?_
           clear hK K
           refine wpAnyIn_done (by kernel_rfl) ?_ _
           exact FIN.out _ _ _ _ hown' hgrow _
          exact AllReadyIn.nil
         exact AllReadyIn.nil
        exact AllReadyIn.nil
       exact AllReadyIn.nil
      exact AllReadyIn.nil
     refine AllReadyIn.cons rfl (fun K hK => ?_) ?_
     ·go_simp
      refine hK _ _ ?_
      clear hK K
      refine wpAnyIn_take (i := 2) (v := ?_) rfl rfl (by kernel_rfl) (by kernel_rfl) (by kernel_rfl) (fun _ _ _ h => h) ⟨Or.inl ⟨by rfl, ?_⟩, fun _ => rfl⟩ ?_
      rotate_left
      ·intro w; go_simp
       try with_reducible rfl
      refine wpAnyIn_ready (rs := [0, 3, 5]) (by kernel_rfl) (by simp) ?_
      refine AllReadyIn.cons rfl (fun K hK => ?_) ?_
      ·go_simp
       refine hK _ _ ?_
       clear hK K
       refine wpAnyIn_ready (rs := [3, 5]) (by kernel_rfl) (by simp) ?_
       refine AllReadyIn.cons rfl (fun K hK => ?_) ?_
       ·go_simp
        refine hK _ _ ?_
        clear hK K
        refine wpAnyIn_ready (rs := [5]) (by kernel_rfl) (by simp) ?_
        refine AllReadyIn.cons rfl (fun K hK => ?_) ?_
        ·go_simp
         refine hK _ _ ?_
         clear hK K
         refine wpAnyIn_ready (rs := [6]) (by kernel_rfl) (by simp) ?_
         refine AllReadyIn.cons rfl (fun K hK => ?_) ?_
         ·refine stepIn_append_own rfl _ _ 31 rfl n₀ 9 i0 (.string .empty) 1 16 Tryz.underlying31 hi hz0 hz1 hz2 rfl (by decide) _ _ _ rfl (hr1.alloc _) ⟨W2.heap.size, 0, none⟩ 1 1 [.string (s.extract x.1 x.2)] rfl rfl (cell_str_new _ _ _) (str_one _) (by unfold maxLen; omega) (by omega) (by simp; omega) ?_
          intro v' w1 hown' hgrow _
          obtain ⟨g', cap', rfl⟩ := ownsRow_succ hown'
          obtain ⟨hc1, hc2, hf2⟩ := HCL.out _ _ hgrow
          refine hK _ _ ?_
          clear hK K
          refine wpAnyIn_take (i := 7) (v := ?_) rfl rfl (by kernel_rfl) (by kernel_rfl) (by kernel_rfl) (fun _ _ _ h => h) ⟨Or.inl ⟨by rfl, ?_⟩, fun _ => rfl⟩ ?_
          rotate_left
          ·intro w; go_simp
           try with_reducible rfl
          refine wpAnyIn_ready (rs := [8]) (by kernel_rfl) (by simp) ?_
          refine AllReadyIn.cons rfl (fun K hK => ?_) ?_
          ·go_simp
           refine hK _ _ ?_
           clear hK K
           refine wpAnyIn_done (by kernel_rfl) ?_ _
           exact FIN.out _ _ _ _ hown' hgrow _
          exact AllReadyIn.nil
         exact AllReadyIn.nil
        exact AllReadyIn.nil
       refine AllReadyIn.cons rfl (fun K hK => ?_) ?_
       ·go_simp
        refine hK _ _ ?_
        clear hK K
        refine wpAnyIn_ready (rs := [3]) (by kernel_rfl) (by simp) ?_
        refine AllReadyIn.cons rfl (fun K hK => ?_) ?_
        ·go_simp
         refine hK _ _ ?_
         clear hK K
         refine wpAnyIn_ready (rs := [6]) (by kernel_rfl) (by simp) ?_
         refine AllReadyIn.cons rfl (fun K hK => ?_) ?_
         ·refine stepIn_append_own rfl _ _ 31 rfl n₀ 9 i0 (.string .empty) 1 16 Tryz.underlying31 hi hz0 hz1 hz2 rfl (by decide) _ _ _ rfl (hr1.alloc _) ⟨W2.heap.size, 0, none⟩ 1 1 [.string (s.extract x.1 x.2)] rfl rfl (cell_str_new _ _ _) (str_one _) (by unfold maxLen; omega) (by omega) (by simp; omega) ?_
          intro v' w1 hown' hgrow _
          obtain ⟨g', cap', rfl⟩ := ownsRow_succ hown'
          obtain ⟨hc1, hc2, hf2⟩ := HCL.out _ _ hgrow
          refine hK _ _ ?_
          clear hK K
          refine wpAnyIn_take (i := 7) (v := ?_) rfl rfl (by kernel_rfl) (by kernel_rfl) (by kernel_rfl) (fun _ _ _ h => h) ⟨Or.inl ⟨by rfl, ?_⟩, fun _ => rfl⟩ ?_
          rotate_left
          ·intro w; go_simp
           try with_reducible rfl
          refine wpAnyIn_ready (rs := [8]) (by kernel_rfl) (by simp) ?_
          refine AllReadyIn.cons rfl (fun K hK => ?_) ?_
          ·go_simp
           refine hK _ _ ?_
           clear hK K
           refine wpAnyIn_done (by kernel_rfl) ?_ _
           exact FIN.out _ _ _ _ hown' hgrow _
          exact AllReadyIn.nil
         exact AllReadyIn.nil
        exact AllReadyIn.nil
       exact AllReadyIn.nil
      refine AllReadyIn.cons rfl (fun K hK => ?_) ?_
      ·go_simp
       refine hK _ _ ?_
       clear hK K
       refine wpAnyIn_ready (rs := [0, 5]) (by kernel_rfl) (by simp) ?_
       refine AllReadyIn.cons rfl (fun K hK => ?_) ?_
       ·go_simp
        refine hK _ _ ?_
        clear hK K
        refine wpAnyIn_ready (rs := [5]) (by kernel_rfl) (by simp) ?_
        refine AllReadyIn.cons rfl (fun K hK => ?_) ?_
        ·go_simp
         refine hK _ _ ?_
         clear hK K
         refine wpAnyIn_ready (rs := [6]) (by kernel_rfl) (by simp) ?_
         refine AllReadyIn.cons rfl (fun K hK => ?_) ?_
         ·refine stepIn_append_own rfl _ _ 31 rfl n₀ 9 i0 (.string .empty) 1 16 Tryz.underlying31 hi hz0 hz1 hz2 rfl (by decide) _ _ _ rfl (hr1.alloc _) ⟨W2.heap.size, 0, none⟩ 1 1 [.string (s.extract x.1 x.2)] rfl rfl (cell_str_new _ _ _) (str_one _) (by unfold maxLen; omega) (by omega) (by simp; omega) ?_
          intro v' w1 hown' hgrow _
          obtain ⟨g', cap', rfl⟩ := ownsRow_succ hown'
          obtain ⟨hc1, hc2, hf2⟩ := HCL.out _ _ hgrow
          refine hK _ _ ?_
          clear hK K
          refine wpAnyIn_take (i := 7) (v := ?_) rfl rfl (by kernel_rfl) (by kernel_rfl) (by kernel_rfl) (fun _ _ _ h => h) ⟨Or.inl ⟨by rfl, ?_⟩, fun _ => rfl⟩ ?_
          rotate_left
          ·intro w; go_simp
           try with_reducible rfl
          refine wpAnyIn_ready (rs := [8]) (by kernel_rfl) (by simp) ?_
          refine AllReadyIn.cons rfl (fun K hK => ?_) ?_
          ·go_simp
           refine hK _ _ ?_
           clear hK K
           refine wpAnyIn_done (by kernel_rfl) ?_ _
           exact FIN.out _ _ _ _ hown' hgrow _
          exact AllReadyIn.nil
         exact AllReadyIn.nil
        exact AllReadyIn.nil
       refine AllReadyIn.cons rfl (fun K hK => ?_) ?_
       ·go_simp
        refine hK _ _ ?_
        clear hK K
        refine wpAnyIn_ready (rs := [0, 6]) (by kernel_rfl) (by simp) ?_
        refine AllReadyIn.cons rfl (fun K hK => ?_) ?_
        ·go_simp
         refine hK _ _ ?_
         clear hK K
         refine wpAnyIn_ready (rs := [6]) (by kernel_rfl) (by simp) ?_
         refine AllReadyIn.cons rfl (fun K hK => ?_) ?_
         ·refine stepIn_append_own rfl _ _ 31 rfl n₀ 9 i0 (.string .empty) 1 16 Tryz.underlying31 hi hz0 hz1 hz2 rfl (by decide) _ _ _ rfl (hr1.alloc _) ⟨W2.heap.size, 0, none⟩ 1 1 [.string (s.extract x.1 x.2)] rfl rfl (cell_str_new _ _ _) (str_one _) (by unfold maxLen; omega) (by omega) (by simp; omega) ?_
          intro v' w1 hown' hgrow _
          obtain ⟨g', cap', rfl⟩ := ownsRow_succ hown'
          obtain ⟨hc1, hc2, hf2⟩ := HCL.out _ _ hgrow
          refine hK _ _ ?_
          clear hK K
          refine wpAnyIn_take (i := 7) (v := ?_) rfl rfl (by kernel_rfl) (by kernel_rfl) (by kernel_rfl) (fun _ _ _ h => h) ⟨Or.inl ⟨by rfl, ?_⟩, fun _ => rfl⟩ ?_
          rotate_left
          ·intro w; go_simp
           try with_reducible rfl
          refine wpAnyIn_ready (rs := [8]) (by kernel_rfl) (by simp) ?_
          refine AllReadyIn.cons rfl (fun K hK => ?_) ?_
          ·go_simp
           refine hK _ _ ?_
           clear hK K
           refine wpAnyIn_done (by kernel_rfl) ?_ _
           exact FIN.out _ _ _ _ hown' hgrow _
          exact AllReadyIn.nil
         exact AllReadyIn.nil
        refine AllReadyIn.cons rfl (fun K hK => ?_) ?_
        ·refine stepIn_append_own rfl _ _ 31 rfl n₀ 9 i0 (.string .empty) 1 16 Tryz.underlying31 hi hz0 hz1 hz2 rfl (by decide) _ _ _ rfl (hr1.alloc _) ⟨W2.heap.size, 0, none⟩ 1 1 [.string (s.extract x.1 x.2)] rfl rfl (cell_str_new _ _ _) (str_one _) (by unfold maxLen; omega) (by omega) (by simp; omega) ?_
         intro v' w1 hown' hgrow _
         obtain ⟨g', cap', rfl⟩ := ownsRow_succ hown'
         obtain ⟨hc1, hc2, hf2⟩ := HCL.out _ _ hgrow
         refine hK _ _ ?_
         clear hK K
         refine wpAnyIn_ready (rs := [0]) (by kernel_rfl) (by simp) ?_
         refine AllReadyIn.cons rfl (fun K hK => ?_) ?_
         ·go_simp
          refine hK _ _ ?_
          clear hK K
          refine wpAnyIn_take (i := 7) (v := ?_) rfl rfl (by kernel_rfl) (by kernel_rfl) (by kernel_rfl) (fun _ _ _ h => h) ⟨Or.inl ⟨by rfl, ?_⟩, fun _ => rfl⟩ ?_
          rotate_left
          ·intro w; go_simp
           try with_reducible rfl
          refine wpAnyIn_ready (rs := [8]) (by kernel_rfl) (by simp) ?_
          refine AllReadyIn.cons rfl (fun K hK => ?_) ?_
          ·go_simp
           refine hK _ _ ?_
           clear hK K
           refine wpAnyIn_done (by kernel_rfl) ?_ _
           exact FIN.out _ _ _ _ hown' hgrow _
          exact AllReadyIn.nil
         exact AllReadyIn.nil
        exact AllReadyIn.nil
       exact AllReadyIn.nil
      refine AllReadyIn.cons rfl (fun K hK => ?_) ?_
      ·go_simp
       refine hK _ _ ?_
       clear hK K
       refine wpAnyIn_ready (rs := [0, 3]) (by kernel_rfl) (by simp) ?_
       refine AllReadyIn.cons rfl (fun K hK => ?_) ?_
       ·go_simp
        refine hK _ _ ?_
        clear hK K
        refine wpAnyIn_ready (rs := [3]) (by kernel_rfl) (by simp) ?_
        refine AllReadyIn.cons rfl (fun K hK => ?_) ?_
        ·go_simp
         refine hK _ _ ?_
         clear hK K
         refine wpAnyIn_ready (rs := [6]) (by kernel_rfl) (by simp) ?_
         refine AllReadyIn.cons rfl (fun K hK => ?_) ?_
         ·refine stepIn_append_own rfl _ _ 31 rfl n₀ 9 i0 (.string .empty) 1 16 Tryz.underlying31 hi hz0 hz1 hz2 rfl (by decide) _ _ _ rfl (hr1.alloc _) ⟨W2.heap.size, 0, none⟩ 1 1 [.string (s.extract x.1 x.2)] rfl rfl (cell_str_new _ _ _) (str_one _) (by unfold maxLen; omega) (by omega) (by simp; omega) ?_
          intro v' w1 hown' hgrow _
          obtain ⟨g', cap', rfl⟩ := ownsRow_succ hown'
          obtain ⟨hc1, hc2, hf2⟩ := HCL.out _ _ hgrow
          refine hK _ _ ?_
          clear hK K
          refine wpAnyIn_take (i := 7) (v := ?_) rfl rfl (by kernel_rfl) (by kernel_rfl) (by kernel_rfl) (fun _ _ _ h => h) ⟨Or.inl ⟨by rfl, ?_⟩, fun _ => rfl⟩ ?_
          rotate_left
          ·intro w; go_simp
           try with_reducible rfl
          refine wpAnyIn_ready (rs := [8]) (by kernel_rfl) (by simp) ?_
          refine AllReadyIn.cons rfl (fun K hK => ?_) ?_
          ·go_simp
           refine hK _ _ ?_
           clear hK K
           refine wpAnyIn_done (by kernel_rfl) ?_ _
           exact FIN.out _ _ _ _ hown' hgrow _
          exact AllReadyIn.nil
         exact AllReadyIn.nil
        exact AllReadyIn.nil
       refine AllReadyIn.cons rfl (fun K hK => ?_) ?_
       ·go_simp
        refine hK _ _ ?_
        clear hK K
        refine wpAnyIn_ready (rs := [0, 6]) (by kernel_rfl) (by simp) ?_
        refine AllReadyIn.cons rfl (fun K hK => ?_) ?_
        ·go_simp
         refine hK _ _ ?_
         clear hK K
         refine wpAnyIn_ready (rs := [6]) (by kernel_rfl) (by simp) ?_
         refine AllReadyIn.cons rfl (fun K hK => ?_) ?_
         ·refine stepIn_append_own rfl _ _ 31 rfl n₀ 9 i0 (.string .empty) 1 16 Tryz.underlying31 hi hz0 hz1 hz2 rfl (by decide) _ _ _ rfl (hr1.alloc _) ⟨W2.heap.size, 0, none⟩ 1 1 [.string (s.extract x.1 x.2)] rfl rfl (cell_str_new _ _ _) (str_one _) (by unfold maxLen; omega) (by omega) (by simp; omega) ?_
          intro v' w1 hown' hgrow _
          obtain ⟨g', cap', rfl⟩ := ownsRow_succ hown'
          obtain ⟨hc1, hc2, hf2⟩ := HCL.out _ _ hgrow
          refine hK _ _ ?_
          clear hK K
          refine wpAnyIn_take (i := 7) (v := ?_) rfl rfl (by kernel_rfl) (by kernel_rfl) (by kernel_rfl) (fun _ _ _ h => h) ⟨Or.inl ⟨by rfl, ?_⟩, fun _ => rfl⟩ ?_
          rotate_left
          ·intro w; go_simp
           try with_reducible rfl
          refine wpAnyIn_ready (rs := [8]) (by kernel_rfl) (by simp) ?_
          refine AllReadyIn.cons rfl (fun K hK => ?_) ?_
          ·go_simp
           refine hK _ _ ?_
           clear hK K
           refine wpAnyIn_done (by kernel_rfl) ?_ _
           exact FIN.out _ _ _ _ hown' hgrow _
          exact AllReadyIn.nil
         exact AllReadyIn.nil
        refine AllReadyIn.cons rfl (fun K hK => ?_) ?_
        ·refine stepIn_append_own rfl _ _ 31 rfl n₀ 9 i0 (.string .empty) 1 16 Tryz.underlying31 hi hz0 hz1 hz2 rfl (by decide) _ _ _ rfl (hr1.alloc _) ⟨W2.heap.size, 0, none⟩ 1 1 [.string (s.extract x.1 x.2)] rfl rfl (cell_str_new _ _ _) (str_one _) (by unfold maxLen; omega) (by omega) (by simp; omega) ?_
         intro v' w1 hown' hgrow _
         obtain ⟨g', cap', rfl⟩ := ownsRow_succ hown'
         obtain ⟨hc1, hc2, hf2⟩ := HCL.out _ _ hgrow
         refine hK _ _ ?_
         clear hK K
         refine wpAnyIn_ready (rs := [0]) (by kernel_rfl) (by simp) ?_
         refine AllReadyIn.cons rfl (fun K hK => ?_) ?_
         ·go_simp
          refine hK _ _ ?_
          clear hK K
          refine wpAnyIn_take (i := 7) (v := ?_) rfl rfl (by kernel_rfl) (by kernel_rfl) (by kernel_rfl) (fun _ _ _ h => h) ⟨Or.inl ⟨by rfl, ?_⟩, fun _ => rfl⟩ ?_
          rotate_left
          ·intro w; go_simp
           try with_reducible rfl
          refine wpAnyIn_ready (rs := [8]) (by kernel_rfl) (by simp) ?_
          refine AllReadyIn.cons rfl (fun K hK => ?_) ?_
          ·go_simp
           refine hK _ _ ?_
           clear hK K
           refine wpAnyIn_done (by kernel_rfl) ?_ _
           exact FIN.out _ _ _ _ hown' hgrow _
          exact AllReadyIn.nil
         exact AllReadyIn.nil
        exact AllReadyIn.nil
       exact AllReadyIn.nil
      exact AllReadyIn.nil
     refine AllReadyIn.cons rfl (fun K hK => ?_) ?_
     ·go_simp
      refine hK _ _ ?_
      clear hK K
      refine wpAnyIn_ready (rs := [0, 1]) (by kernel_rfl) (by simp) ?_
      refine AllReadyIn.cons rfl (fun K hK => ?_) ?_
      ·go_simp
       refine hK _ _ ?_
       clear hK K
       refine wpAnyIn_ready (rs := [1]) (by kernel_rfl) (by simp) ?_
       refine AllReadyIn.cons rfl (fun K hK => ?_) ?_
       ·go_simp
        refine hK _ _ ?_
        clear hK K
        refine wpAnyIn_take (i := 2) (v := ?_) rfl rfl (by kernel_rfl) (by kernel_rfl) (by kernel_rfl) (fun _ _ _ h => h) ⟨Or.inl ⟨by rfl, ?_⟩, fun _ => rfl⟩ ?_
        rotate_left
        ·intro w; go_simp
         try with_reducible rfl
        refine wpAnyIn_ready (rs := [3]) (by kernel_rfl) (by simp) ?_
        refine AllReadyIn.cons rfl (fun K hK => ?_) ?_
        ·go_simp
         refine hK _ _ ?_
         clear hK K
         refine wpAnyIn_ready (rs := [6]) (by kernel_rfl) (by simp) ?_
         refine AllReadyIn.cons rfl (fun K hK => ?_) ?_
         ·refine stepIn_append_own rfl _ _ 31 rfl n₀ 9 i0 (.string .empty) 1 16 Tryz.underlying31 hi hz0 hz1 hz2 rfl (by decide) _ _ _ rfl (hr1.alloc _) ⟨W2.heap.size, 0, none⟩ 1 1 [.string (s.extract x.1 x.2)] rfl rfl (cell_str_new _ _ _) (str_one _) (by unfold maxLen; omega) (by omega) (by simp; omega) ?_
          intro v' w1 hown' hgrow _
          obtain ⟨g', cap', rfl⟩ := ownsRow_succ hown'
          obtain ⟨hc1, hc2, hf2⟩ := HCL.out _ _ hgrow
          refine hK _ _ ?_
          clear hK K
          refine wpAnyIn_take (i := 7) (v := ?_) rfl rfl (by kernel_rfl) (by kernel_rfl) (by kernel_rfl) (fun _ _ _ h => h) ⟨Or.inl ⟨by rfl, ?_⟩, fun _ => rfl⟩ ?_
          rotate_left
          ·intro w; go_simp
           try with_reducible rfl
          refine wpAnyIn_ready (rs := [8]) (by kernel_rfl) (by simp) ?_
          refine AllReadyIn.cons rfl (fun K hK => ?_) ?_
          ·go_simp
           refine hK _ _ ?_
           clear hK K
           refine wpAnyIn_done (by kernel_rfl) ?_ _
           exact FIN.out _ _ _ _ hown' hgrow _
          exact AllReadyIn.nil
         exact AllReadyIn.nil
        exact AllReadyIn.nil
       exact AllReadyIn.nil
      refine AllReadyIn.cons rfl (fun K hK => ?_) ?_
      ·go_simp
       refine hK _ _ ?_
       clear hK K
       refine wpAnyIn_take (i := 2) (v := ?_) rfl rfl (by kernel_rfl) (by kernel_rfl) (by kernel_rfl) (fun _ _ _ h => h) ⟨Or.inl ⟨by rfl, ?_⟩, fun _ => rfl⟩ ?_
       rotate_left
       ·intro w; go_simp
        try with_reducible rfl
       refine wpAnyIn_ready (rs := [0, 3]) (by kernel_rfl) (by simp) ?_
       refine AllReadyIn.cons rfl (fun K hK => ?_) ?_
       ·go_simp
        refine hK _ _ ?_
        clear hK K
        refine wpAnyIn_ready (rs := [3]) (by kernel_rfl) (by simp) ?_
        refine AllReadyIn.cons rfl (fun K hK => ?_) ?_
        ·go_simp
         refine hK _ _ ?_
         clear hK K
         refine wpAnyIn_ready (rs := [6]) (by kernel_rfl) (by simp) ?_
         refine AllReadyIn.cons rfl (fun K hK => ?_) ?_
         ·refine stepIn_append_own rfl _ _ 31 rfl n₀ 9 i0 (.string .empty) 1 16 Tryz.underlying31 hi hz0 hz1 hz2 rfl (by decide) _ _ _ rfl (hr1.alloc _) ⟨W2.heap.size, 0, none⟩ 1 1 [.string (s.extract x.1 x.2)] rfl rfl (cell_str_new _ _ _) (str_one _) (by unfold maxLen; omega) (by omega) (by simp; omega) ?_
          intro v' w1 hown' hgrow _
          obtain ⟨g', cap', rfl⟩ := ownsRow_succ hown'
          obtain ⟨hc1, hc2, hf2⟩ := HCL.out _ _ hgrow
          refine hK _ _ ?_
          clear hK K
          refine wpAnyIn_take (i := 7) (v := ?_) rfl rfl (by kernel_rfl) (by kernel_rfl) (by kernel_rfl) (fun _ _ _ h => h) ⟨Or.inl ⟨by rfl, ?_⟩, fun _ => rfl⟩ ?_
          rotate_left
          ·intro w; go_simp
           try with_reducible rfl
          refine wpAnyIn_ready (rs := [8]) (by kernel_rfl) (by simp) ?_
          refine AllReadyIn.cons rfl (fun K hK => ?_) ?_
          ·go_simp
           refine hK _ _ ?_
           clear hK K
           refine wpAnyIn_done (by kernel_rfl) ?_ _
           exact FIN.out _ _ _ _ hown' hgrow _
          exact AllReadyIn.nil
         exact AllReadyIn.nil
        exact AllReadyIn.nil
       refine AllReadyIn.cons rfl (fun K hK => ?_) ?_
       ·go_simp
        refine hK _ _ ?_
        clear hK K
        refine wpAnyIn_ready (rs := [0, 6]) (by kernel_rfl) (by simp) ?_
        refine AllReadyIn.cons rfl (fun K hK => ?_) ?_
        ·go_simp
         refine hK _ _ ?_
         clear hK K
         refine wpAnyIn_ready (rs := [6]) (by kernel_rfl) (by simp) ?_
         refine AllReadyIn.cons rfl (fun K hK => ?_) ?_
         ·refine stepIn_append_own rfl _ _ 31 rfl n₀ 9 i0 (.string .empty) 1 16 Tryz.underlying31 hi hz0 hz1 hz2 rfl (by decide) _ _ _ rfl (hr1.alloc _) ⟨W2.heap.size, 0, none⟩ 1 1 [.string (s.extract x.1 x.2)] rfl rfl (cell_str_new _ _ _) (str_one _) (by unfold maxLen; omega) (by omega) (by simp; omega) ?_
          intro v' w1 hown' hgrow _
          obtain ⟨g', cap', rfl⟩ := ownsRow_succ hown'
          obtain ⟨hc1, hc2, hf2⟩ := HCL.out _ _ hgrow
          refine hK _ _ ?_
          clear hK K
          refine wpAnyIn_take (i := 7) (v := ?_) rfl rfl (by kernel_rfl) (by kernel_rfl) (by kernel_rfl) (fun _ _ _ h => h) ⟨Or.inl ⟨by rfl, ?_⟩, fun _ => rfl⟩ ?_
          rotate_left
          ·intro w; go_simp
           try with_reducible rfl
          refine wpAnyIn_ready (rs := [8]) (by kernel_rfl) (by simp) ?_
          refine AllReadyIn.cons rfl (fun K hK => ?_) ?_
          ·go_simp
           refine hK _ _ ?_
           clear hK K
           refine wpAnyIn_done (by kernel_rfl) ?_ _
           exact FIN.out _ _ _ _ hown' hgrow _
          exact AllReadyIn.nil
         exact AllReadyIn.nil
        refine AllReadyIn.cons rfl (fun K hK => ?_) ?_
        ·refine stepIn_append_own rfl _ _ 31 rfl n₀ 9 i0 (.string .empty) 1 16 Tryz.underlying31 hi hz0 hz1 hz2 rfl (by decide) _ _ _ rfl (hr1.alloc _) ⟨W2.heap.size, 0, none⟩ 1 1 [.string (s.extract x.1 x.2)] rfl rfl (cell_str_new _ _ _) (str_one _) (by unfold maxLen; omega) (by omega) (by simp; omega) ?_
         intro v' w1 hown' hgrow _
         obtain ⟨g', cap', rfl⟩ := ownsRow_succ hown'
         obtain ⟨hc1, hc2, hf2⟩ := HCL.out _ _ hgrow
         refine hK _ _ ?_
         clear hK K
         refine wpAnyIn_ready (rs := [0]) (by kernel_rfl) (by simp) ?_
         refine AllReadyIn.cons rfl (fun K hK => ?_) ?_
         ·go_simp
          refine hK _ _ ?_
          clear hK K
          refine wpAnyIn_take (i := 7) (v := ?_) rfl rfl (by kernel_rfl) (by kernel_rfl) (by kernel_rfl) (fun _ _ _ h => h) ⟨Or.inl ⟨by rfl, ?_⟩, fun _ => rfl⟩ ?_
          rotate_left
          ·intro w; go_simp
           try with_reducible rfl
          refine wpAnyIn_ready (rs := [8]) (by kernel_rfl) (by simp) ?_
          refine AllReadyIn.cons rfl (fun K hK => ?_) ?_
          ·go_simp
           refine hK _ _ ?_
           clear hK K
           refine wpAnyIn_done (by kernel_rfl) ?_ _
           exact FIN.out _ _ _ _ hown' hgrow _
          exact AllReadyIn.nil
         exact AllReadyIn.nil
        exact AllReadyIn.nil
       exact AllReadyIn.nil
      exact AllReadyIn.nil
     exact AllReadyIn.nil
    ·generalize hkk : wrongL true s.data.toList (seg s.data.toList x.1 x.2) x.2 = kk at *
     have WC := hide WC0
     clear WC0
     have hkb : (kk != 0) = true := by simpa using hk0
     gi_wp2_with (refine ⟨trivial, ?_⟩; gi_at_call 74; refine (callsIn_wide.2 (WC.out _)).mono ?_; rintro e w' ⟨rfl, hw'⟩; rw [hw']; clear hw' w')
     obtain ⟨W1, hW1, hL1, hr1, hB1, hk1, h21, hs1⟩ := mid_world (s := s) (cs := fun v => #[.string (s.extract 0 a), .string (s.extract b c), .string (s.extract d e), v, .slice none 0 0]) (v := .slice ao pre.length cap) (x.2 : Int) kk (W.heap.size + 1 + 1 + 1) (W.heap.size + 1 + 1) (by omega) (by omega) hps1 (by omega) (by omega) hLi hrow hB
     rw [← hW1]
     exact ⟨hk1.from _, rfl, pre, x, rfl, hbad, by rw [hkk]; exact hk0, _, by rw [hkk]; exact hL1, hr1, hB1⟩
   case done_p1 =>
    rintro D1 ys Wb hD rfl ⟨⟨v, hL2, hrow, hB2⟩, hbad⟩ hK
    clear cS cA cE v0 v1 v2 v3 v4 zA zE eV eA eE eS eR eF ls0 ls1 ls2 lr0 lr1 lr2 lf0 lf1 lf2 lv0 lv1 lv2 la0 la1 la2 le0 le1 le2 hL hBW hLs hBf hbA hbS hps hpsV hps1
    simp only [World.size_alloc] at hD
    have hids := idsR_ok true s.data.toList (e + 1) hbad
    have hp := lastE_ends s.data.toList (e + 1) (by rw [len_data]; omega)
    rw [len_data] at hp
    have HT2 : Hid (parseR s.data.toList = putT a b c d e (buildR s.data.toList (lastE (e + 1) (segs s.data.toList (e + 1))) (segs s.data.toList (e + 1)))) := by
     show _ = _
     rw [HT.out, tail_ok H45.out hids]
    rw [segs_lastE] at hL2
    have hne := segs_ne s.data.toList (e + 1)
    clear hids hbad HT H45
    generalize lastE (e + 1) (segs s.data.toList (e + 1)) = p at *
    generalize segs s.data.toList (e + 1) = PP at *
    obtain ⟨g1, cap1, rfl⟩ := row_some hrow (by cases PP with | nil => exact absurd rfl hne | cons _ _ => simp)
    obtain ⟨cur1, hg1, hgb1, HO1'⟩ := row_block hrow
    have HO1 := hide HO1'
    have HT := hide HT2.out
    clear HO1' hne HT2
    have hL : Lies Wb _ := Lies.cons hL2.head (Lies.cons hL2.tail.head (Lies.cons hL2.tail.tail.head (Lies.cons hL2.tail.tail.tail.tail.tail.tail.tail.head (Lies.cons hL2.tail.tail.tail.tail.tail.tail.tail.tail.head (Lies.cons hL2.tail.tail.tail.tail.tail.tail.tail.tail.tail.head (Lies.cons hgb1 (Lies.cons hK (Lies.nil _))))))))
    have hBW := hB2
    have hDlt : D1 < Wb.heap.size := (Array.getElem?_eq_some_iff.1 hK).1
    clear hL2 hB2 hrow hK
    have hVs : V + 3 ≤ Wb.heap.size := by have := hL.lt _ (List.mem_cons_of_mem _ (List.mem_cons_of_mem _ List.mem_cons_self)); simp only at this; omega
    have hdash : ∀ h : p < s.size, s[p] ≠ 45 := fun h => not_dash s p h hp.2
    go_wp2_with fail
    have eV := hL.head
    have eA := hL.tail.head
    have eE := hL.tail.tail.head
    have eS := hL.tail.tail.tail.head
    have eR := hL.tail.tail.tail.tail.head
    have eF := hL.tail.tail.tail.tail.tail.head
    have x_g := hL.tail.tail.tail.tail.tail.tail.head
    have x_D := hL.tail.tail.tail.tail.tail.tail.tail.head
    have cS := one_cell eS
    have cA := one_cell eA
    have cE := one_cell eE
    have v0 := cell_at 0 eV rfl
    have v1 := cell_at 1 eV rfl
    have v2 := cell_at 2 eV rfl
    have v3 := cell_at 3 eV rfl
    have v4 := cell_at 4 eV rfl
    have zA := one_free 0 eA
    have zE := one_free 0 eE
    by_cases hend : p = s.size
    ·have HP : Hid (parseR s.data.toList = .ok ⟨a, b, c, d, e, PP, []⟩) := by
      show _ = _
      rw [HT.out, build_none (by rw [at_none s p (by omega)]; simp), if_neg (by rw [len_data]; omega)]; rfl
     have hlt : ¬ ((p : Int) < (s.size : Int)) := by omega
     clear hend
     have r0 := cell_at 0 eR rfl
     have r1 := cell_at 1 eR rfl
     have r2 := cell_at 2 eR rfl
     have r3 := cell_at 3 eR rfl
     have r4 := cell_at 4 eR rfl
     have f0 := cell_at 0 eF rfl
     have f1 := cell_at 1 eF rfl
     have z0 := one_free 0 eR
     have z1 := one_free 1 eR
     have z2 := one_free 2 eR
     have z3 := one_free 3 eR
     have z4 := one_free 4 eR
     have y0 := one_free 0 eF
     have y1 := one_free 1 eF
     rw [rounds_succ]
     go_wp2_with fail
     try rw [Exit.noGoto_ret]
     obtain ⟨W9, hW9, gr, gf, hk, hbl⟩ := end_world (W := Wb) (B1 := w.heap.size + 1) (B2 := w.heap.size + 1 + 1) (by omega) (.string (s.extract 0 a)) (.string (s.extract b c)) (.string (s.extract d e)) (.slice (some ⟨g1, 0, none⟩) PP.length cap1) (.slice none 0 0) (.int .i64 0) (.int .i64 0) eR eF
     rw [← hW9]
     refine fin9 _ [D1] W9 w.heap.size (w.heap.size + 1) (w.heap.size + 1 + 1) _ _ _ _ _ _ _ ⟨_, _, _, rfl⟩ ⟨_, _, _, rfl⟩ rfl rfl gr gf (by simp) (by intro D hD; simp only [List.mem_cons, List.not_mem_nil, or_false] at hD; rcases hD with rfl <;> exact ⟨by omega, (hk _ (by omega) (by omega)).trans (by assumption)⟩) ?_
     exact fun W' h => ppost_ok (c := ⟨a, b, c, d, e, PP, []⟩) HP.out (hBW.trans (hbl _ (by omega) (by omega))) h (HO1.out _ _ ((hk g1 (by omega) (by omega)).trans x_g) (by omega)) (World.ownsRow_nil _ _ _ _)
    ·have hlt : p < s.size := by omega
     clear hend
     have hb1 : ((s[p].toNat : Int) == 45) = false := ne_byte (k := 45) (by omega) (hdash hlt)
     have hWs := hBW.size
     have ls0 : w.heap.size < Wb.heap.size := by omega
     have ls1 : w.heap.size < Wb.heap.size + 1 := by omega
     have ls2 : w.heap.size < Wb.heap.size + 1 + 1 := by omega
     have lr0 : w.heap.size + 1 < Wb.heap.size := by omega
     have lr1 : w.heap.size + 1 < Wb.heap.size + 1 := by omega
     have lr2 : w.heap.size + 1 < Wb.heap.size + 1 + 1 := by omega
     have lf0 : w.heap.size + 1 + 1 < Wb.heap.size := by omega
     have lf1 : w.heap.size + 1 + 1 < Wb.heap.size + 1 := by omega
     have lf2 : w.heap.size + 1 + 1 < Wb.heap.size + 1 + 1 := by omega
     have lv0 : V < Wb.heap.size := by omega
     have lv1 : V < Wb.heap.size + 1 := by omega
     have lv2 : V < Wb.heap.size + 1 + 1 := by omega
     have la0 : V + 1 < Wb.heap.size := by omega
     have la1 : V + 1 < Wb.heap.size + 1 := by omega
     have la2 : V + 1 < Wb.heap.size + 1 + 1 := by omega
     have le0 : V + 1 + 1 < Wb.heap.size := by omega
     have le1 : V + 1 + 1 < Wb.heap.size + 1 := by omega
     have le2 : V + 1 + 1 < Wb.heap.size + 1 + 1 := by omega
     by_cases h43 : s[p] = 43
     ·have hb2 : ((s[p].toNat : Int) != 43) = false := by rw [h43]; rfl
      have H43 := hide (show s.data.toList[p]? = some 43 by rw [at_some s p hlt, h43])
      clear h43 hdash
      rw [rounds_succ]
      go_wp2_with fail
      refine (identifiers_any s _ _).mono ?_
      rintro e' w2 ⟨rfl, hw2⟩
      rw [hw2]
      clear hw2 w2
      go_wp2_with fail
      have hLf := lies_four Wb (.cells #[.bool false] 4) (.cells #[.pointer (some ⟨V, 4, none⟩)] 104) (.cells #[.string s] 9) (.cells #[.int .i64 ((p : Int) + 1)] 3) _ hL
      have hBf := below_four w Wb (.cells #[.bool false] 4) (.cells #[.pointer (some ⟨V, 4, none⟩)] 104) (.cells #[.string s] 9) (.cells #[.int .i64 ((p : Int) + 1)] 3) hBW
      have hLs := Lies.cons hLf.tail.tail.tail.tail.head (Lies.cons hLf.tail.tail.tail.tail.tail.head (Lies.cons hLf.tail.tail.tail.tail.tail.tail.head (Lies.cons hLf.head (Lies.cons hLf.tail.head (Lies.cons hLf.tail.tail.head (Lies.cons hLf.tail.tail.tail.head hLf.tail.tail.tail.tail.tail.tail.tail))))))
      have hbA : Boxed _ (Wb.heap.size + 1 + 1 + 1) 3 (.int .i64 ((p + 1 : Nat) : Int)) := hLf.tail.tail.tail.head
      have hbS : Boxed _ (Wb.heap.size + 1 + 1) 9 (.string s) := hLf.tail.tail.head
      have hps : ∀ q ∈ (((Wb.heap.size, .cells #[.bool false] 4) :: (Wb.heap.size + 1, .cells #[.pointer (some ⟨V, 4, none⟩)] 104) :: (Wb.heap.size + 1 + 1, .cells #[.string s] 9) :: (Wb.heap.size + 1 + 1 + 1, .cells #[.int .i64 ((p : Int) + 1)] 3) :: (w.heap.size, .cells #[.string s] 9) :: (w.heap.size + 1, .cells #[.string ⟨#[]⟩, .string ⟨#[]⟩, .string ⟨#[]⟩, .slice none 0 0, .slice none 0 0] 33) :: (w.heap.size + 1 + 1, .cells #[.int .i64 0, .int .i64 0] 25) :: (g1, .cells cur1 9) :: (D1, .deferred (some [])) :: []) : List (Nat × Obj)), q.1 < (Wb.heap.size + 1 + 1 + 1 + 1) := fun q hq => by
       have := hLs.lt q (List.mem_cons_of_mem _ (List.mem_cons_of_mem _ (List.mem_cons_of_mem _ hq)))
       simpa only [World.size_alloc] using this
      have hwX := hBW.size
      have hpsV : ∀ q ∈ (((Wb.heap.size, .cells #[.bool false] 4) :: (Wb.heap.size + 1, .cells #[.pointer (some ⟨V, 4, none⟩)] 104) :: (Wb.heap.size + 1 + 1, .cells #[.string s] 9) :: (Wb.heap.size + 1 + 1 + 1, .cells #[.int .i64 ((p : Int) + 1)] 3) :: (w.heap.size, .cells #[.string s] 9) :: (w.heap.size + 1, .cells #[.string ⟨#[]⟩, .string ⟨#[]⟩, .string ⟨#[]⟩, .slice none 0 0, .slice none 0 0] 33) :: (w.heap.size + 1 + 1, .cells #[.int .i64 0, .int .i64 0] 25) :: (g1, .cells cur1 9) :: (D1, .deferred (some [])) :: []) : List (Nat × Obj)), q.1 ≠ V := by
       intro q hq
       simp only [List.mem_cons, List.not_mem_nil, or_false] at hq
       rcases hq with rfl | rfl | rfl | rfl | rfl | rfl | rfl | rfl | rfl <;> simp only <;> omega
      have hps1 : ∀ q ∈ (((Wb.heap.size, .cells #[.bool false] 4) :: (Wb.heap.size + 1, .cells #[.pointer (some ⟨V, 4, none⟩)] 104) :: (Wb.heap.size + 1 + 1, .cells #[.string s] 9) :: (Wb.heap.size + 1 + 1 + 1, .cells #[.int .i64 ((p : Int) + 1)] 3) :: (w.heap.size, .cells #[.string s] 9) :: (w.heap.size + 1, .cells #[.string ⟨#[]⟩, .string ⟨#[]⟩, .string ⟨#[]⟩, .slice none 0 0, .slice none 0 0] 33) :: (w.heap.size + 1 + 1, .cells #[.int .i64 0, .int .i64 0] 25) :: (g1, .cells cur1 9) :: (D1, .deferred (some [])) :: []) : List (Nat × Obj)), q.1 ≠ V + 1 ∧ q.1 ≠ V + 1 + 1 := by
       intro q hq
       simp only [List.mem_cons, List.not_mem_nil, or_false] at hq
       rcases hq with rfl | rfl | rfl | rfl | rfl | rfl | rfl | rfl | rfl <;> simp only <;> omega
      clear hLf
      generalize hn0 : (Wb.heap.size + 1 + 1 + 1 + 1) = n₁ at *
      refine (wpIn_wide (n := 5)).1 ?_
      refine wpIn_rangeFunc_ownG rfl (by omega) (gf := 108) (lb := #[.pointer (some ⟨Wb.heap.size + 1 + 1 + 1, 0, none⟩), .pointer (some ⟨Wb.heap.size + 1 + 1, 0, none⟩)]) rfl trivial (enters_of Tryz.func108 (by kernel_rfl) rfl)
       (ids_stops 4 (by omega) (Wb.heap.size + 1 + 1 + 1) (Wb.heap.size + 1 + 1) s (p + 1) (by omega) (by omega) _ hbA hbS) Two.trans (two_b (by simp only [World.size_alloc]; omega) (by simp only [World.size_alloc]; omega)) (Below.refl _ _) (fun _ => rfl)
       (PI s w n₁ V ((Wb.heap.size, .cells #[.bool false] 4) :: (Wb.heap.size + 1, .cells #[.pointer (some ⟨V, 4, none⟩)] 104) :: (Wb.heap.size + 1 + 1, .cells #[.string s] 9) :: (Wb.heap.size + 1 + 1 + 1, .cells #[.int .i64 ((p : Int) + 1)] 3) :: (w.heap.size, .cells #[.string s] 9) :: (w.heap.size + 1, .cells #[.string ⟨#[]⟩, .string ⟨#[]⟩, .string ⟨#[]⟩, .slice none 0 0, .slice none 0 0] 33) :: (w.heap.size + 1 + 1, .cells #[.int .i64 0, .int .i64 0] 25) :: (g1, .cells cur1 9) :: (D1, .deferred (some [])) :: []) (fun v => #[.string (s.extract 0 a), .string (s.extract b c), .string (s.extract d e), (.slice (some ⟨g1, 0, none⟩) PP.length cap1), v]) false p)
       (PX s w n₁ V ((Wb.heap.size, .cells #[.bool false] 4) :: (Wb.heap.size + 1, .cells #[.pointer (some ⟨V, 4, none⟩)] 104) :: (Wb.heap.size + 1 + 1, .cells #[.string s] 9) :: (Wb.heap.size + 1 + 1 + 1, .cells #[.int .i64 ((p : Int) + 1)] 3) :: (w.heap.size, .cells #[.string s] 9) :: (w.heap.size + 1, .cells #[.string ⟨#[]⟩, .string ⟨#[]⟩, .string ⟨#[]⟩, .slice none 0 0, .slice none 0 0] 33) :: (w.heap.size + 1 + 1, .cells #[.int .i64 0, .int .i64 0] 25) :: (g1, .cells cur1 9) :: (D1, .deferred (some [])) :: []) (fun v => #[.string (s.extract 0 a), .string (s.extract b c), .string (s.extract d e), (.slice (some ⟨g1, 0, none⟩) PP.length cap1), v]) false 0)
       (fun pre A B row h hg hr => ⟨PS_own s w _ V _ _ _ _ pre _ (by simp only [World.size_alloc]; omega) (fun q hq => by have := hps q hq; simp only [World.size_alloc]; omega) (by simp only [World.size_alloc]; omega) A B row h.1 hg hr, h.2⟩)
       (fun c ys A B row h hg hr => by
        obtain ⟨hc, pre, x, e1, e2, e3, h4⟩ := h
        exact ⟨hc, pre, x, e1, e2, e3, PS_own s w _ V _ _ _ _ pre _ (by simp only [World.size_alloc]; omega) (fun q hq => by have := hps q hq; simp only [World.size_alloc]; omega) (by simp only [World.size_alloc]; omega) A B row h4 hg hr⟩)
       ⟨⟨_, hLs, World.ownsRow_nil _ _ _ _, hBf⟩, rfl⟩ ?a1_p2 ?assign_p2 ?body_p2 ?done_p2 ?stop_p2
      case assign_p2 =>
       intro l x W K hK
       gi_wp2
       exact hK
      case body_p2 =>
       rintro lx pre x Wi ⟨⟨v, hLi, hrow, hB⟩, hbad⟩ hlen
       obtain ⟨ao, cap, rfl⟩ := row_slice hrow
       have eV := hLi.head
       have eA := hLi.tail.head
       have eE := hLi.tail.tail.head
       have eI := hLi.tail.tail.tail.head
       have eL := hLi.tail.tail.tail.tail.head
       have eS := hLi.tail.tail.tail.tail.tail.tail.tail.head
       clear cS cA cE v0 v1 v2 v3 v4 zA zE
       have cS := one_cell eS
       have cI := one_cell eI
       have cL := one_cell eL
       have cA := one_cell eA
       have cE := one_cell eE
       have zA := one_free 0 eA
       have zE := one_free 0 eE
       have WC0 : ∀ w : World, Calls Tryz.prog 74 #[.string s, .string (s.extract x.1 x.2), .int .i64 (x.2 : Int), .bool false] w fun r w' => r = .returned (.int .i64 (wrongL false s.data.toList (seg s.data.toList x.1 x.2) x.2)) ∧ w' = w := fun w => by
        have := wrong_any s (s.extract x.1 x.2) x.2 false w (by unfold maxLen; omega) (by rw [extract_seg, ofL_size]; unfold maxLen; simp [seg]; omega)
        rw [extract_data] at this
        exact this
       have hrowl : pre.length ≤ 70 := by have := segs_len s.data.toList _ (p + 1) rfl; rw [len_data] at this; omega
       by_cases hk0 : wrongL false s.data.toList (seg s.data.toList x.1 x.2) x.2 = 0
       ·rw [hk0] at WC0
        have WC := hide WC0
        clear WC0
        gi_wp2_with (refine ⟨trivial, ?_⟩; gi_at_call 74; refine (callsIn_wide.2 (WC.out _)).mono ?_; rintro e w' ⟨rfl, hw'⟩; rw [hw']; clear hw' w')
        obtain ⟨W1, hW1, hL1, hr1, hB1, hk1, h21, hs1⟩ := mid_world (s := s) (cs := fun v => #[.string (s.extract 0 a), .string (s.extract b c), .string (s.extract d e), (.slice (some ⟨g1, 0, none⟩) PP.length cap1), v]) (v := .slice ao pre.length cap) (x.2 : Int) 0 (Wb.heap.size + 1 + 1 + 1) (Wb.heap.size + 1 + 1) (by omega) (by omega) hps1 (by omega) (by omega) hLi hrow hB
        have hn1 : n₁ ≤ W1.drew.heap.size := by show n₁ ≤ W1.heap.size; rw [hs1]; have := hLi.lt _ (List.mem_cons_of_mem _ (List.mem_cons_of_mem _ (List.mem_cons_of_mem _ (List.mem_cons_of_mem _ (List.mem_cons_of_mem _ (List.mem_cons_of_mem _ List.mem_cons_self)))))); simp only at this; omega
        rw [← hW1]
        refine wpIn_region_any (by kernel_rfl) ?_
        refine wpAnyIn_round (F := Fence.wide) rfl ?hd_p2 _ _ _ _ ?_
        case hd_p2 => exact noDefer_of (by kernel_rfl)
        change wpAnyIn _ _ _ _ _ _ _ _ _ (World.drew _)
        clear hW1
        replace hL1 : Lies W1.drew _ := hL1
        replace hr1 := hr1.drew
        replace hB1 := hB1.drew
        replace hk1 := hk1.trans (KeepsOthers.drew W1)
        replace h21 : Two (Wb.heap.size + 1 + 1 + 1) (Wb.heap.size + 1 + 1) Wi W1.drew := h21
        clear hs1
        generalize W1.drew = W2 at *
        have cL2 := one_cell hL1.tail.tail.tail.tail.head
        have cV2 := cell_at 4 hL1.head rfl
        have cLa : ∀ o : Obj, (W2.alloc o).cell? ⟨Wb.heap.size + 1, 0, none⟩ = some (.pointer (some ⟨V, 4, none⟩)) := fun o => one_cell (hL1.alloc o).tail.tail.tail.tail.head
        have cVa : ∀ o : Obj, (W2.alloc o).cell? ⟨V, 4, none⟩ = some (.slice ao pre.length cap) := fun o => cell_at 4 (hL1.alloc o).head rfl
        have hq3 : ∀ q ∈ ((V, Obj.cells ((fun v => #[.string (s.extract 0 a), .string (s.extract b c), .string (s.extract d e), (.slice (some ⟨g1, 0, none⟩) PP.length cap1), v]) (.slice ao pre.length cap)) 33 (0, 0)) :: (V + 1, .cells #[.int .i64 (x.2 : Int)] 3 (0, 0)) :: (V + 1 + 1, .cells #[.int .i64 0] 23 (0, 0)) :: ((Wb.heap.size, .cells #[.bool false] 4) :: (Wb.heap.size + 1, .cells #[.pointer (some ⟨V, 4, none⟩)] 104) :: (Wb.heap.size + 1 + 1, .cells #[.string s] 9) :: (Wb.heap.size + 1 + 1 + 1, .cells #[.int .i64 ((p : Int) + 1)] 3) :: (w.heap.size, .cells #[.string s] 9) :: (w.heap.size + 1, .cells #[.string ⟨#[]⟩, .string ⟨#[]⟩, .string ⟨#[]⟩, .slice none 0 0, .slice none 0 0] 33) :: (w.heap.size + 1 + 1, .cells #[.int .i64 0, .int .i64 0] 25) :: (g1, .cells cur1 9) :: (D1, .deferred (some [])) :: [])), q.1 < n₁ := by
         intro q hq
         rcases List.mem_cons.1 hq with rfl | hq
         ·show V < n₁; omega
         rcases List.mem_cons.1 hq with rfl | hq
         ·show V + 1 < n₁; omega
         rcases List.mem_cons.1 hq with rfl | hq
         ·show V + 1 + 1 < n₁; omega
         exact hps q hq
        have HCL : Hid (∀ (tmp : Obj) (w1 : World), (W2.alloc tmp).grownBy w1 (Value.slice ao pre.length cap).ownBlock → w1.cell? ⟨Wb.heap.size + 1, 0, none⟩ = some (.pointer (some ⟨V, 4, none⟩)) ∧ w1.cell? ⟨V, 4, none⟩ = some (.slice ao pre.length cap) ∧ w1.frozen? ⟨V, 4, none⟩ = false) := fun tmp w1 hg => by
         have h := lies_grown hL1 hq3 hr1 hg
         exact ⟨one_cell h.tail.tail.tail.tail.head, cell_at 4 h.head rfl, one_free 4 h.head⟩
        have FIN := hide (fun (g' cap' : Nat) (tmp : Obj) (w1 : World) hown' hgrow (B : Nat) => fin_step (g' := g') (cap' := cap') (tmp := tmp) (w1 := w1) (z := p) (off := 4) (cs := fun v => #[.string (s.extract 0 a), .string (s.extract b c), .string (s.extract d e), (.slice (some ⟨g1, 0, none⟩) PP.length cap1), v]) (by omega) (fun q hq => ⟨hps q hq, hpsV q hq⟩) (by omega) (by omega) (by omega) (fun u => rfl) hn1 hL1 hr1 hB1 hk1 h21 hbad hk0 hown' hgrow B)
        clear cS cI cL cA cE zA zE eV eA eE eI eL eS hLi hrow hB
        refine wpAnyIn_take (i := 4) (v := ?_) rfl rfl (by kernel_rfl) (by kernel_rfl) (by kernel_rfl) (fun _ _ _ h => h) ⟨Or.inl ⟨by rfl, ?_⟩, fun _ => rfl⟩ ?_
        rotate_left
        ·intro w; go_simp
         try with_reducible rfl
        refine wpAnyIn_ready (rs := [0, 1, 5]) (by kernel_rfl) (by simp) ?_
        refine AllReadyIn.cons rfl (fun K hK => ?_) ?_
        ·go_simp
         refine hK _ _ ?_
         clear hK K
         refine wpAnyIn_ready (rs := [1, 5]) (by kernel_rfl) (by simp) ?_
         refine AllReadyIn.cons rfl (fun K hK => ?_) ?_
         ·go_simp
          refine hK _ _ ?_
          clear hK K
          refine wpAnyIn_take (i := 2) (v := ?_) rfl rfl (by kernel_rfl) (by kernel_rfl) (by kernel_rfl) (fun _ _ _ h => h) ⟨Or.inl ⟨by rfl, ?_⟩, fun _ => rfl⟩ ?_
          rotate_left
          ·intro w; go_simp
           try with_reducible rfl
          refine wpAnyIn_ready (rs := [3, 5]) (by kernel_rfl) (by simp) ?_
          refine AllReadyIn.cons rfl (fun K hK => ?_) ?_
          ·go_simp
           refine hK _ _ ?_
           clear hK K
           refine wpAnyIn_ready (rs := [5]) (by kernel_rfl) (by simp) ?_
           refine AllReadyIn.cons rfl (fun K hK => ?_) ?_
           ·go_simp
            refine hK _ _ ?_
            clear hK K
            refine wpAnyIn_ready (rs := [6]) (by kernel_rfl) (by simp) ?_
            refine AllReadyIn.cons rfl (fun K hK => ?_) ?_
            ·refine stepIn_append_own rfl _ _ 31 rfl n₁ 9 i0 (.string .empty) 1 16 Tryz.underlying31 hi hz0 hz1 hz2 rfl (by decide) _ _ _ rfl (hr1.alloc _) ⟨W2.heap.size, 0, none⟩ 1 1 [.string (s.extract x.1 x.2)] rfl rfl (cell_str_new _ _ _) (str_one _) (by unfold maxLen; omega) (by omega) (by simp; omega) ?_
             intro v' w1 hown' hgrow _
             obtain ⟨g', cap', rfl⟩ := ownsRow_succ hown'
             obtain ⟨hc1, hc2, hf2⟩ := HCL.out _ _ hgrow
             refine hK _ _ ?_
             clear hK K
             refine wpAnyIn_take (i := 7) (v := ?_) rfl rfl (by kernel_rfl) (by kernel_rfl) (by kernel_rfl) (fun _ _ _ h => h) ⟨Or.inl ⟨by rfl, ?_⟩, fun _ => rfl⟩ ?_
             rotate_left
             ·intro w; go_simp
              try with_reducible rfl
             refine wpAnyIn_ready (rs := [8]) (by kernel_rfl) (by simp) ?_
             refine AllReadyIn.cons rfl (fun K hK => ?_) ?_
             ·go_simp
              refine hK _ _ ?_
              clear hK K
              refine wpAnyIn_done (by kernel_rfl) ?_ _
              exact FIN.out _ _ _ _ hown' hgrow _
             exact AllReadyIn.nil
            exact AllReadyIn.nil
           exact AllReadyIn.nil
          refine AllReadyIn.cons rfl (fun K hK => ?_) ?_
          ·go_simp
           refine hK _ _ ?_
           clear hK K
           refine wpAnyIn_ready (rs := [3]) (by kernel_rfl) (by simp) ?_
           refine AllReadyIn.cons rfl (fun K hK => ?_) ?_
           ·go_simp
            refine hK _ _ ?_
            clear hK K
            refine wpAnyIn_ready (rs := [6]) (by kernel_rfl) (by simp) ?_
            refine AllReadyIn.cons rfl (fun K hK => ?_) ?_
            ·refine stepIn_append_own rfl _ _ 31 rfl n₁ 9 i0 (.string .empty) 1 16 Tryz.underlying31 hi hz0 hz1 hz2 rfl (by decide) _ _ _ rfl (hr1.alloc _) ⟨W2.heap.size, 0, none⟩ 1 1 [.string (s.extract x.1 x.2)] rfl rfl (cell_str_new _ _ _) (str_one _) (by unfold maxLen; omega) (by omega) (by simp; omega) ?_
             intro v' w1 hown' hgrow _
             obtain ⟨g', cap', rfl⟩ := ownsRow_succ hown'
             obtain ⟨hc1, hc2, hf2⟩ := HCL.out _ _ hgrow
             refine hK _ _ ?_
             clear hK K
             refine wpAnyIn_take (i := 7) (v := ?_) rfl rfl (by kernel_rfl) (by kernel_rfl) (by kernel_rfl) (fun _ _ _ h => h) ⟨Or.inl ⟨by rfl, ?_⟩, fun _ => rfl⟩ ?_
             rotate_left
             ·intro w; go_simp
              try with_reducible rfl
             refine wpAnyIn_ready (rs := [8]) (by kernel_rfl) (by simp) ?_
             refine AllReadyIn.cons rfl (fun K hK => ?_) ?_
             ·go_simp
              refine hK _ _ ?_
              clear hK K
              refine wpAnyIn_done (by kernel_rfl) ?_ _
              exact FIN.out _ _ _ _ hown' hgrow _
             exact AllReadyIn.nil
            exact AllReadyIn.nil
           exact AllReadyIn.nil
          exact AllReadyIn.nil
         refine AllReadyIn.cons rfl (fun K hK => ?_) ?_
         ·go_simp
          refine hK _ _ ?_
          clear hK K
          refine wpAnyIn_ready (rs := [1]) (by kernel_rfl) (by simp) ?_
          refine AllReadyIn.cons rfl (fun K hK => ?_) ?_
          ·go_simp
           refine hK _ _ ?_
           clear hK K
           refine wpAnyIn_take (i := 2) (v := ?_) rfl rfl (by kernel_rfl) (by kernel_rfl) (by kernel_rfl) (fun _ _ _ h => h) ⟨Or.inl ⟨by rfl, ?_⟩, fun _ => rfl⟩ ?_
           rotate_left
           ·intro w; go_simp
            try with_reducible rfl
           refine wpAnyIn_ready (rs := [3]) (by kernel_rfl) (by simp) ?_
           refine AllReadyIn.cons rfl (fun K hK => ?_) ?_
           ·go_simp
            refine hK _ _ ?_
            clear hK K
            refine wpAnyIn_ready (rs := [6]) (by kernel_rfl) (by simp) ?_
            refine AllReadyIn.cons rfl (fun K hK => ?_) ?_
            ·refine stepIn_append_own rfl _ _ 31 rfl n₁ 9 i0 (.string .empty) 1 16 Tryz.underlying31 hi hz0 hz1 hz2 rfl (by decide) _ _ _ rfl (hr1.alloc _) ⟨W2.heap.size, 0, none⟩ 1 1 [.string (s.extract x.1 x.2)] rfl rfl (cell_str_new _ _ _) (str_one _) (by unfold maxLen; omega) (by omega) (by simp; omega) ?_
             intro v' w1 hown' hgrow _
             obtain ⟨g', cap', rfl⟩ := ownsRow_succ hown'
             obtain ⟨hc1, hc2, hf2⟩ := HCL.out _ _ hgrow
             refine hK _ _ ?_
             clear hK K
             refine wpAnyIn_take (i := 7) (v := ?_) rfl rfl (by kernel_rfl) (by kernel_rfl) (by kernel_rfl) (fun _ _ _ h => h) ⟨Or.inl ⟨by rfl, ?_⟩, fun _ => rfl⟩ ?_
             rotate_left
             ·intro w; go_simp
              try with_reducible rfl
             refine wpAnyIn_ready (rs := [8]) (by kernel_rfl) (by simp) ?_
             refine AllReadyIn.cons rfl (fun K hK => ?_) ?_
             ·go_simp
              refine hK _ _ ?_
              clear hK K
              refine wpAnyIn_done (by kernel_rfl) ?_ _
              exact FIN.out _ _ _ _ hown' hgrow _
             exact AllReadyIn.nil
            exact AllReadyIn.nil
           exact AllReadyIn.nil
          exact AllReadyIn.nil
         exact AllReadyIn.nil
        refine AllReadyIn.cons rfl (fun K hK => ?_) ?_
        ·go_simp
         refine hK _ _ ?_
         clear hK K
         refine wpAnyIn_take (i := 2) (v := ?_) rfl rfl (by kernel_rfl) (by kernel_rfl) (by kernel_rfl) (fun _ _ _ h => h) ⟨Or.inl ⟨by rfl, ?_⟩, fun _ => rfl⟩ ?_
         rotate_left
         ·intro w; go_simp
          try with_reducible rfl
         refine wpAnyIn_ready (rs := [0, 3, 5]) (by kernel_rfl) (by simp) ?_
         refine AllReadyIn.cons rfl (fun K hK => ?_) ?_
         ·go_simp
          refine hK _ _ ?_
          clear hK K
          refine wpAnyIn_ready (rs := [3, 5]) (by kernel_rfl) (by simp) ?_
          refine AllReadyIn.cons rfl (fun K hK => ?_) ?_
          ·go_simp
           refine hK _ _ ?_
           clear hK K
           refine wpAnyIn_ready (rs := [5]) (by kernel_rfl) (by simp) ?_
           refine AllReadyIn.cons rfl (fun K hK => ?_) ?_
           ·go_simp
            refine hK _ _ ?_
            clear hK K
            refine wpAnyIn_ready (rs := [6]) (by kernel_rfl) (by simp) ?_
            refine AllReadyIn.cons rfl (fun K hK => ?_) ?_
            ·refine stepIn_append_own rfl _ _ 31 rfl n₁ 9 i0 (.string .empty) 1 16 Tryz.underlying31 hi hz0 hz1 hz2 rfl (by decide) _ _ _ rfl (hr1.alloc _) ⟨W2.heap.size, 0, none⟩ 1 1 [.string (s.extract x.1 x.2)] rfl rfl (cell_str_new _ _ _) (str_one _) (by unfold maxLen; omega) (by omega) (by simp; omega) ?_
             intro v' w1 hown' hgrow _
             obtain ⟨g', cap', rfl⟩ := ownsRow_succ hown'
             obtain ⟨hc1, hc2, hf2⟩ := HCL.out _ _ hgrow
             refine hK _ _ ?_
             clear hK K
             refine wpAnyIn_take (i := 7) (v := ?_) rfl rfl (by kernel_rfl) (by kernel_rfl) (by kernel_rfl) (fun _ _ _ h => h) ⟨Or.inl ⟨by rfl, ?_⟩, fun _ => rfl⟩ ?_
             rotate_left
             ·intro w; go_simp
              try with_reducible rfl
             refine wpAnyIn_ready (rs := [8]) (by kernel_rfl) (by simp) ?_
             refine AllReadyIn.cons rfl (fun K hK => ?_) ?_
             ·go_simp
              refine hK _ _ ?_
              clear hK K
              refine wpAnyIn_done (by kernel_rfl) ?_ _
              exact FIN.out _ _ _ _ hown' hgrow _
             exact AllReadyIn.nil
            exact AllReadyIn.nil
           exact AllReadyIn.nil
          refine AllReadyIn.cons rfl (fun K hK => ?_) ?_
          ·go_simp
           refine hK _ _ ?_
           clear hK K
           refine wpAnyIn_ready (rs := [3]) (by kernel_rfl) (by simp) ?_
           refine AllReadyIn.cons rfl (fun K hK => ?_) ?_
           ·go_simp
            refine hK _ _ ?_
            clear hK K
            refine wpAnyIn_ready (rs := [6]) (by kernel_rfl) (by simp) ?_
            refine AllReadyIn.cons rfl (fun K hK => ?_) ?_
            ·refine stepIn_append_own rfl _ _ 31 rfl n₁ 9 i0 (.string .empty) 1 16 Tryz.underlying31 hi hz0 hz1 hz2 rfl (by decide) _ _ _ rfl (hr1.alloc _) ⟨W2.heap.size, 0, none⟩ 1 1 [.string (s.extract x.1 x.2)] rfl rfl (cell_str_new _ _ _) (str_one _) (by unfold maxLen; omega) (by omega) (by simp; omega) ?_
             intro v' w1 hown' hgrow _
             obtain ⟨g', cap', rfl⟩ := ownsRow_succ hown'
             obtain ⟨hc1, hc2, hf2⟩ := HCL.out _ _ hgrow
             refine hK _ _ ?_
             clear hK K
             refine wpAnyIn_take (i := 7) (v := ?_) rfl rfl (by kernel_rfl) (by kernel_rfl) (by kernel_rfl) (fun _ _ _ h => h) ⟨Or.inl ⟨by rfl, ?_⟩, fun _ => rfl⟩ ?_
             rotate_left
             ·intro w; go_simp
              try with_reducible rfl
             refine wpAnyIn_ready (rs := [8]) (by kernel_rfl) (by simp) ?_
             refine AllReadyIn.cons rfl (fun K hK => ?_) ?_
             ·go_simp
              refine hK _ _ ?_
              clear hK K
              refine wpAnyIn_done (by kernel_rfl) ?_ _
              exact FIN.out _ _ _ _ hown' hgrow _
             exact AllReadyIn.nil
            exact AllReadyIn.nil
           exact AllReadyIn.nil
          exact AllReadyIn.nil
         refine AllReadyIn.cons rfl (fun K hK => ?_) ?_
         ·go_simp
          refine hK _ _ ?_
          clear hK K
          refine wpAnyIn_ready (rs := [0, 5]) (by kernel_rfl) (by simp) ?_
          refine AllReadyIn.cons rfl (fun K hK => ?_) ?_
          ·go_simp
           refine hK _ _ ?_
           clear hK K
           refine wpAnyIn_ready (rs := [5]) (by kernel_rfl) (by simp) ?_
           refine AllReadyIn.cons rfl (fun K hK => ?_) ?_
           ·go_simp
            refine hK _ _ ?_
            clear hK K
            refine wpAnyIn_ready (rs := [6]) (by kernel_rfl) (by simp) ?_
            refine AllReadyIn.cons rfl (fun K hK => ?_) ?_
            ·refine stepIn_append_own rfl _ _ 31 rfl n₁ 9 i0 (.string .empty) 1 16 Tryz.underlying31 hi hz0 hz1 hz2 rfl (by decide) _ _ _ rfl (hr1.alloc _) ⟨W2.heap.size, 0, none⟩ 1 1 [.string (s.extract x.1 x.2)] rfl rfl (cell_str_new _ _ _) (str_one _) (by unfold maxLen; omega) (by omega) (by simp; omega) ?_
             intro v' w1 hown' hgrow _
             obtain ⟨g', cap', rfl⟩ := ownsRow_succ hown'
             obtain ⟨hc1, hc2, hf2⟩ := HCL.out _ _ hgrow
             refine hK _ _ ?_
             clear hK K
             refine wpAnyIn_take (i := 7) (v := ?_) rfl rfl (by kernel_rfl) (by kernel_rfl) (by kernel_rfl) (fun _ _ _ h => h) ⟨Or.inl ⟨by rfl, ?_⟩, fun _ => rfl⟩ ?_
             rotate_left
             ·intro w; go_simp
              try with_reducible rfl
             refine wpAnyIn_ready (rs := [8]) (by kernel_rfl) (by simp) ?_
             refine AllReadyIn.cons rfl (fun K hK => ?_) ?_
             ·go_simp
              refine hK _ _ ?_
              clear hK K
              refine wpAnyIn_done (by kernel_rfl) ?_ _
              exact FIN.out _ _ _ _ hown' hgrow _
             exact AllReadyIn.nil
            exact AllReadyIn.nil
           exact AllReadyIn.nil
          refine AllReadyIn.cons rfl (fun K hK => ?_) ?_
          ·go_simp
           refine hK _ _ ?_
           clear hK K
           refine wpAnyIn_ready (rs := [0, 6]) (by kernel_rfl) (by simp) ?_
           refine AllReadyIn.cons rfl (fun K hK => ?_) ?_
           ·go_simp
            refine hK _ _ ?_
            clear hK K
            refine wpAnyIn_ready (rs := [6]) (by kernel_rfl) (by simp) ?_
            refine AllReadyIn.cons rfl (fun K hK => ?_) ?_
            ·refine stepIn_append_own rfl _ _ 31 rfl n₁ 9 i0 (.string .empty) 1 16 Tryz.underlying31 hi hz0 hz1 hz2 rfl (by decide) _ _ _ rfl (hr1.alloc _) ⟨W2.heap.size, 0, none⟩ 1 1 [.string (s.extract x.1 x.2)] rfl rfl (cell_str_new _ _ _) (str_one _) (by unfold maxLen; omega) (by omega) (by simp; omega) ?_
             intro v' w1 hown' hgrow _
             obtain ⟨g', cap', rfl⟩ := ownsRow_succ hown'
             obtain ⟨hc1, hc2, hf2⟩ := HCL.out _ _ hgrow
             refine hK _ _ ?_
             clear hK K
             refine wpAnyIn_take (i := 7) (v := ?_) rfl rfl (by kernel_rfl) (by kernel_rfl) (by kernel_rfl) (fun _ _ _ h => h) ⟨Or.inl ⟨by rfl, ?_⟩, fun _ => rfl⟩ ?_
             rotate_left
             ·intro w; go_simp
              try with_reducible rfl
             refine wpAnyIn_ready (rs := [8]) (by kernel_rfl) (by simp) ?_
             refine AllReadyIn.cons rfl (fun K hK => ?_) ?_
             ·go_simp
              refine hK _ _ ?_
              clear hK K
              refine wpAnyIn_done (by kernel_rfl) ?_ _
              exact FIN.out _ _ _ _ hown' hgrow _
             exact AllReadyIn.nil
            exact AllReadyIn.nil
           refine AllReadyIn.cons rfl (fun K hK => ?_) ?_
           ·refine stepIn_append_own rfl _ _ 31 rfl n₁ 9 i0 (.string .empty) 1 16 Tryz.underlying31 hi hz0 hz1 hz2 rfl (by decide) _ _ _ rfl (hr1.alloc _) ⟨W2.heap.size, 0, none⟩ 1 1 [.string (s.extract x.1 x.2)] rfl rfl (cell_str_new _ _ _) (str_one _) (by unfold maxLen; omega) (by omega) (by simp; omega) ?_
            intro v' w1 hown' hgrow _
            obtain ⟨g', cap', rfl⟩ := ownsRow_succ hown'
            obtain ⟨hc1, hc2, hf2⟩ := HCL.out _ _ hgrow
            refine hK _ _ ?_
            clear hK K
            refine wpAnyIn_ready (rs := [0]) (by kernel_rfl) (by simp) ?_
            refine AllReadyIn.cons rfl (fun K hK => ?_) ?_
            ·go_simp
             refine hK _ _ ?_
             clear hK K
             refine wpAnyIn_take (i := 7) (v := ?_) rfl rfl (by kernel_rfl) (by kernel_rfl) (by kernel_rfl) (fun _ _ _ h => h) ⟨Or.inl ⟨by rfl, ?_⟩, fun _ => rfl⟩ ?_
             rotate_left
             ·intro w; go_simp
              try with_reducible rfl
             refine wpAnyIn_ready (rs := [8]) (by kernel_rfl) (by simp) ?_
             refine AllReadyIn.cons rfl (fun K hK => ?_) ?_
             ·go_simp
              refine hK _ _ ?_
              clear hK K
              refine wpAnyIn_done (by kernel_rfl) ?_ _
              exact FIN.out _ _ _ _ hown' hgrow _
             exact AllReadyIn.nil
            exact AllReadyIn.nil
           exact AllReadyIn.nil
          exact AllReadyIn.nil
         refine AllReadyIn.cons rfl (fun K hK => ?_) ?_
         ·go_simp
          refine hK _ _ ?_
          clear hK K
          refine wpAnyIn_ready (rs := [0, 3]) (by kernel_rfl) (by simp) ?_
          refine AllReadyIn.cons rfl (fun K hK => ?_) ?_
          ·go_simp
           refine hK _ _ ?_
           clear hK K
           refine wpAnyIn_ready (rs := [3]) (by kernel_rfl) (by simp) ?_
           refine AllReadyIn.cons rfl (fun K hK => ?_) ?_
           ·go_simp
            refine hK _ _ ?_
            clear hK K
            refine wpAnyIn_ready (rs := [6]) (by kernel_rfl) (by simp) ?_
            refine AllReadyIn.cons rfl (fun K hK => ?_) ?_
            ·refine stepIn_append_own rfl _ _ 31 rfl n₁ 9 i0 (.string .empty) 1 16 Tryz.underlying31 hi hz0 hz1 hz2 rfl (by decide) _ _ _ rfl (hr1.alloc _) ⟨W2.heap.size, 0, none⟩ 1 1 [.string (s.extract x.1 x.2)] rfl rfl (cell_str_new _ _ _) (str_one _) (by unfold maxLen; omega) (by omega) (by simp; omega) ?_
             intro v' w1 hown' hgrow _
             obtain ⟨g', cap', rfl⟩ := ownsRow_succ hown'
             obtain ⟨hc1, hc2, hf2⟩ := HCL.out _ _ hgrow
             refine hK _ _ ?_
             clear hK K
             refine wpAnyIn_take (i := 7) (v := ?_) rfl rfl (by kernel_rfl) (by kernel_rfl) (by kernel_rfl) (fun _ _ _ h => h) ⟨Or.inl ⟨by rfl, ?_⟩, fun _ => rfl⟩ ?_
             rotate_left
             ·intro w; go_simp
              try with_reducible rfl
             refine wpAnyIn_ready (rs := [8]) (by kernel_rfl) (by simp) ?_
             refine AllReadyIn.cons rfl (fun K hK => ?_) ?_
             ·go_simp
              refine hK _ _ ?_
              clear hK K
              refine wpAnyIn_done (by kernel_rfl) ?_ _
              exact FIN.out _ _ _ _ hown' hgrow _
             exact AllReadyIn.nil
            exact AllReadyIn.nil
           exact AllReadyIn.nil
          refine AllReadyIn.cons rfl (fun K hK => ?_) ?_
          ·go_simp
           refine hK _ _ ?_
           clear hK K
           refine wpAnyIn_ready (rs := [0, 6]) (by kernel_rfl) (by simp) ?_
           refine AllReadyIn.cons rfl (fun K hK => ?_) ?_
           ·go_simp
            refine hK _ _ ?_
            clear hK K
            refine wpAnyIn_ready (rs := [6]) (by kernel_rfl) (by simp) ?_
            refine AllReadyIn.cons rfl (fun K hK => ?_) ?_
            ·refine stepIn_append_own rfl _ _ 31 rfl n₁ 9 i0 (.string .empty) 1 16 Tryz.underlying31 hi hz0 hz1 hz2 rfl (by decide) _ _ _ rfl (hr1.alloc _) ⟨W2.heap.size, 0, none⟩ 1 1 [.string (s.extract x.1 x.2)] rfl rfl (cell_str_new _ _ _) (str_one _) (by unfold maxLen; omega) (by omega) (by simp; omega) ?_
             intro v' w1 hown' hgrow _
             obtain ⟨g', cap', rfl⟩ := ownsRow_succ hown'
             obtain ⟨hc1, hc2, hf2⟩ := HCL.out _ _ hgrow
             refine hK _ _ ?_
             clear hK K
             refine wpAnyIn_take (i := 7) (v := ?_) rfl rfl (by kernel_rfl) (by kernel_rfl) (by kernel_rfl) (fun _ _ _ h => h) ⟨Or.inl ⟨by rfl, ?_⟩, fun _ => rfl⟩ ?_
             rotate_left
             ·intro w; go_simp
              try with_reducible rfl
             refine wpAnyIn_ready (rs := [8]) (by kernel_rfl) (by simp) ?_
             refine AllReadyIn.cons rfl (fun K hK => ?_) ?_
             ·go_simp
              refine hK _ _ ?_
              clear hK K
              refine wpAnyIn_done (by kernel_rfl) ?_ _
              exact FIN.out _ _ _ _ hown' hgrow _
             exact AllReadyIn.nil
            exact AllReadyIn.nil
           refine AllReadyIn.cons rfl (fun K hK => ?_) ?_
           ·refine stepIn_append_own rfl _ _ 31 rfl n₁ 9 i0 (.string .empty) 1 16 Tryz.underlying31 hi hz0 hz1 hz2 rfl (by decide) _ _ _ rfl (hr1.alloc _) ⟨W2.heap.size, 0, none⟩ 1 1 [.string (s.extract x.1 x.2)] rfl rfl (cell_str_new _ _ _) (str_one _) (by unfold maxLen; omega) (by omega) (by simp; omega) ?_
            intro v' w1 hown' hgrow _
            obtain ⟨g', cap', rfl⟩ := ownsRow_succ hown'
            obtain ⟨hc1, hc2, hf2⟩ := HCL.out _ _ hgrow
            refine hK _ _ ?_
            clear hK K
            refine wpAnyIn_ready (rs := [0]) (by kernel_rfl) (by simp) ?_
            refine AllReadyIn.cons rfl (fun K hK => ?_) ?_
            ·go_simp
             refine hK _ _ ?_
             clear hK K
             refine wpAnyIn_take (i := 7) (v := ?_) rfl rfl (by kernel_rfl) (by kernel_rfl) (by kernel_rfl) (fun _ _ _ h => h) ⟨Or.inl ⟨by rfl, ?_⟩, fun _ => rfl⟩ ?_
             rotate_left
             ·intro w; go_simp
              try with_reducible rfl
             refine wpAnyIn_ready (rs := [8]) (by kernel_rfl) (by simp) ?_
             refine AllReadyIn.cons rfl (fun K hK => ?_) ?_
             ·go_simp
              refine hK _ _ ?_
              clear hK K
              refine wpAnyIn_done (by kernel_rfl) ?_ _
              exact FIN.out _ _ _ _ hown' hgrow _
             exact AllReadyIn.nil
            exact AllReadyIn.nil
           exact AllReadyIn.nil
          exact AllReadyIn.nil
         exact AllReadyIn.nil
        refine AllReadyIn.cons rfl (fun K hK => ?_) ?_
        ·go_simp
         refine hK _ _ ?_
         clear hK K
         refine wpAnyIn_ready (rs := [0, 1]) (by kernel_rfl) (by simp) ?_
         refine AllReadyIn.cons rfl (fun K hK => ?_) ?_
         ·go_simp
          refine hK _ _ ?_
          clear hK K
          refine wpAnyIn_ready (rs := [1]) (by kernel_rfl) (by simp) ?_
          refine AllReadyIn.cons rfl (fun K hK => ?_) ?_
          ·go_simp
           refine hK _ _ ?_
           clear hK K
           refine wpAnyIn_take (i := 2) (v := ?_) rfl rfl (by kernel_rfl) (by kernel_rfl) (by kernel_rfl) (fun _ _ _ h => h) ⟨Or.inl ⟨by rfl, ?_⟩, fun _ => rfl⟩ ?_
           rotate_left
           ·intro w; go_simp
            try with_reducible rfl
           refine wpAnyIn_ready (rs := [3]) (by kernel_rfl) (by simp) ?_
           refine AllReadyIn.cons rfl (fun K hK => ?_) ?_
           ·go_simp
            refine hK _ _ ?_
            clear hK K
            refine wpAnyIn_ready (rs := [6]) (by kernel_rfl) (by simp) ?_
            refine AllReadyIn.cons rfl (fun K hK => ?_) ?_
            ·refine stepIn_append_own rfl _ _ 31 rfl n₁ 9 i0 (.string .empty) 1 16 Tryz.underlying31 hi hz0 hz1 hz2 rfl (by decide) _ _ _ rfl (hr1.alloc _) ⟨W2.heap.size, 0, none⟩ 1 1 [.string (s.extract x.1 x.2)] rfl rfl (cell_str_new _ _ _) (str_one _) (by unfold maxLen; omega) (by omega) (by simp; omega) ?_
             intro v' w1 hown' hgrow _
             obtain ⟨g', cap', rfl⟩ := ownsRow_succ hown'
             obtain ⟨hc1, hc2, hf2⟩ := HCL.out _ _ hgrow
             refine hK _ _ ?_
             clear hK K
             refine wpAnyIn_take (i := 7) (v := ?_) rfl rfl (by kernel_rfl) (by kernel_rfl) (by kernel_rfl) (fun _ _ _ h => h) ⟨Or.inl ⟨by rfl, ?_⟩, fun _ => rfl⟩ ?_
             rotate_left
             ·intro w; go_simp
              try with_reducible rfl
             refine wpAnyIn_ready (rs := [8]) (by kernel_rfl) (by simp) ?_
             refine AllReadyIn.cons rfl (fun K hK => ?_) ?_
             ·go_simp
              refine hK _ _ ?_
              clear hK K
              refine wpAnyIn_done (by kernel_rfl) ?_ _
              exact FIN.out _ _ _ _ hown' hgrow _
             exact AllReadyIn.nil
            exact AllReadyIn.nil
           exact AllReadyIn.nil
          exact AllReadyIn.nil
         refine AllReadyIn.cons rfl (fun K hK => ?_) ?_
         ·go_simp
          refine hK _ _ ?_
          clear hK K
          refine wpAnyIn_take (i := 2) (v := ?_) rfl rfl (by kernel_rfl) (by kernel_rfl) (by kernel_rfl) (fun _ _ _ h => h) ⟨Or.inl ⟨by rfl, ?_⟩, fun _ => rfl⟩ ?_
          rotate_left
          ·intro w; go_simp
           try with_reducible rfl
          refine wpAnyIn_ready (rs := [0, 3]) (by kernel_rfl) (by simp) ?_
          refine AllReadyIn.cons rfl (fun K hK => ?_) ?_
          ·go_simp
           refine hK _ _ ?_
           clear hK K
           refine wpAnyIn_ready (rs := [3]) (by kernel_rfl) (by simp) ?_
           refine AllReadyIn.cons rfl (fun K hK => ?_) ?_
           ·go_simp
            refine hK _ _ ?_
            clear hK K
            refine wpAnyIn_ready (rs := [6]) (by kernel_rfl) (by simp) ?_
            refine AllReadyIn.cons rfl (fun K hK => ?_) ?_
            ·refine stepIn_append_own rfl _ _ 31 rfl n₁ 9 i0 (.string .empty) 1 16 Tryz.underlying31 hi hz0 hz1 hz2 rfl (by decide) _ _ _ rfl (hr1.alloc _) ⟨W2.heap.size, 0, none⟩ 1 1 [.string (s.extract x.1 x.2)] rfl rfl (cell_str_new _ _ _) (str_one _) (by unfold maxLen; omega) (by omega) (by simp; omega) ?_
             intro v' w1 hown' hgrow _
             obtain ⟨g', cap', rfl⟩ := ownsRow_succ hown'
             obtain ⟨hc1, hc2, hf2⟩ := HCL.out _ _ hgrow
             refine hK _ _ ?_
             clear hK K
             refine wpAnyIn_take (i := 7) (v := ?_) rfl rfl (by kernel_rfl) (by kernel_rfl) (by kernel_rfl) (fun _ _ _ h => h) ⟨Or.inl ⟨by rfl, ?_⟩, fun _ => rfl⟩ ?_
             rotate_left
             ·intro w; go_simp
              try with_reducible rfl
             refine wpAnyIn_ready (rs := [8]) (by kernel_rfl) (by simp) ?_
             refine AllReadyIn.cons rfl (fun K hK => ?_) ?_
             ·go_simp
              refine hK _ _ ?_
              clear hK K
              refine wpAnyIn_done (by kernel_rfl) ?_ _
              exact FIN.out _ _ _ _ hown' hgrow _
             exact AllReadyIn.nil
            exact AllReadyIn.nil
           exact AllReadyIn.nil
          refine AllReadyIn.cons rfl (fun K hK => ?_) ?_
          ·go_simp
           refine hK _ _ ?_
           clear hK K
           refine wpAnyIn_ready (rs := [0, 6]) (by kernel_rfl) (by simp) ?_
           refine AllReadyIn.cons rfl (fun K hK => ?_) ?_
           ·go_simp
            refine hK _ _ ?_
            clear hK K
            refine wpAnyIn_ready (rs := [6]) (by kernel_rfl) (by simp) ?_
            refine AllReadyIn.cons rfl (fun K hK => ?_) ?_
            ·refine stepIn_append_own rfl _ _ 31 rfl n₁ 9 i0 (.string .empty) 1 16 Tryz.underlying31 hi hz0 hz1 hz2 rfl (by decide) _ _ _ rfl (hr1.alloc _) ⟨W2.heap.size, 0, none⟩ 1 1 [.string (s.extract x.1 x.2)] rfl rfl (cell_str_new _ _ _) (str_one _) (by unfold maxLen; omega) (by omega) (by simp; omega) ?_
             intro v' w1 hown' hgrow _
             obtain ⟨g', cap', rfl⟩ := ownsRow_succ hown'
             obtain ⟨hc1, hc2, hf2⟩ := HCL.out _ _ hgrow
             refine hK _ _ ?_
             clear hK K
             refine wpAnyIn_take (i := 7) (v := ?_) rfl rfl (by kernel_rfl) (by kernel_rfl) (by kernel_rfl) (fun _ _ _ h => h) ⟨Or.inl ⟨by rfl, ?_⟩, fun _ => rfl⟩ ?_
             rotate_left
             ·intro w; go_simp
              try with_reducible rfl
             refine wpAnyIn_ready (rs := [8]) (by kernel_rfl) (by simp) ?_
             refine AllReadyIn.cons rfl (fun K hK => ?_) ?_
             ·go_simp
              refine hK _ _ ?_
              clear hK K
              refine wpAnyIn_done (by kernel_rfl) ?_ _
              exact FIN.out _ _ _ _ hown' hgrow _
             exact AllReadyIn.nil
            exact AllReadyIn.nil
           refine AllReadyIn.cons rfl (fun K hK => ?_) ?_
           ·refine stepIn_append_own rfl _ _ 31 rfl n₁ 9 i0 (.string .empty) 1 16 Tryz.underlying31 hi hz0 hz1 hz2 rfl (by decide) _ _ _ rfl (hr1.alloc _) ⟨W2.heap.size, 0, none⟩ 1 1 [.string (s.extract x.1 x.2)] rfl rfl (cell_str_new _ _ _) (str_one _) (by unfold maxLen; omega) (by omega) (by simp; omega) ?_
            intro v' w1 hown' hgrow _
            obtain ⟨g', cap', rfl⟩ := ownsRow_succ hown'
            obtain ⟨hc1, hc2, hf2⟩ := HCL.out _ _ hgrow
            refine hK _ _ ?_
            clear hK K
            refine wpAnyIn_ready (rs := [0]) (by kernel_rfl) (by simp) ?_
            refine AllReadyIn.cons rfl (fun K hK => ?_) ?_
            ·go_simp
             refine hK _ _ ?_
             clear hK K
             refine wpAnyIn_take (i := 7) (v := ?_) rfl rfl (by kernel_rfl) (by kernel_rfl) (by kernel_rfl) (fun _ _ _ h => h) ⟨Or.inl ⟨by rfl, ?_⟩, fun _ => rfl⟩ ?_
             rotate_left
             ·intro w; go_simp
              try with_reducible rfl
             refine wpAnyIn_ready (rs := [8]) (by kernel_rfl) (by simp) ?_
             refine AllReadyIn.cons rfl (fun K hK => ?_) ?_
             ·go_simp
              refine hK _ _ ?_
              clear hK K
              refine wpAnyIn_done (by kernel_rfl) ?_ _
              exact FIN.out _ _ _ _ hown' hgrow _
             exact AllReadyIn.nil
            exact AllReadyIn.nil
           exact AllReadyIn.nil
          exact AllReadyIn.nil
         exact AllReadyIn.nil
        exact AllReadyIn.nil
       ·generalize hkk : wrongL false s.data.toList (seg s.data.toList x.1 x.2) x.2 = kk at *
        have WC := hide WC0
        clear WC0
        have hkb : (kk != 0) = true := by simpa using hk0
        gi_wp2_with (refine ⟨trivial, ?_⟩; gi_at_call 74; refine (callsIn_wide.2 (WC.out _)).mono ?_; rintro e w' ⟨rfl, hw'⟩; rw [hw']; clear hw' w')
        obtain ⟨W1, hW1, hL1, hr1, hB1, hk1, h21, hs1⟩ := mid_world (s := s) (cs := fun v => #[.string (s.extract 0 a), .string (s.extract b c), .string (s.extract d e), (.slice (some ⟨g1, 0, none⟩) PP.length cap1), v]) (v := .slice ao pre.length cap) (x.2 : Int) kk (Wb.heap.size + 1 + 1 + 1) (Wb.heap.size + 1 + 1) (by omega) (by omega) hps1 (by omega) (by omega) hLi hrow hB
        rw [← hW1]
        exact ⟨hk1.from _, rfl, pre, x, rfl, hbad, by rw [hkk]; exact hk0, _, by rw [hkk]; exact hL1, hr1, hB1⟩
      case done_p2 =>
       rintro D2 ys Wc hD rfl ⟨⟨v, hL2, hrow, hB2⟩, hbad⟩ hK
       clear cS cA cE v0 v1 v2 v3 v4 zA zE eV eA eE eS eR eF ls0 ls1 ls2 lr0 lr1 lr2 lf0 lf1 lf2 lv0 lv1 lv2 la0 la1 la2 le0 le1 le2 hL hBW hLs hBf hbA hbS hps hpsV hps1
       simp only [World.size_alloc] at hD
       have hids := idsR_ok false s.data.toList (p + 1) hbad
       have hq := lastE_ends s.data.toList (p + 1) (by rw [len_data]; omega)
       rw [len_data] at hq
       have HT2 : Hid (parseR s.data.toList = putT a b c d e (if lastE (p + 1) (segs s.data.toList (p + 1)) < s.data.toList.length then .error (10, lastE (p + 1) (segs s.data.toList (p + 1))) else .ok (PP, segs s.data.toList (p + 1)))) := by
        show _ = _
        rw [HT.out, build_ok H43.out hids]
       rw [segs_lastE] at hL2
       have hne := segs_ne s.data.toList (p + 1)
       clear hids hbad HT H43
       generalize lastE (p + 1) (segs s.data.toList (p + 1)) = q at *
       generalize segs s.data.toList (p + 1) = Q at *
       obtain ⟨g2, cap2, rfl⟩ := row_some hrow (by cases Q with | nil => exact absurd rfl hne | cons _ _ => simp)
       obtain ⟨cur2, hg2, hgb2, HO2'⟩ := row_block hrow
       have HO2 := hide HO2'
       clear HO2' hne
       have hL : Lies Wc _ := Lies.cons hL2.head (Lies.cons hL2.tail.head (Lies.cons hL2.tail.tail.head (Lies.cons hL2.tail.tail.tail.tail.tail.tail.tail.head (Lies.cons hL2.tail.tail.tail.tail.tail.tail.tail.tail.head (Lies.cons hL2.tail.tail.tail.tail.tail.tail.tail.tail.tail.head (Lies.cons hL2.tail.tail.tail.tail.tail.tail.tail.tail.tail.tail.head (Lies.cons hL2.tail.tail.tail.tail.tail.tail.tail.tail.tail.tail.tail.head (Lies.cons hgb2 (Lies.cons hK (Lies.nil _))))))))))
       have hBW := hB2
       clear hL2 hB2 hrow hK
       have hVs : V + 3 ≤ Wc.heap.size := by have := hL.lt _ (List.mem_cons_of_mem _ (List.mem_cons_of_mem _ List.mem_cons_self)); simp only at this; omega
       have eV := hL.head
       have eA := hL.tail.head
       have eE := hL.tail.tail.head
       have eS := hL.tail.tail.tail.head
       have eR := hL.tail.tail.tail.tail.head
       have eF := hL.tail.tail.tail.tail.tail.head
       have x_g := hL.tail.tail.tail.tail.tail.tail.head
       have x_D := hL.tail.tail.tail.tail.tail.tail.tail.head
       have y_g := hL.tail.tail.tail.tail.tail.tail.tail.tail.head
       have y_D := hL.tail.tail.tail.tail.tail.tail.tail.tail.tail.head
       have cS := one_cell eS
       have cA := one_cell eA
       have cE := one_cell eE
       have v0 := cell_at 0 eV rfl
       have v1 := cell_at 1 eV rfl
       have v2 := cell_at 2 eV rfl
       have v3 := cell_at 3 eV rfl
       have v4 := cell_at 4 eV rfl
       have zA := one_free 0 eA
       have zE := one_free 0 eE
       by_cases hend : q = s.size
       ·have HP : Hid (parseR s.data.toList = .ok ⟨a, b, c, d, e, PP, Q⟩) := by
         show _ = _
         rw [HT2.out, if_neg (by rw [len_data]; omega)]; rfl
        have hlt : ¬ ((q : Int) < (s.size : Int)) := by omega
        clear hend
        have r0 := cell_at 0 eR rfl
        have r1 := cell_at 1 eR rfl
        have r2 := cell_at 2 eR rfl
        have r3 := cell_at 3 eR rfl
        have r4 := cell_at 4 eR rfl
        have f0 := cell_at 0 eF rfl
        have f1 := cell_at 1 eF rfl
        have z0 := one_free 0 eR
        have z1 := one_free 1 eR
        have z2 := one_free 2 eR
        have z3 := one_free 3 eR
        have z4 := one_free 4 eR
        have y0 := one_free 0 eF
        have y1 := one_free 1 eF
        go_wp2_with fail
        rw [rounds_succ]
        go_wp2_with fail
        try rw [Exit.noGoto_ret]
        obtain ⟨W9, hW9, gr, gf, hk, hbl⟩ := end_world (W := Wc) (B1 := w.heap.size + 1) (B2 := w.heap.size + 1 + 1) (by omega) (.string (s.extract 0 a)) (.string (s.extract b c)) (.string (s.extract d e)) (.slice (some ⟨g1, 0, none⟩) PP.length cap1) (.slice (some ⟨g2, 0, none⟩) Q.length cap2) (.int .i64 0) (.int .i64 0) eR eF
        rw [← hW9]
        refine fin9 _ [D2, D1] W9 w.heap.size (w.heap.size + 1) (w.heap.size + 1 + 1) _ _ _ _ _ _ _ ⟨_, _, _, rfl⟩ ⟨_, _, _, rfl⟩ rfl rfl gr gf (by simp; omega) (by intro D hD; simp only [List.mem_cons, List.not_mem_nil, or_false] at hD; rcases hD with rfl | rfl <;> exact ⟨by omega, (hk _ (by omega) (by omega)).trans (by assumption)⟩) ?_
        exact fun W' h => ppost_ok (c := ⟨a, b, c, d, e, PP, Q⟩) HP.out (hBW.trans (hbl _ (by omega) (by omega))) h (HO1.out _ _ ((hk g1 (by omega) (by omega)).trans x_g) (by omega)) (HO2.out _ _ ((hk g2 (by omega) (by omega)).trans y_g) (by omega))
       ·have hlt : q < s.size := by omega
        clear hend
        have hb1 : ((s[q].toNat : Int) == 45) = false := ne_byte (k := 45) (by omega) (not_dash s q hlt hq.2)
        have hWs := hBW.size
        have ls0 : w.heap.size < Wc.heap.size := by omega
        have ls1 : w.heap.size < Wc.heap.size + 1 := by omega
        have ls2 : w.heap.size < Wc.heap.size + 1 + 1 := by omega
        have lr0 : w.heap.size + 1 < Wc.heap.size := by omega
        have lr1 : w.heap.size + 1 < Wc.heap.size + 1 := by omega
        have lr2 : w.heap.size + 1 < Wc.heap.size + 1 + 1 := by omega
        have lf0 : w.heap.size + 1 + 1 < Wc.heap.size := by omega
        have lf1 : w.heap.size + 1 + 1 < Wc.heap.size + 1 := by omega
        have lf2 : w.heap.size + 1 + 1 < Wc.heap.size + 1 + 1 := by omega
        have lv0 : V < Wc.heap.size := by omega
        have lv1 : V < Wc.heap.size + 1 := by omega
        have lv2 : V < Wc.heap.size + 1 + 1 := by omega
        have la0 : V + 1 < Wc.heap.size := by omega
        have la1 : V + 1 < Wc.heap.size + 1 := by omega
        have la2 : V + 1 < Wc.heap.size + 1 + 1 := by omega
        have le0 : V + 1 + 1 < Wc.heap.size := by omega
        have le1 : V + 1 + 1 < Wc.heap.size + 1 := by omega
        have le2 : V + 1 + 1 < Wc.heap.size + 1 + 1 := by omega
        by_cases h43 : s[q] = 43
        ·have hb2 : ((s[q].toNat : Int) != 43) = false := by rw [h43]; rfl
         clear h43
         go_wp2_with fail
         have HP : Hid (parseR s.data.toList = .error ((10 : Int), q)) := by
          show _ = _
          rw [HT2.out, if_pos (by rw [len_data]; exact hlt)]; rfl
         rw [rounds_succ]
         go_wp2_with fail
         obtain ⟨W8, hW8, hL8, hB8⟩ := form_world (w := w) (o1 := .cells #[.bool false] 4) (o2 := .cells #[.pointer (some ⟨V, 4, none⟩)] 104) (by omega) (by omega) (by
          intro q hq
          simp only [List.mem_cons, List.not_mem_nil, or_false] at hq
          rcases hq with rfl | rfl | rfl | rfl | rfl | rfl | rfl <;> simp only <;> omega) hL hBW
         rw [← hW8]
         clear hW8 cS cA cE v0 v1 v2 v3 v4 zA zE eV eA eE eS eR eF ls0 ls1 ls2 lr0 lr1 lr2 lf0 lf1 lf2 lv0 lv1 lv2 la0 la1 la2 le0 le1 le2
         have eA := hL8.tail.head
         have eE := hL8.tail.tail.head
         have eR := hL8.tail.tail.tail.tail.head
         have eF := hL8.tail.tail.tail.tail.tail.head
         have cA := one_cell eA
         have cE := one_cell eE
         have xd0 := hL8.tail.tail.tail.tail.tail.tail.tail.head
         have xd1 := hL8.tail.tail.tail.tail.tail.tail.tail.tail.tail.head
         have r0 := cell_at 0 eR rfl
         have r1 := cell_at 1 eR rfl
         have r2 := cell_at 2 eR rfl
         have r3 := cell_at 3 eR rfl
         have r4 := cell_at 4 eR rfl
         have f0 := cell_at 0 eF rfl
         have f1 := cell_at 1 eF rfl
         have z0 := one_free 0 eR
         have z1 := one_free 1 eR
         have z2 := one_free 2 eR
         have z3 := one_free 3 eR
         have z4 := one_free 4 eR
         have y0 := one_free 0 eF
         have y1 := one_free 1 eF
         replace hBW := hB8
         clear eA eE hL8 hB8
         go_region
         go_wp2_with fail
         try rw [Exit.noGoto_ret]
         obtain ⟨W9, hW9, gr, gf, hk, hbl⟩ := end_world (W := W8) (B1 := w.heap.size + 1) (B2 := w.heap.size + 1 + 1) (by omega) (.string ⟨#[]⟩) (.string ⟨#[]⟩) (.string ⟨#[]⟩) (.slice none 0 0) (.slice none 0 0) (.int .i64 (((10 : Int), q)).1) (.int .i64 ((((10 : Int), q)).2 : Int)) eR eF
         rw [← hW9]
         refine fin9 _ [D2, D1] W9.drew w.heap.size (w.heap.size + 1) (w.heap.size + 1 + 1) _ _ _ _ _ _ _ ⟨_, _, _, rfl⟩ ⟨_, _, _, rfl⟩ rfl rfl gr gf (by simp; omega) (by intro D hD; simp only [List.mem_cons, List.not_mem_nil, or_false] at hD; rcases hD with rfl | rfl <;> exact ⟨by omega, (hk _ (by omega) (by omega)).trans (by assumption)⟩) ?_
         exact fun W' h => ppost_err HP.out ((hBW.trans (hbl _ (by omega) (by omega))).drew) h
        ·have hb2 : ((s[q].toNat : Int) != 43) = true := by have := ne_byte (k := 43) (by omega) h43; simpa [bne] using this
         clear h43
         go_wp2_with fail
         have HP : Hid (parseR s.data.toList = .error ((10 : Int), q)) := by
          show _ = _
          rw [HT2.out, if_pos (by rw [len_data]; exact hlt)]; rfl
         rw [rounds_succ]
         go_wp2_with fail
         obtain ⟨W8, hW8, hL8, hB8⟩ := form_world (w := w) (o1 := .cells #[.bool false] 4) (o2 := .cells #[.pointer (some ⟨V, 4, none⟩)] 104) (by omega) (by omega) (by
          intro q hq
          simp only [List.mem_cons, List.not_mem_nil, or_false] at hq
          rcases hq with rfl | rfl | rfl | rfl | rfl | rfl | rfl <;> simp only <;> omega) hL hBW
         rw [← hW8]
         clear hW8 cS cA cE v0 v1 v2 v3 v4 zA zE eV eA eE eS eR eF ls0 ls1 ls2 lr0 lr1 lr2 lf0 lf1 lf2 lv0 lv1 lv2 la0 la1 la2 le0 le1 le2
         have eA := hL8.tail.head
         have eE := hL8.tail.tail.head
         have eR := hL8.tail.tail.tail.tail.head
         have eF := hL8.tail.tail.tail.tail.tail.head
         have cA := one_cell eA
         have cE := one_cell eE
         have xd0 := hL8.tail.tail.tail.tail.tail.tail.tail.head
         have xd1 := hL8.tail.tail.tail.tail.tail.tail.tail.tail.tail.head
         have r0 := cell_at 0 eR rfl
         have r1 := cell_at 1 eR rfl
         have r2 := cell_at 2 eR rfl
         have r3 := cell_at 3 eR rfl
         have r4 := cell_at 4 eR rfl
         have f0 := cell_at 0 eF rfl
         have f1 := cell_at 1 eF rfl
         have z0 := one_free 0 eR
         have z1 := one_free 1 eR
         have z2 := one_free 2 eR
         have z3 := one_free 3 eR
         have z4 := one_free 4 eR
         have y0 := one_free 0 eF
         have y1 := one_free 1 eF
         replace hBW := hB8
         clear eA eE hL8 hB8
         go_region
         go_wp2_with fail
         try rw [Exit.noGoto_ret]
         obtain ⟨W9, hW9, gr, gf, hk, hbl⟩ := end_world (W := W8) (B1 := w.heap.size + 1) (B2 := w.heap.size + 1 + 1) (by omega) (.string ⟨#[]⟩) (.string ⟨#[]⟩) (.string ⟨#[]⟩) (.slice none 0 0) (.slice none 0 0) (.int .i64 (((10 : Int), q)).1) (.int .i64 ((((10 : Int), q)).2 : Int)) eR eF
         rw [← hW9]
         refine fin9 _ [D2, D1] W9.drew w.heap.size (w.heap.size + 1) (w.heap.size + 1 + 1) _ _ _ _ _ _ _ ⟨_, _, _, rfl⟩ ⟨_, _, _, rfl⟩ rfl rfl gr gf (by simp; omega) (by intro D hD; simp only [List.mem_cons, List.not_mem_nil, or_false] at hD; rcases hD with rfl | rfl <;> exact ⟨by omega, (hk _ (by omega) (by omega)).trans (by assumption)⟩) ?_
         exact fun W' h => ppost_err HP.out ((hBW.trans (hbl _ (by omega) (by omega))).drew) h
      case stop_p2 =>
       rintro D9 c ys W7 hD hpre ⟨rfl, pre, x, rfl, hbad, hx, v, hL7, hrow, hB7⟩ hK
       clear cS cA cE v0 v1 v2 v3 v4 zA zE eV eA eE eS eR eF ls0 ls1 ls2 lr0 lr1 lr2 lf0 lf1 lf2 lv0 lv1 lv2 la0 la1 la2 le0 le1 le2 hL hBW hLs hBf hbA hbS hps hpsV hps1
       simp only [World.size_alloc] at hD
       have HP : Hid (parseR s.data.toList = .error (wrongL false s.data.toList (seg s.data.toList x.1 x.2) x.2, x.2)) := by
        show _ = _
        rw [HT.out, build_bad H43.out (idsR_bad false _ _ pre x hbad hx hpre)]; rfl
       generalize wrongL false s.data.toList (seg s.data.toList x.1 x.2) x.2 = kk at *
       have hkb : (kk != 0) = true := by simpa using hx
       have hkc : (kk == 0) = false := by simpa using hx
       have eA := hL7.tail.head
       have eE := hL7.tail.tail.head
       have eR := hL7.tail.tail.tail.tail.tail.tail.tail.tail.head
       have eF := hL7.tail.tail.tail.tail.tail.tail.tail.tail.tail.head
       have cA := one_cell eA
       have cE := one_cell eE
       have xd0 := hL7.tail.tail.tail.tail.tail.tail.tail.tail.tail.tail.tail.head
       have r0 := cell_at 0 eR rfl
       have r1 := cell_at 1 eR rfl
       have r2 := cell_at 2 eR rfl
       have r3 := cell_at 3 eR rfl
       have r4 := cell_at 4 eR rfl
       have f0 := cell_at 0 eF rfl
       have f1 := cell_at 1 eF rfl
       have z0 := one_free 0 eR
       have z1 := one_free 1 eR
       have z2 := one_free 2 eR
       have z3 := one_free 3 eR
       have z4 := one_free 4 eR
       have y0 := one_free 0 eF
       have y1 := one_free 1 eF
       have hBW := hB7
       clear eA eE hL7 hB7 hrow hbad hx hpre
       refine wpIn_wide.2 ?_
       go_wp2_with fail
       go_region
       go_wp2_with fail
       try rw [Exit.noGoto_ret]
       obtain ⟨W9, hW9, gr, gf, hk, hbl⟩ := end_world (W := W7) (B1 := w.heap.size + 1) (B2 := w.heap.size + 1 + 1) (by omega) (.string ⟨#[]⟩) (.string ⟨#[]⟩) (.string ⟨#[]⟩) (.slice none 0 0) (.slice none 0 0) (.int .i64 ((kk, x.2)).1) (.int .i64 (((kk, x.2)).2 : Int)) eR eF
       rw [← hW9]
       refine fin9 _ [D9, D1] W9.drew w.heap.size (w.heap.size + 1) (w.heap.size + 1 + 1) _ _ _ _ _ _ _ ⟨_, _, _, rfl⟩ ⟨_, _, _, rfl⟩ rfl rfl gr gf (by simp; omega) (by intro D hD; simp only [List.mem_cons, List.not_mem_nil, or_false] at hD; rcases hD with rfl | rfl <;> exact ⟨by omega, (hk _ (by omega) (by omega)).trans (by assumption)⟩) ?_
       exact fun W' h => ppost_err HP.out ((hBW.trans (hbl _ (by omega) (by omega))).drew) h
     ·have hb2 : ((s[p].toNat : Int) != 43) = true := by have := ne_byte (k := 43) (by omega) h43; simpa [bne] using this
      have h43n : ¬ s.data.toList[p]? = some 43 := by rw [at_some s p hlt]; simpa using h43
      clear h43
      have HP : Hid (parseR s.data.toList = .error ((10 : Int), p)) := by
       show _ = _
       rw [HT.out, build_none h43n, if_pos (by rw [len_data]; exact hlt)]; rfl
      rw [rounds_succ]
      go_wp2_with fail
      obtain ⟨W8, hW8, hL8, hB8⟩ := form_world (w := w) (o1 := .cells #[.bool false] 4) (o2 := .cells #[.pointer (some ⟨V, 4, none⟩)] 104) (by omega) (by omega) (by
       intro q hq
       simp only [List.mem_cons, List.not_mem_nil, or_false] at hq
       rcases hq with rfl | rfl | rfl | rfl | rfl <;> simp only <;> omega) hL hBW
      rw [← hW8]
      clear hW8 cS cA cE v0 v1 v2 v3 v4 zA zE eV eA eE eS eR eF ls0 ls1 ls2 lr0 lr1 lr2 lf0 lf1 lf2 lv0 lv1 lv2 la0 la1 la2 le0 le1 le2
      have eA := hL8.tail.head
      have eE := hL8.tail.tail.head
      have eR := hL8.tail.tail.tail.tail.head
      have eF := hL8.tail.tail.tail.tail.tail.head
      have cA := one_cell eA
      have cE := one_cell eE
      have xd0 := hL8.tail.tail.tail.tail.tail.tail.tail.head
      have r0 := cell_at 0 eR rfl
      have r1 := cell_at 1 eR rfl
      have r2 := cell_at 2 eR rfl
      have r3 := cell_at 3 eR rfl
      have r4 := cell_at 4 eR rfl
      have f0 := cell_at 0 eF rfl
      have f1 := cell_at 1 eF rfl
      have z0 := one_free 0 eR
      have z1 := one_free 1 eR
      have z2 := one_free 2 eR
      have z3 := one_free 3 eR
      have z4 := one_free 4 eR
      have y0 := one_free 0 eF
      have y1 := one_free 1 eF
      replace hBW := hB8
      clear eA eE hL8 hB8
      go_region
      go_wp2_with fail
      try rw [Exit.noGoto_ret]
      obtain ⟨W9, hW9, gr, gf, hk, hbl⟩ := end_world (W := W8) (B1 := w.heap.size + 1) (B2 := w.heap.size + 1 + 1) (by omega) (.string ⟨#[]⟩) (.string ⟨#[]⟩) (.string ⟨#[]⟩) (.slice none 0 0) (.slice none 0 0) (.int .i64 (((10 : Int), p)).1) (.int .i64 ((((10 : Int), p)).2 : Int)) eR eF
      rw [← hW9]
      refine fin9 _ [D1] W9.drew w.heap.size (w.heap.size + 1) (w.heap.size + 1 + 1) _ _ _ _ _ _ _ ⟨_, _, _, rfl⟩ ⟨_, _, _, rfl⟩ rfl rfl gr gf (by simp) (by intro D hD; simp only [List.mem_cons, List.not_mem_nil, or_false] at hD; rcases hD with rfl <;> exact ⟨by omega, (hk _ (by omega) (by omega)).trans (by assumption)⟩) ?_
      exact fun W' h => ppost_err HP.out ((hBW.trans (hbl _ (by omega) (by omega))).drew) h
   case stop_p1 =>
    rintro D9 c ys W7 hD hpre ⟨rfl, pre, x, rfl, hbad, hx, v, hL7, hrow, hB7⟩ hK
    clear cS cA cE v0 v1 v2 v3 v4 zA zE eV eA eE eS eR eF ls0 ls1 ls2 lr0 lr1 lr2 lf0 lf1 lf2 lv0 lv1 lv2 la0 la1 la2 le0 le1 le2 hL hBW hLs hBf hbA hbS hps hpsV hps1
    simp only [World.size_alloc] at hD
    have HP : Hid (parseR s.data.toList = .error (wrongL true s.data.toList (seg s.data.toList x.1 x.2) x.2, x.2)) := by
     show _ = _
     rw [HT.out, tail_bad H45.out (idsR_bad true _ _ pre x hbad hx hpre)]; rfl
    generalize wrongL true s.data.toList (seg s.data.toList x.1 x.2) x.2 = kk at *
    have hkb : (kk != 0) = true := by simpa using hx
    have hkc : (kk == 0) = false := by simpa using hx
    have eA := hL7.tail.head
    have eE := hL7.tail.tail.head
    have eR := hL7.tail.tail.tail.tail.tail.tail.tail.tail.head
    have eF := hL7.tail.tail.tail.tail.tail.tail.tail.tail.tail.head
    have cA := one_cell eA
    have cE := one_cell eE
    have r0 := cell_at 0 eR rfl
    have r1 := cell_at 1 eR rfl
    have r2 := cell_at 2 eR rfl
    have r3 := cell_at 3 eR rfl
    have r4 := cell_at 4 eR rfl
    have f0 := cell_at 0 eF rfl
    have f1 := cell_at 1 eF rfl
    have z0 := one_free 0 eR
    have z1 := one_free 1 eR
    have z2 := one_free 2 eR
    have z3 := one_free 3 eR
    have z4 := one_free 4 eR
    have y0 := one_free 0 eF
    have y1 := one_free 1 eF
    have hBW := hB7
    clear eA eE hL7 hB7 hrow hbad hx hpre
    refine wpIn_wide.2 ?_
    go_wp2_with fail
    go_region
    go_wp2_with fail
    try rw [Exit.noGoto_ret]
    obtain ⟨W9, hW9, gr, gf, hk, hbl⟩ := end_world (W := W7) (B1 := w.heap.size + 1) (B2 := w.heap.size + 1 + 1) (by omega) (.string ⟨#[]⟩) (.string ⟨#[]⟩) (.string ⟨#[]⟩) (.slice none 0 0) (.slice none 0 0) (.int .i64 ((kk, x.2)).1) (.int .i64 (((kk, x.2)).2 : Int)) eR eF
    rw [← hW9]
    refine fin9 _ [D9] W9.drew w.heap.size (w.heap.size + 1) (w.heap.size + 1 + 1) _ _ _ _ _ _ _ ⟨_, _, _, rfl⟩ ⟨_, _, _, rfl⟩ rfl rfl gr gf (by simp) (by intro D hD; simp only [List.mem_cons, List.not_mem_nil, or_false] at hD; rcases hD with rfl <;> exact ⟨by omega, (hk _ (by omega) (by omega)).trans (by assumption)⟩) ?_
    exact fun W' h => ppost_err HP.out ((hBW.trans (hbl _ (by omega) (by omega))).drew) h
  ·have HT := hide (hT.trans (by rw [tail_none h45]))
   have hdash : ∀ h : e < s.size, s[e] ≠ 45 := fun h x => h45 (by rw [at_some s e h, x])
   have hVs : V + 3 ≤ W.heap.size := by omega
   clear h45 hT cS cA cE v0 v1 v2 v3 v4 zA zE eV eA eE eS eR eF
   have eV := hL.head
   have eA := hL.tail.head
   have eE := hL.tail.tail.head
   have eS := hL.tail.tail.tail.head
   have eR := hL.tail.tail.tail.tail.head
   have eF := hL.tail.tail.tail.tail.tail.head
   have cS := one_cell eS
   have cA := one_cell eA
   have cE := one_cell eE
   have v0 := cell_at 0 eV rfl
   have v1 := cell_at 1 eV rfl
   have v2 := cell_at 2 eV rfl
   have v3 := cell_at 3 eV rfl
   have v4 := cell_at 4 eV rfl
   have zA := one_free 0 eA
   have zE := one_free 0 eE
   by_cases hend : e = s.size
   ·have HP : Hid (parseR s.data.toList = .ok ⟨a, b, c, d, e, [], []⟩) := by
     show _ = _
     rw [HT.out, build_none (by rw [at_none s e (by omega)]; simp), if_neg (by rw [len_data]; omega)]; rfl
    have hlt : ¬ ((e : Int) < (s.size : Int)) := by omega
    clear hend
    have r0 := cell_at 0 eR rfl
    have r1 := cell_at 1 eR rfl
    have r2 := cell_at 2 eR rfl
    have r3 := cell_at 3 eR rfl
    have r4 := cell_at 4 eR rfl
    have f0 := cell_at 0 eF rfl
    have f1 := cell_at 1 eF rfl
    have z0 := one_free 0 eR
    have z1 := one_free 1 eR
    have z2 := one_free 2 eR
    have z3 := one_free 3 eR
    have z4 := one_free 4 eR
    have y0 := one_free 0 eF
    have y1 := one_free 1 eF
    rw [rounds_succ]
    go_wp2_with fail
    try rw [Exit.noGoto_ret]
    obtain ⟨W9, hW9, gr, gf, hk, hbl⟩ := end_world (W := W) (B1 := w.heap.size + 1) (B2 := w.heap.size + 1 + 1) (by omega) (.string (s.extract 0 a)) (.string (s.extract b c)) (.string (s.extract d e)) (.slice none 0 0) (.slice none 0 0) (.int .i64 0) (.int .i64 0) eR eF
    rw [← hW9]
    refine fin9 _ [] W9 w.heap.size (w.heap.size + 1) (w.heap.size + 1 + 1) _ _ _ _ _ _ _ ⟨_, _, _, rfl⟩ ⟨_, _, _, rfl⟩ rfl rfl gr gf (by simp) (by simp) ?_
    exact fun W' h => ppost_ok (c := ⟨a, b, c, d, e, [], []⟩) HP.out (hBW.trans (hbl _ (by omega) (by omega))) h (World.ownsRow_nil _ _ _ _) (World.ownsRow_nil _ _ _ _)
   ·have hlt : e < s.size := by omega
    clear hend
    have hb1 : ((s[e].toNat : Int) == 45) = false := ne_byte (k := 45) (by omega) (hdash hlt)
    have hWs := hBW.size
    have ls0 : w.heap.size < W.heap.size := by omega
    have ls1 : w.heap.size < W.heap.size + 1 := by omega
    have ls2 : w.heap.size < W.heap.size + 1 + 1 := by omega
    have lr0 : w.heap.size + 1 < W.heap.size := by omega
    have lr1 : w.heap.size + 1 < W.heap.size + 1 := by omega
    have lr2 : w.heap.size + 1 < W.heap.size + 1 + 1 := by omega
    have lf0 : w.heap.size + 1 + 1 < W.heap.size := by omega
    have lf1 : w.heap.size + 1 + 1 < W.heap.size + 1 := by omega
    have lf2 : w.heap.size + 1 + 1 < W.heap.size + 1 + 1 := by omega
    have lv0 : V < W.heap.size := by omega
    have lv1 : V < W.heap.size + 1 := by omega
    have lv2 : V < W.heap.size + 1 + 1 := by omega
    have la0 : V + 1 < W.heap.size := by omega
    have la1 : V + 1 < W.heap.size + 1 := by omega
    have la2 : V + 1 < W.heap.size + 1 + 1 := by omega
    have le0 : V + 1 + 1 < W.heap.size := by omega
    have le1 : V + 1 + 1 < W.heap.size + 1 := by omega
    have le2 : V + 1 + 1 < W.heap.size + 1 + 1 := by omega
    by_cases h43 : s[e] = 43
    ·have hb2 : ((s[e].toNat : Int) != 43) = false := by rw [h43]; rfl
     have H43 := hide (show s.data.toList[e]? = some 43 by rw [at_some s e hlt, h43])
     clear h43 hdash
     rw [rounds_succ]
     go_wp2_with fail
     refine (identifiers_any s _ _).mono ?_
     rintro e' w2 ⟨rfl, hw2⟩
     rw [hw2]
     clear hw2 w2
     go_wp2_with fail
     have hLf := lies_four W (.cells #[.bool false] 4) (.cells #[.pointer (some ⟨V, 4, none⟩)] 104) (.cells #[.string s] 9) (.cells #[.int .i64 ((e : Int) + 1)] 3) _ hL
     have hBf := below_four w W (.cells #[.bool false] 4) (.cells #[.pointer (some ⟨V, 4, none⟩)] 104) (.cells #[.string s] 9) (.cells #[.int .i64 ((e : Int) + 1)] 3) hBW
     have hLs := Lies.cons hLf.tail.tail.tail.tail.head (Lies.cons hLf.tail.tail.tail.tail.tail.head (Lies.cons hLf.tail.tail.tail.tail.tail.tail.head (Lies.cons hLf.head (Lies.cons hLf.tail.head (Lies.cons hLf.tail.tail.head (Lies.cons hLf.tail.tail.tail.head hLf.tail.tail.tail.tail.tail.tail.tail))))))
     have hbA : Boxed _ (W.heap.size + 1 + 1 + 1) 3 (.int .i64 ((e + 1 : Nat) : Int)) := hLf.tail.tail.tail.head
     have hbS : Boxed _ (W.heap.size + 1 + 1) 9 (.string s) := hLf.tail.tail.head
     have hps : ∀ q ∈ (((W.heap.size, .cells #[.bool false] 4) :: (W.heap.size + 1, .cells #[.pointer (some ⟨V, 4, none⟩)] 104) :: (W.heap.size + 1 + 1, .cells #[.string s] 9) :: (W.heap.size + 1 + 1 + 1, .cells #[.int .i64 ((e : Int) + 1)] 3) :: (w.heap.size, .cells #[.string s] 9) :: (w.heap.size + 1, .cells #[.string ⟨#[]⟩, .string ⟨#[]⟩, .string ⟨#[]⟩, .slice none 0 0, .slice none 0 0] 33) :: (w.heap.size + 1 + 1, .cells #[.int .i64 0, .int .i64 0] 25) :: []) : List (Nat × Obj)), q.1 < (W.heap.size + 1 + 1 + 1 + 1) := fun q hq => by
      have := hLs.lt q (List.mem_cons_of_mem _ (List.mem_cons_of_mem _ (List.mem_cons_of_mem _ hq)))
      simpa only [World.size_alloc] using this
     have hwX := hBW.size
     have hpsV : ∀ q ∈ (((W.heap.size, .cells #[.bool false] 4) :: (W.heap.size + 1, .cells #[.pointer (some ⟨V, 4, none⟩)] 104) :: (W.heap.size + 1 + 1, .cells #[.string s] 9) :: (W.heap.size + 1 + 1 + 1, .cells #[.int .i64 ((e : Int) + 1)] 3) :: (w.heap.size, .cells #[.string s] 9) :: (w.heap.size + 1, .cells #[.string ⟨#[]⟩, .string ⟨#[]⟩, .string ⟨#[]⟩, .slice none 0 0, .slice none 0 0] 33) :: (w.heap.size + 1 + 1, .cells #[.int .i64 0, .int .i64 0] 25) :: []) : List (Nat × Obj)), q.1 ≠ V := by
      intro q hq
      simp only [List.mem_cons, List.not_mem_nil, or_false] at hq
      rcases hq with rfl | rfl | rfl | rfl | rfl | rfl | rfl <;> simp only <;> omega
     have hps1 : ∀ q ∈ (((W.heap.size, .cells #[.bool false] 4) :: (W.heap.size + 1, .cells #[.pointer (some ⟨V, 4, none⟩)] 104) :: (W.heap.size + 1 + 1, .cells #[.string s] 9) :: (W.heap.size + 1 + 1 + 1, .cells #[.int .i64 ((e : Int) + 1)] 3) :: (w.heap.size, .cells #[.string s] 9) :: (w.heap.size + 1, .cells #[.string ⟨#[]⟩, .string ⟨#[]⟩, .string ⟨#[]⟩, .slice none 0 0, .slice none 0 0] 33) :: (w.heap.size + 1 + 1, .cells #[.int .i64 0, .int .i64 0] 25) :: []) : List (Nat × Obj)), q.1 ≠ V + 1 ∧ q.1 ≠ V + 1 + 1 := by
      intro q hq
      simp only [List.mem_cons, List.not_mem_nil, or_false] at hq
      rcases hq with rfl | rfl | rfl | rfl | rfl | rfl | rfl <;> simp only <;> omega
     clear hLf
     generalize hn0 : (W.heap.size + 1 + 1 + 1 + 1) = n₀ at *
     refine (wpIn_wide (n := 5)).1 ?_
     refine wpIn_rangeFunc_ownG rfl (by omega) (gf := 108) (lb := #[.pointer (some ⟨W.heap.size + 1 + 1 + 1, 0, none⟩), .pointer (some ⟨W.heap.size + 1 + 1, 0, none⟩)]) rfl trivial (enters_of Tryz.func108 (by kernel_rfl) rfl)
      (ids_stops 4 (by omega) (W.heap.size + 1 + 1 + 1) (W.heap.size + 1 + 1) s (e + 1) (by omega) (by omega) _ hbA hbS) Two.trans (two_b (by simp only [World.size_alloc]; omega) (by simp only [World.size_alloc]; omega)) (Below.refl _ _) (fun _ => rfl)
      (PI s w n₀ V ((W.heap.size, .cells #[.bool false] 4) :: (W.heap.size + 1, .cells #[.pointer (some ⟨V, 4, none⟩)] 104) :: (W.heap.size + 1 + 1, .cells #[.string s] 9) :: (W.heap.size + 1 + 1 + 1, .cells #[.int .i64 ((e : Int) + 1)] 3) :: (w.heap.size, .cells #[.string s] 9) :: (w.heap.size + 1, .cells #[.string ⟨#[]⟩, .string ⟨#[]⟩, .string ⟨#[]⟩, .slice none 0 0, .slice none 0 0] 33) :: (w.heap.size + 1 + 1, .cells #[.int .i64 0, .int .i64 0] 25) :: []) (fun v => #[.string (s.extract 0 a), .string (s.extract b c), .string (s.extract d e), (.slice none 0 0), v]) false e)
      (PX s w n₀ V ((W.heap.size, .cells #[.bool false] 4) :: (W.heap.size + 1, .cells #[.pointer (some ⟨V, 4, none⟩)] 104) :: (W.heap.size + 1 + 1, .cells #[.string s] 9) :: (W.heap.size + 1 + 1 + 1, .cells #[.int .i64 ((e : Int) + 1)] 3) :: (w.heap.size, .cells #[.string s] 9) :: (w.heap.size + 1, .cells #[.string ⟨#[]⟩, .string ⟨#[]⟩, .string ⟨#[]⟩, .slice none 0 0, .slice none 0 0] 33) :: (w.heap.size + 1 + 1, .cells #[.int .i64 0, .int .i64 0] 25) :: []) (fun v => #[.string (s.extract 0 a), .string (s.extract b c), .string (s.extract d e), (.slice none 0 0), v]) false 0)
      (fun pre A B row h hg hr => ⟨PS_own s w _ V _ _ _ _ pre _ (by simp only [World.size_alloc]; omega) (fun q hq => by have := hps q hq; simp only [World.size_alloc]; omega) (by simp only [World.size_alloc]; omega) A B row h.1 hg hr, h.2⟩)
      (fun c ys A B row h hg hr => by
       obtain ⟨hc, pre, x, e1, e2, e3, h4⟩ := h
       exact ⟨hc, pre, x, e1, e2, e3, PS_own s w _ V _ _ _ _ pre _ (by simp only [World.size_alloc]; omega) (fun q hq => by have := hps q hq; simp only [World.size_alloc]; omega) (by simp only [World.size_alloc]; omega) A B row h4 hg hr⟩)
      ⟨⟨_, hLs, World.ownsRow_nil _ _ _ _, hBf⟩, rfl⟩ ?a1_p3 ?assign_p3 ?body_p3 ?done_p3 ?stop_p3
     case assign_p3 =>
      intro l x W K hK
      gi_wp2
      exact hK
     case body_p3 =>
      rintro lx pre x Wi ⟨⟨v, hLi, hrow, hB⟩, hbad⟩ hlen
      obtain ⟨ao, cap, rfl⟩ := row_slice hrow
      have eV := hLi.head
      have eA := hLi.tail.head
      have eE := hLi.tail.tail.head
      have eI := hLi.tail.tail.tail.head
      have eL := hLi.tail.tail.tail.tail.head
      have eS := hLi.tail.tail.tail.tail.tail.tail.tail.head
      clear cS cA cE v0 v1 v2 v3 v4 zA zE
      have cS := one_cell eS
      have cI := one_cell eI
      have cL := one_cell eL
      have cA := one_cell eA
      have cE := one_cell eE
      have zA := one_free 0 eA
      have zE := one_free 0 eE
      have WC0 : ∀ w : World, Calls Tryz.prog 74 #[.string s, .string (s.extract x.1 x.2), .int .i64 (x.2 : Int), .bool false] w fun r w' => r = .returned (.int .i64 (wrongL false s.data.toList (seg s.data.toList x.1 x.2) x.2)) ∧ w' = w := fun w => by
       have := wrong_any s (s.extract x.1 x.2) x.2 false w (by unfold maxLen; omega) (by rw [extract_seg, ofL_size]; unfold maxLen; simp [seg]; omega)
       rw [extract_data] at this
       exact this
      have hrowl : pre.length ≤ 70 := by have := segs_len s.data.toList _ (e + 1) rfl; rw [len_data] at this; omega
      by_cases hk0 : wrongL false s.data.toList (seg s.data.toList x.1 x.2) x.2 = 0
      ·rw [hk0] at WC0
       have WC := hide WC0
       clear WC0
       gi_wp2_with (refine ⟨trivial, ?_⟩; gi_at_call 74; refine (callsIn_wide.2 (WC.out _)).mono ?_; rintro e w' ⟨rfl, hw'⟩; rw [hw']; clear hw' w')
       obtain ⟨W1, hW1, hL1, hr1, hB1, hk1, h21, hs1⟩ := mid_world (s := s) (cs := fun v => #[.string (s.extract 0 a), .string (s.extract b c), .string (s.extract d e), (.slice none 0 0), v]) (v := .slice ao pre.length cap) (x.2 : Int) 0 (W.heap.size + 1 + 1 + 1) (W.heap.size + 1 + 1) (by omega) (by omega) hps1 (by omega) (by omega) hLi hrow hB
       have hn1 : n₀ ≤ W1.drew.heap.size := by show n₀ ≤ W1.heap.size; rw [hs1]; have := hLi.lt _ (List.mem_cons_of_mem _ (List.mem_cons_of_mem _ (List.mem_cons_of_mem _ (List.mem_cons_of_mem _ (List.mem_cons_of_mem _ (List.mem_cons_of_mem _ List.mem_cons_self)))))); simp only at this; omega
       rw [← hW1]
       refine wpIn_region_any (by kernel_rfl) ?_
       refine wpAnyIn_round (F := Fence.wide) rfl ?hd_p3 _ _ _ _ ?_
       case hd_p3 => exact noDefer_of (by kernel_rfl)
       change wpAnyIn _ _ _ _ _ _ _ _ _ (World.drew _)
       clear hW1
       replace hL1 : Lies W1.drew _ := hL1
       replace hr1 := hr1.drew
       replace hB1 := hB1.drew
       replace hk1 := hk1.trans (KeepsOthers.drew W1)
       replace h21 : Two (W.heap.size + 1 + 1 + 1) (W.heap.size + 1 + 1) Wi W1.drew := h21
       clear hs1
       generalize W1.drew = W2 at *
       have cL2 := one_cell hL1.tail.tail.tail.tail.head
       have cV2 := cell_at 4 hL1.head rfl
       have cLa : ∀ o : Obj, (W2.alloc o).cell? ⟨W.heap.size + 1, 0, none⟩ = some (.pointer (some ⟨V, 4, none⟩)) := fun o => one_cell (hL1.alloc o).tail.tail.tail.tail.head
       have cVa : ∀ o : Obj, (W2.alloc o).cell? ⟨V, 4, none⟩ = some (.slice ao pre.length cap) := fun o => cell_at 4 (hL1.alloc o).head rfl
       have hq3 : ∀ q ∈ ((V, Obj.cells ((fun v => #[.string (s.extract 0 a), .string (s.extract b c), .string (s.extract d e), (.slice none 0 0), v]) (.slice ao pre.length cap)) 33 (0, 0)) :: (V + 1, .cells #[.int .i64 (x.2 : Int)] 3 (0, 0)) :: (V + 1 + 1, .cells #[.int .i64 0] 23 (0, 0)) :: ((W.heap.size, .cells #[.bool false] 4) :: (W.heap.size + 1, .cells #[.pointer (some ⟨V, 4, none⟩)] 104) :: (W.heap.size + 1 + 1, .cells #[.string s] 9) :: (W.heap.size + 1 + 1 + 1, .cells #[.int .i64 ((e : Int) + 1)] 3) :: (w.heap.size, .cells #[.string s] 9) :: (w.heap.size + 1, .cells #[.string ⟨#[]⟩, .string ⟨#[]⟩, .string ⟨#[]⟩, .slice none 0 0, .slice none 0 0] 33) :: (w.heap.size + 1 + 1, .cells #[.int .i64 0, .int .i64 0] 25) :: [])), q.1 < n₀ := by
        intro q hq
        rcases List.mem_cons.1 hq with rfl | hq
        ·show V < n₀; omega
        rcases List.mem_cons.1 hq with rfl | hq
        ·show V + 1 < n₀; omega
        rcases List.mem_cons.1 hq with rfl | hq
        ·show V + 1 + 1 < n₀; omega
        exact hps q hq
       have HCL : Hid (∀ (tmp : Obj) (w1 : World), (W2.alloc tmp).grownBy w1 (Value.slice ao pre.length cap).ownBlock → w1.cell? ⟨W.heap.size + 1, 0, none⟩ = some (.pointer (some ⟨V, 4, none⟩)) ∧ w1.cell? ⟨V, 4, none⟩ = some (.slice ao pre.length cap) ∧ w1.frozen? ⟨V, 4, none⟩ = false) := fun tmp w1 hg => by
        have h := lies_grown hL1 hq3 hr1 hg
        exact ⟨one_cell h.tail.tail.tail.tail.head, cell_at 4 h.head rfl, one_free 4 h.head⟩
       have FIN := hide (fun (g' cap' : Nat) (tmp : Obj) (w1 : World) hown' hgrow (B : Nat) => fin_step (g' := g') (cap' := cap') (tmp := tmp) (w1 := w1) (z := e) (off := 4) (cs := fun v => #[.string (s.extract 0 a), .string (s.extract b c), .string (s.extract d e), (.slice none 0 0), v]) (by omega) (fun q hq => ⟨hps q hq, hpsV q hq⟩) (by omega) (by omega) (by omega) (fun u => rfl) hn1 hL1 hr1 hB1 hk1 h21 hbad hk0 hown' hgrow B)
       clear cS cI cL cA cE zA zE eV eA eE eI eL eS hLi hrow hB
       refine wpAnyIn_take (i := 4) (v := ?_) rfl rfl (by kernel_rfl) (by kernel_rfl) (by kernel_rfl) (fun _ _ _ h => h) ⟨Or.inl ⟨by rfl, ?_⟩, fun _ => rfl⟩ ?_
       rotate_left
       ·intro w; go_simp
        try with_reducible rfl
       refine wpAnyIn_ready (rs := [0, 1, 5]) (by kernel_rfl) (by simp) ?_
       refine AllReadyIn.cons rfl (fun K hK => ?_) ?_
       ·go_simp
        refine hK _ _ ?_
        clear hK K
        refine wpAnyIn_ready (rs := [1, 5]) (by kernel_rfl) (by simp) ?_
        refine AllReadyIn.cons rfl (fun K hK => ?_) ?_
        ·go_simp
         refine hK _ _ ?_
         clear hK K
         refine wpAnyIn_take (i := 2) (v := ?_) rfl rfl (by kernel_rfl) (by kernel_rfl) (by kernel_rfl) (fun _ _ _ h => h) ⟨Or.inl ⟨by rfl, ?_⟩, fun _ => rfl⟩ ?_
         rotate_left
         ·intro w; go_simp
          try with_reducible rfl
         refine wpAnyIn_ready (rs := [3, 5]) (by kernel_rfl) (by simp) ?_
         refine AllReadyIn.cons rfl (fun K hK => ?_) ?_
         ·go_simp
          refine hK _ _ ?_
          clear hK K
          refine wpAnyIn_ready (rs := [5]) (by kernel_rfl) (by simp) ?_
          refine AllReadyIn.cons rfl (fun K hK => ?_) ?_
          ·go_simp
           refine hK _ _ ?_
           clear hK K
           refine wpAnyIn_ready (rs := [6]) (by kernel_rfl) (by simp) ?_
           refine AllReadyIn.cons rfl (fun K hK => ?_) ?_
           ·refine stepIn_append_own rfl _ _ 31 rfl n₀ 9 i0 (.string .empty) 1 16 Tryz.underlying31 hi hz0 hz1 hz2 rfl (by decide) _ _ _ rfl (hr1.alloc _) ⟨W2.heap.size, 0, none⟩ 1 1 [.string (s.extract x.1 x.2)] rfl rfl (cell_str_new _ _ _) (str_one _) (by unfold maxLen; omega) (by omega) (by simp; omega) ?_
            intro v' w1 hown' hgrow _
            obtain ⟨g', cap', rfl⟩ := ownsRow_succ hown'
            obtain ⟨hc1, hc2, hf2⟩ := HCL.out _ _ hgrow
            refine hK _ _ ?_
            clear hK K
            refine wpAnyIn_take (i := 7) (v := ?_) rfl rfl (by kernel_rfl) (by kernel_rfl) (by kernel_rfl) (fun _ _ _ h => h) ⟨Or.inl ⟨by rfl, ?_⟩, fun _ => rfl⟩ ?_
            rotate_left
            ·intro w; go_simp
             try with_reducible rfl
            refine wpAnyIn_ready (rs := [8]) (by kernel_rfl) (by simp) ?_
            refine AllReadyIn.cons rfl (fun K hK => ?_) ?_
            ·go_simp
             refine hK _ _ ?_
             clear hK K
             refine wpAnyIn_done (by kernel_rfl) ?_ _
             exact FIN.out _ _ _ _ hown' hgrow _
            exact AllReadyIn.nil
           exact AllReadyIn.nil
          exact AllReadyIn.nil
         refine AllReadyIn.cons rfl (fun K hK => ?_) ?_
         ·go_simp
          refine hK _ _ ?_
          clear hK K
          refine wpAnyIn_ready (rs := [3]) (by kernel_rfl) (by simp) ?_
          refine AllReadyIn.cons rfl (fun K hK => ?_) ?_
          ·go_simp
           refine hK _ _ ?_
           clear hK K
           refine wpAnyIn_ready (rs := [6]) (by kernel_rfl) (by simp) ?_
           refine AllReadyIn.cons rfl (fun K hK => ?_) ?_
           ·refine stepIn_append_own rfl _ _ 31 rfl n₀ 9 i0 (.string .empty) 1 16 Tryz.underlying31 hi hz0 hz1 hz2 rfl (by decide) _ _ _ rfl (hr1.alloc _) ⟨W2.heap.size, 0, none⟩ 1 1 [.string (s.extract x.1 x.2)] rfl rfl (cell_str_new _ _ _) (str_one _) (by unfold maxLen; omega) (by omega) (by simp; omega) ?_
            intro v' w1 hown' hgrow _
            obtain ⟨g', cap', rfl⟩ := ownsRow_succ hown'
            obtain ⟨hc1, hc2, hf2⟩ := HCL.out _ _ hgrow
            refine hK _ _ ?_
            clear hK K
            refine wpAnyIn_take (i := 7) (v := ?_) rfl rfl (by kernel_rfl) (by kernel_rfl) (by kernel_rfl) (fun _ _ _ h => h) ⟨Or.inl ⟨by rfl, ?_⟩, fun _ => rfl⟩ ?_
            rotate_left
            ·intro w; go_simp
             try with_reducible rfl
            refine wpAnyIn_ready (rs := [8]) (by kernel_rfl) (by simp) ?_
            refine AllReadyIn.cons rfl (fun K hK => ?_) ?_
            ·go_simp
             refine hK _ _ ?_
             clear hK K
             refine wpAnyIn_done (by kernel_rfl) ?_ _
             exact FIN.out _ _ _ _ hown' hgrow _
            exact AllReadyIn.nil
           exact AllReadyIn.nil
          exact AllReadyIn.nil
         exact AllReadyIn.nil
        refine AllReadyIn.cons rfl (fun K hK => ?_) ?_
        ·go_simp
         refine hK _ _ ?_
         clear hK K
         refine wpAnyIn_ready (rs := [1]) (by kernel_rfl) (by simp) ?_
         refine AllReadyIn.cons rfl (fun K hK => ?_) ?_
         ·go_simp
          refine hK _ _ ?_
          clear hK K
          refine wpAnyIn_take (i := 2) (v := ?_) rfl rfl (by kernel_rfl) (by kernel_rfl) (by kernel_rfl) (fun _ _ _ h => h) ⟨Or.inl ⟨by rfl, ?_⟩, fun _ => rfl⟩ ?_
          rotate_left
          ·intro w; go_simp
           try with_reducible rfl
          refine wpAnyIn_ready (rs := [3]) (by kernel_rfl) (by simp) ?_
          refine AllReadyIn.cons rfl (fun K hK => ?_) ?_
          ·go_simp
           refine hK _ _ ?_
           clear hK K
           refine wpAnyIn_ready (rs := [6]) (by kernel_rfl) (by simp) ?_
           refine AllReadyIn.cons rfl (fun K hK => ?_) ?_
           ·refine stepIn_append_own rfl _ _ 31 rfl n₀ 9 i0 (.string .empty) 1 16 Tryz.underlying31 hi hz0 hz1 hz2 rfl (by decide) _ _ _ rfl (hr1.alloc _) ⟨W2.heap.size, 0, none⟩ 1 1 [.string (s.extract x.1 x.2)] rfl rfl (cell_str_new _ _ _) (str_one _) (by unfold maxLen; omega) (by omega) (by simp; omega) ?_
            intro v' w1 hown' hgrow _
            obtain ⟨g', cap', rfl⟩ := ownsRow_succ hown'
            obtain ⟨hc1, hc2, hf2⟩ := HCL.out _ _ hgrow
            refine hK _ _ ?_
            clear hK K
            refine wpAnyIn_take (i := 7) (v := ?_) rfl rfl (by kernel_rfl) (by kernel_rfl) (by kernel_rfl) (fun _ _ _ h => h) ⟨Or.inl ⟨by rfl, ?_⟩, fun _ => rfl⟩ ?_
            rotate_left
            ·intro w; go_simp
             try with_reducible rfl
            refine wpAnyIn_ready (rs := [8]) (by kernel_rfl) (by simp) ?_
            refine AllReadyIn.cons rfl (fun K hK => ?_) ?_
            ·go_simp
             refine hK _ _ ?_
             clear hK K
             refine wpAnyIn_done (by kernel_rfl) ?_ _
             exact FIN.out _ _ _ _ hown' hgrow _
            exact AllReadyIn.nil
           exact AllReadyIn.nil
          exact AllReadyIn.nil
         exact AllReadyIn.nil
        exact AllReadyIn.nil
       refine AllReadyIn.cons rfl (fun K hK => ?_) ?_
       ·go_simp
        refine hK _ _ ?_
        clear hK K
        refine wpAnyIn_take (i := 2) (v := ?_) rfl rfl (by kernel_rfl) (by kernel_rfl) (by kernel_rfl) (fun _ _ _ h => h) ⟨Or.inl ⟨by rfl, ?_⟩, fun _ => rfl⟩ ?_
        rotate_left
        ·intro w; go_simp
         try with_reducible rfl
        refine wpAnyIn_ready (rs := [0, 3, 5]) (by kernel_rfl) (by simp) ?_
        refine AllReadyIn.cons rfl (fun K hK => ?_) ?_
        ·go_simp
         refine hK _ _ ?_
         clear hK K
         refine wpAnyIn_ready (rs := [3, 5]) (by kernel_rfl) (by simp) ?_
         refine AllReadyIn.cons rfl (fun K hK => ?_) ?_
         ·go_simp
          refine hK _ _ ?_
          clear hK K
          refine wpAnyIn_ready (rs := [5]) (by kernel_rfl) (by simp) ?_
          refine AllReadyIn.cons rfl (fun K hK => ?_) ?_
          ·go_simp
           refine hK _ _ ?_
           clear hK K
           refine wpAnyIn_ready (rs := [6]) (by kernel_rfl) (by simp) ?_
           refine AllReadyIn.cons rfl (fun K hK => ?_) ?_
           ·refine stepIn_append_own rfl _ _ 31 rfl n₀ 9 i0 (.string .empty) 1 16 Tryz.underlying31 hi hz0 hz1 hz2 rfl (by decide) _ _ _ rfl (hr1.alloc _) ⟨W2.heap.size, 0, none⟩ 1 1 [.string (s.extract x.1 x.2)] rfl rfl (cell_str_new _ _ _) (str_one _) (by unfold maxLen; omega) (by omega) (by simp; omega) ?_
            intro v' w1 hown' hgrow _
            obtain ⟨g', cap', rfl⟩ := ownsRow_succ hown'
            obtain ⟨hc1, hc2, hf2⟩ := HCL.out _ _ hgrow
            refine hK _ _ ?_
            clear hK K
            refine wpAnyIn_take (i := 7) (v := ?_) rfl rfl (by kernel_rfl) (by kernel_rfl) (by kernel_rfl) (fun _ _ _ h => h) ⟨Or.inl ⟨by rfl, ?_⟩, fun _ => rfl⟩ ?_
            rotate_left
            ·intro w; go_simp
             try with_reducible rfl
            refine wpAnyIn_ready (rs := [8]) (by kernel_rfl) (by simp) ?_
            refine AllReadyIn.cons rfl (fun K hK => ?_) ?_
            ·go_simp
             refine hK _ _ ?_
             clear hK K
             refine wpAnyIn_done (by kernel_rfl) ?_ _
             exact FIN.out _ _ _ _ hown' hgrow _
            exact AllReadyIn.nil
           exact AllReadyIn.nil
          exact AllReadyIn.nil
         refine AllReadyIn.cons rfl (fun K hK => ?_) ?_
         ·go_simp
          refine hK _ _ ?_
          clear hK K
          refine wpAnyIn_ready (rs := [3]) (by kernel_rfl) (by simp) ?_
          refine AllReadyIn.cons rfl (fun K hK => ?_) ?_
          ·go_simp
           refine hK _ _ ?_
           clear hK K
           refine wpAnyIn_ready (rs := [6]) (by kernel_rfl) (by simp) ?_
           refine AllReadyIn.cons rfl (fun K hK => ?_) ?_
           ·refine stepIn_append_own rfl _ _ 31 rfl n₀ 9 i0 (.string .empty) 1 16 Tryz.underlying31 hi hz0 hz1 hz2 rfl (by decide) _ _ _ rfl (hr1.alloc _) ⟨W2.heap.size, 0, none⟩ 1 1 [.string (s.extract x.1 x.2)] rfl rfl (cell_str_new _ _ _) (str_one _) (by unfold maxLen; omega) (by omega) (by simp; omega) ?_
            intro v' w1 hown' hgrow _
            obtain ⟨g', cap', rfl⟩ := ownsRow_succ hown'
            obtain ⟨hc1, hc2, hf2⟩ := HCL.out _ _ hgrow
            refine hK _ _ ?_
            clear hK K
            refine wpAnyIn_take (i := 7) (v := ?_) rfl rfl (by kernel_rfl) (by kernel_rfl) (by kernel_rfl) (fun _ _ _ h => h) ⟨Or.inl ⟨by rfl, ?_⟩, fun _ => rfl⟩ ?_
            rotate_left
            ·intro w; go_simp
             try with_reducible rfl
            refine wpAnyIn_ready (rs := [8]) (by kernel_rfl) (by simp) ?_
            refine AllReadyIn.cons rfl (fun K hK => ?_) ?_
            ·go_simp
             refine hK _ _ ?_
             clear hK K
             refine wpAnyIn_done (by kernel_rfl) ?_ _
             exact FIN.out _ _ _ _ hown' hgrow _
            exact AllReadyIn.nil
           exact AllReadyIn.nil
          exact AllReadyIn.nil
         exact AllReadyIn.nil
        refine AllReadyIn.cons rfl (fun K hK => ?_) ?_
        ·go_simp
         refine hK _ _ ?_
         clear hK K
         refine wpAnyIn_ready (rs := [0, 5]) (by kernel_rfl) (by simp) ?_
         refine AllReadyIn.cons rfl (fun K hK => ?_) ?_
         ·go_simp
          refine hK _ _ ?_
          clear hK K
          refine wpAnyIn_ready (rs := [5]) (by kernel_rfl) (by simp) ?_
          refine AllReadyIn.cons rfl (fun K hK => ?_) ?_
          ·go_simp
           refine hK _ _ ?_
           clear hK K
           refine wpAnyIn_ready (rs := [6]) (by kernel_rfl) (by simp) ?_
           refine AllReadyIn.cons rfl (fun K hK => ?_) ?_
           ·refine stepIn_append_own rfl _ _ 31 rfl n₀ 9 i0 (.string .empty) 1 16 Tryz.underlying31 hi hz0 hz1 hz2 rfl (by decide) _ _ _ rfl (hr1.alloc _) ⟨W2.heap.size, 0, none⟩ 1 1 [.string (s.extract x.1 x.2)] rfl rfl (cell_str_new _ _ _) (str_one _) (by unfold maxLen; omega) (by omega) (by simp; omega) ?_
            intro v' w1 hown' hgrow _
            obtain ⟨g', cap', rfl⟩ := ownsRow_succ hown'
            obtain ⟨hc1, hc2, hf2⟩ := HCL.out _ _ hgrow
            refine hK _ _ ?_
            clear hK K
            refine wpAnyIn_take (i := 7) (v := ?_) rfl rfl (by kernel_rfl) (by kernel_rfl) (by kernel_rfl) (fun _ _ _ h => h) ⟨Or.inl ⟨by rfl, ?_⟩, fun _ => rfl⟩ ?_
            rotate_left
            ·intro w; go_simp
             try with_reducible rfl
            refine wpAnyIn_ready (rs := [8]) (by kernel_rfl) (by simp) ?_
            refine AllReadyIn.cons rfl (fun K hK => ?_) ?_
            ·go_simp
             refine hK _ _ ?_
             clear hK K
             refine wpAnyIn_done (by kernel_rfl) ?_ _
             exact FIN.out _ _ _ _ hown' hgrow _
            exact AllReadyIn.nil
           exact AllReadyIn.nil
          exact AllReadyIn.nil
         refine AllReadyIn.cons rfl (fun K hK => ?_) ?_
         ·go_simp
          refine hK _ _ ?_
          clear hK K
          refine wpAnyIn_ready (rs := [0, 6]) (by kernel_rfl) (by simp) ?_
          refine AllReadyIn.cons rfl (fun K hK => ?_) ?_
          ·go_simp
           refine hK _ _ ?_
           clear hK K
           refine wpAnyIn_ready (rs := [6]) (by kernel_rfl) (by simp) ?_
           refine AllReadyIn.cons rfl (fun K hK => ?_) ?_
           ·refine stepIn_append_own rfl _ _ 31 rfl n₀ 9 i0 (.string .empty) 1 16 Tryz.underlying31 hi hz0 hz1 hz2 rfl (by decide) _ _ _ rfl (hr1.alloc _) ⟨W2.heap.size, 0, none⟩ 1 1 [.string (s.extract x.1 x.2)] rfl rfl (cell_str_new _ _ _) (str_one _) (by unfold maxLen; omega) (by omega) (by simp; omega) ?_
            intro v' w1 hown' hgrow _
            obtain ⟨g', cap', rfl⟩ := ownsRow_succ hown'
            obtain ⟨hc1, hc2, hf2⟩ := HCL.out _ _ hgrow
            refine hK _ _ ?_
            clear hK K
            refine wpAnyIn_take (i := 7) (v := ?_) rfl rfl (by kernel_rfl) (by kernel_rfl) (by kernel_rfl) (fun _ _ _ h => h) ⟨Or.inl ⟨by rfl, ?_⟩, fun _ => rfl⟩ ?_
            rotate_left
            ·intro w; go_simp
             try with_reducible rfl
            refine wpAnyIn_ready (rs := [8]) (by kernel_rfl) (by simp) ?_
            refine AllReadyIn.cons rfl (fun K hK => ?_) ?_
            ·go_simp
             refine hK _ _ ?_
             clear hK K
             refine wpAnyIn_done (by kernel_rfl) ?_ _
             exact FIN.out _ _ _ _ hown' hgrow _
            exact AllReadyIn.nil
           exact AllReadyIn.nil
          refine AllReadyIn.cons rfl (fun K hK => ?_) ?_
          ·refine stepIn_append_own rfl _ _ 31 rfl n₀ 9 i0 (.string .empty) 1 16 Tryz.underlying31 hi hz0 hz1 hz2 rfl (by decide) _ _ _ rfl (hr1.alloc _) ⟨W2.heap.size, 0, none⟩ 1 1 [.string (s.extract x.1 x.2)] rfl rfl (cell_str_new _ _ _) (str_one _) (by unfold maxLen; omega) (by omega) (by simp; omega) ?_
           intro v' w1 hown' hgrow _
           obtain ⟨g', cap', rfl⟩ := ownsRow_succ hown'
           obtain ⟨hc1, hc2, hf2⟩ := HCL.out _ _ hgrow
           refine hK _ _ ?_
           clear hK K
           refine wpAnyIn_ready (rs := [0]) (by kernel_rfl) (by simp) ?_
           refine AllReadyIn.cons rfl (fun K hK => ?_) ?_
           ·go_simp
            refine hK _ _ ?_
            clear hK K
            refine wpAnyIn_take (i := 7) (v := ?_) rfl rfl (by kernel_rfl) (by kernel_rfl) (by kernel_rfl) (fun _ _ _ h => h) ⟨Or.inl ⟨by rfl, ?_⟩, fun _ => rfl⟩ ?_
            rotate_left
            ·intro w; go_simp
             try with_reducible rfl
            refine wpAnyIn_ready (rs := [8]) (by kernel_rfl) (by simp) ?_
            refine AllReadyIn.cons rfl (fun K hK => ?_) ?_
            ·go_simp
             refine hK _ _ ?_
             clear hK K
             refine wpAnyIn_done (by kernel_rfl) ?_ _
             exact FIN.out _ _ _ _ hown' hgrow _
            exact AllReadyIn.nil
           exact AllReadyIn.nil
          exact AllReadyIn.nil
         exact AllReadyIn.nil
        refine AllReadyIn.cons rfl (fun K hK => ?_) ?_
        ·go_simp
         refine hK _ _ ?_
         clear hK K
         refine wpAnyIn_ready (rs := [0, 3]) (by kernel_rfl) (by simp) ?_
         refine AllReadyIn.cons rfl (fun K hK => ?_) ?_
         ·go_simp
          refine hK _ _ ?_
          clear hK K
          refine wpAnyIn_ready (rs := [3]) (by kernel_rfl) (by simp) ?_
          refine AllReadyIn.cons rfl (fun K hK => ?_) ?_
          ·go_simp
           refine hK _ _ ?_
           clear hK K
           refine wpAnyIn_ready (rs := [6]) (by kernel_rfl) (by simp) ?_
           refine AllReadyIn.cons rfl (fun K hK => ?_) ?_
           ·refine stepIn_append_own rfl _ _ 31 rfl n₀ 9 i0 (.string .empty) 1 16 Tryz.underlying31 hi hz0 hz1 hz2 rfl (by decide) _ _ _ rfl (hr1.alloc _) ⟨W2.heap.size, 0, none⟩ 1 1 [.string (s.extract x.1 x.2)] rfl rfl (cell_str_new _ _ _) (str_one _) (by unfold maxLen; omega) (by omega) (by simp; omega) ?_
            intro v' w1 hown' hgrow _
            obtain ⟨g', cap', rfl⟩ := ownsRow_succ hown'
            obtain ⟨hc1, hc2, hf2⟩ := HCL.out _ _ hgrow
            refine hK _ _ ?_
            clear hK K
            refine wpAnyIn_take (i := 7) (v := ?_) rfl rfl (by kernel_rfl) (by kernel_rfl) (by kernel_rfl) (fun _ _ _ h => h) ⟨Or.inl ⟨by rfl, ?_⟩, fun _ => rfl⟩ ?_
            rotate_left
            ·intro w; go_simp
             try with_reducible rfl
            refine wpAnyIn_ready (rs := [8]) (by kernel_rfl) (by simp) ?_
            refine AllReadyIn.cons rfl (fun K hK => ?_) ?_
            ·go_simp
             refine hK _ _ ?_
             clear hK K
             refine wpAnyIn_done (by kernel_rfl) ?_ _
             exact FIN.out _ _ _ _ hown' hgrow _
            exact AllReadyIn.nil
           exact AllReadyIn.nil
          exact AllReadyIn.nil
         refine AllReadyIn.cons rfl (fun K hK => ?_) ?_
         ·go_simp
          refine hK _ _ ?_
          clear hK K
          refine wpAnyIn_ready (rs := [0, 6]) (by kernel_rfl) (by simp) ?_
          refine AllReadyIn.cons rfl (fun K hK => ?_) ?_
          ·go_simp
           refine hK _ _ ?_
           clear hK K
           refine wpAnyIn_ready (rs := [6]) (by kernel_rfl) (by simp) ?_
           refine AllReadyIn.cons rfl (fun K hK => ?_) ?_
           ·refine stepIn_append_own rfl _ _ 31 rfl n₀ 9 i0 (.string .empty) 1 16 Tryz.underlying31 hi hz0 hz1 hz2 rfl (by decide) _ _ _ rfl (hr1.alloc _) ⟨W2.heap.size, 0, none⟩ 1 1 [.string (s.extract x.1 x.2)] rfl rfl (cell_str_new _ _ _) (str_one _) (by unfold maxLen; omega) (by omega) (by simp; omega) ?_
            intro v' w1 hown' hgrow _
            obtain ⟨g', cap', rfl⟩ := ownsRow_succ hown'
            obtain ⟨hc1, hc2, hf2⟩ := HCL.out _ _ hgrow
            refine hK _ _ ?_
            clear hK K
            refine wpAnyIn_take (i := 7) (v := ?_) rfl rfl (by kernel_rfl) (by kernel_rfl) (by kernel_rfl) (fun _ _ _ h => h) ⟨Or.inl ⟨by rfl, ?_⟩, fun _ => rfl⟩ ?_
            rotate_left
            ·intro w; go_simp
             try with_reducible rfl
            refine wpAnyIn_ready (rs := [8]) (by kernel_rfl) (by simp) ?_
            refine AllReadyIn.cons rfl (fun K hK => ?_) ?_
            ·go_simp
             refine hK _ _ ?_
             clear hK K
             refine wpAnyIn_done (by kernel_rfl) ?_ _
             exact FIN.out _ _ _ _ hown' hgrow _
            exact AllReadyIn.nil
           exact AllReadyIn.nil
          refine AllReadyIn.cons rfl (fun K hK => ?_) ?_
          ·refine stepIn_append_own rfl _ _ 31 rfl n₀ 9 i0 (.string .empty) 1 16 Tryz.underlying31 hi hz0 hz1 hz2 rfl (by decide) _ _ _ rfl (hr1.alloc _) ⟨W2.heap.size, 0, none⟩ 1 1 [.string (s.extract x.1 x.2)] rfl rfl (cell_str_new _ _ _) (str_one _) (by unfold maxLen; omega) (by omega) (by simp; omega) ?_
           intro v' w1 hown' hgrow _
           obtain ⟨g', cap', rfl⟩ := ownsRow_succ hown'
           obtain ⟨hc1, hc2, hf2⟩ := HCL.out _ _ hgrow
           refine hK _ _ ?_
           clear hK K
           refine wpAnyIn_ready (rs := [0]) (by kernel_rfl) (by simp) ?_
           refine AllReadyIn.cons rfl (fun K hK => ?_) ?_
           ·go_simp
            refine hK _ _ ?_
            clear hK K
            refine wpAnyIn_take (i := 7) (v := ?_) rfl rfl (by kernel_rfl) (by kernel_rfl) (by kernel_rfl) (fun _ _ _ h => h) ⟨Or.inl ⟨by rfl, ?_⟩, fun _ => rfl⟩ ?_
            rotate_left
            ·intro w; go_simp
             try with_reducible rfl
            refine wpAnyIn_ready (rs := [8]) (by kernel_rfl) (by simp) ?_
            refine AllReadyIn.cons rfl (fun K hK => ?_) ?_
            ·go_simp
             refine hK _ _ ?_
             clear hK K
             refine wpAnyIn_done (by kernel_rfl) ?_ _
             exact FIN.out _ _ _ _ hown' hgrow _
            exact AllReadyIn.nil
           exact AllReadyIn.nil
          exact AllReadyIn.nil
         exact AllReadyIn.nil
        exact AllReadyIn.nil
       refine AllReadyIn.cons rfl (fun K hK => ?_) ?_
       ·go_simp
        refine hK _ _ ?_
        clear hK K
        refine wpAnyIn_ready (rs := [0, 1]) (by kernel_rfl) (by simp) ?_
        refine AllReadyIn.cons rfl (fun K hK => ?_) ?_
        ·go_simp
         refine hK _ _ ?_
         clear hK K
         refine wpAnyIn_ready (rs := [1]) (by kernel_rfl) (by simp) ?_
         refine AllReadyIn.cons rfl (fun K hK => ?_) ?_
         ·go_simp
          refine hK _ _ ?_
          clear hK K
          refine wpAnyIn_take (i := 2) (v := ?_) rfl rfl (by kernel_rfl) (by kernel_rfl) (by kernel_rfl) (fun _ _ _ h => h) ⟨Or.inl ⟨by rfl, ?_⟩, fun _ => rfl⟩ ?_
          rotate_left
          ·intro w; go_simp
           try with_reducible rfl
          refine wpAnyIn_ready (rs := [3]) (by kernel_rfl) (by simp) ?_
          refine AllReadyIn.cons rfl (fun K hK => ?_) ?_
          ·go_simp
           refine hK _ _ ?_
           clear hK K
           refine wpAnyIn_ready (rs := [6]) (by kernel_rfl) (by simp) ?_
           refine AllReadyIn.cons rfl (fun K hK => ?_) ?_
           ·refine stepIn_append_own rfl _ _ 31 rfl n₀ 9 i0 (.string .empty) 1 16 Tryz.underlying31 hi hz0 hz1 hz2 rfl (by decide) _ _ _ rfl (hr1.alloc _) ⟨W2.heap.size, 0, none⟩ 1 1 [.string (s.extract x.1 x.2)] rfl rfl (cell_str_new _ _ _) (str_one _) (by unfold maxLen; omega) (by omega) (by simp; omega) ?_
            intro v' w1 hown' hgrow _
            obtain ⟨g', cap', rfl⟩ := ownsRow_succ hown'
            obtain ⟨hc1, hc2, hf2⟩ := HCL.out _ _ hgrow
            refine hK _ _ ?_
            clear hK K
            refine wpAnyIn_take (i := 7) (v := ?_) rfl rfl (by kernel_rfl) (by kernel_rfl) (by kernel_rfl) (fun _ _ _ h => h) ⟨Or.inl ⟨by rfl, ?_⟩, fun _ => rfl⟩ ?_
            rotate_left
            ·intro w; go_simp
             try with_reducible rfl
            refine wpAnyIn_ready (rs := [8]) (by kernel_rfl) (by simp) ?_
            refine AllReadyIn.cons rfl (fun K hK => ?_) ?_
            ·go_simp
             refine hK _ _ ?_
             clear hK K
             refine wpAnyIn_done (by kernel_rfl) ?_ _
             exact FIN.out _ _ _ _ hown' hgrow _
            exact AllReadyIn.nil
           exact AllReadyIn.nil
          exact AllReadyIn.nil
         exact AllReadyIn.nil
        refine AllReadyIn.cons rfl (fun K hK => ?_) ?_
        ·go_simp
         refine hK _ _ ?_
         clear hK K
         refine wpAnyIn_take (i := 2) (v := ?_) rfl rfl (by kernel_rfl) (by kernel_rfl) (by kernel_rfl) (fun _ _ _ h => h) ⟨Or.inl ⟨by rfl, ?_⟩, fun _ => rfl⟩ ?_
         rotate_left
         ·intro w; go_simp
          try with_reducible rfl
         refine wpAnyIn_ready (rs := [0, 3]) (by kernel_rfl) (by simp) ?_
         refine AllReadyIn.cons rfl (fun K hK => ?_) ?_
         ·go_simp
          refine hK _ _ ?_
          clear hK K
          refine wpAnyIn_ready (rs := [3]) (by kernel_rfl) (by simp) ?_
          refine AllReadyIn.cons rfl (fun K hK => ?_) ?_
          ·go_simp
           refine hK _ _ ?_
           clear hK K
           refine wpAnyIn_ready (rs := [6]) (by kernel_rfl) (by simp) ?_
           refine AllReadyIn.cons rfl (fun K hK => ?_) ?_
           ·refine stepIn_append_own rfl _ _ 31 rfl n₀ 9 i0 (.string .empty) 1 16 Tryz.underlying31 hi hz0 hz1 hz2 rfl (by decide) _ _ _ rfl (hr1.alloc _) ⟨W2.heap.size, 0, none⟩ 1 1 [.string (s.extract x.1 x.2)] rfl rfl (cell_str_new _ _ _) (str_one _) (by unfold maxLen; omega) (by omega) (by simp; omega) ?_
            intro v' w1 hown' hgrow _
            obtain ⟨g', cap', rfl⟩ := ownsRow_succ hown'
            obtain ⟨hc1, hc2, hf2⟩ := HCL.out _ _ hgrow
            refine hK _ _ ?_
            clear hK K
            refine wpAnyIn_take (i := 7) (v := ?_) rfl rfl (by kernel_rfl) (by kernel_rfl) (by kernel_rfl) (fun _ _ _ h => h) ⟨Or.inl ⟨by rfl, ?_⟩, fun _ => rfl⟩ ?_
            rotate_left
            ·intro w; go_simp
             try with_reducible rfl
            refine wpAnyIn_ready (rs := [8]) (by kernel_rfl) (by simp) ?_
            refine AllReadyIn.cons rfl (fun K hK => ?_) ?_
            ·go_simp
             refine hK _ _ ?_
             clear hK K
             refine wpAnyIn_done (by kernel_rfl) ?_ _
             exact FIN.out _ _ _ _ hown' hgrow _
            exact AllReadyIn.nil
           exact AllReadyIn.nil
          exact AllReadyIn.nil
         refine AllReadyIn.cons rfl (fun K hK => ?_) ?_
         ·go_simp
          refine hK _ _ ?_
          clear hK K
          refine wpAnyIn_ready (rs := [0, 6]) (by kernel_rfl) (by simp) ?_
          refine AllReadyIn.cons rfl (fun K hK => ?_) ?_
          ·go_simp
           refine hK _ _ ?_
           clear hK K
           refine wpAnyIn_ready (rs := [6]) (by kernel_rfl) (by simp) ?_
           refine AllReadyIn.cons rfl (fun K hK => ?_) ?_
           ·refine stepIn_append_own rfl _ _ 31 rfl n₀ 9 i0 (.string .empty) 1 16 Tryz.underlying31 hi hz0 hz1 hz2 rfl (by decide) _ _ _ rfl (hr1.alloc _) ⟨W2.heap.size, 0, none⟩ 1 1 [.string (s.extract x.1 x.2)] rfl rfl (cell_str_new _ _ _) (str_one _) (by unfold maxLen; omega) (by omega) (by simp; omega) ?_
            intro v' w1 hown' hgrow _
            obtain ⟨g', cap', rfl⟩ := ownsRow_succ hown'
            obtain ⟨hc1, hc2, hf2⟩ := HCL.out _ _ hgrow
            refine hK _ _ ?_
            clear hK K
            refine wpAnyIn_take (i := 7) (v := ?_) rfl rfl (by kernel_rfl) (by kernel_rfl) (by kernel_rfl) (fun _ _ _ h => h) ⟨Or.inl ⟨by rfl, ?_⟩, fun _ => rfl⟩ ?_
            rotate_left
            ·intro w; go_simp
             try with_reducible rfl
            refine wpAnyIn_ready (rs := [8]) (by kernel_rfl) (by simp) ?_
            refine AllReadyIn.cons rfl (fun K hK => ?_) ?_
            ·go_simp
             refine hK _ _ ?_
             clear hK K
             refine wpAnyIn_done (by kernel_rfl) ?_ _
             exact FIN.out _ _ _ _ hown' hgrow _
            exact AllReadyIn.nil
           exact AllReadyIn.nil
          refine AllReadyIn.cons rfl (fun K hK => ?_) ?_
          ·refine stepIn_append_own rfl _ _ 31 rfl n₀ 9 i0 (.string .empty) 1 16 Tryz.underlying31 hi hz0 hz1 hz2 rfl (by decide) _ _ _ rfl (hr1.alloc _) ⟨W2.heap.size, 0, none⟩ 1 1 [.string (s.extract x.1 x.2)] rfl rfl (cell_str_new _ _ _) (str_one _) (by unfold maxLen; omega) (by omega) (by simp; omega) ?_
           intro v' w1 hown' hgrow _
           obtain ⟨g', cap', rfl⟩ := ownsRow_succ hown'
           obtain ⟨hc1, hc2, hf2⟩ := HCL.out _ _ hgrow
           refine hK _ _ ?_
           clear hK K
           refine wpAnyIn_ready (rs := [0]) (by kernel_rfl) (by simp) ?_
           refine AllReadyIn.cons rfl (fun K hK => ?_) ?_
           ·go_simp
            refine hK _ _ ?_
            clear hK K
            refine wpAnyIn_take (i := 7) (v := ?_) rfl rfl (by kernel_rfl) (by kernel_rfl) (by kernel_rfl) (fun _ _ _ h => h) ⟨Or.inl ⟨by rfl, ?_⟩, fun _ => rfl⟩ ?_
            rotate_left
            ·intro w; go_simp
             try with_reducible rfl
            refine wpAnyIn_ready (rs := [8]) (by kernel_rfl) (by simp) ?_
            refine AllReadyIn.cons rfl (fun K hK => ?_) ?_
            ·go_simp
             refine hK _ _ ?_
             clear hK K
             refine wpAnyIn_done (by kernel_rfl) ?_ _
             exact FIN.out _ _ _ _ hown' hgrow _
            exact AllReadyIn.nil
           exact AllReadyIn.nil
          exact AllReadyIn.nil
         exact AllReadyIn.nil
        exact AllReadyIn.nil
       exact AllReadyIn.nil
      ·generalize hkk : wrongL false s.data.toList (seg s.data.toList x.1 x.2) x.2 = kk at *
       have WC := hide WC0
       clear WC0
       have hkb : (kk != 0) = true := by simpa using hk0
       gi_wp2_with (refine ⟨trivial, ?_⟩; gi_at_call 74; refine (callsIn_wide.2 (WC.out _)).mono ?_; rintro e w' ⟨rfl, hw'⟩; rw [hw']; clear hw' w')
       obtain ⟨W1, hW1, hL1, hr1, hB1, hk1, h21, hs1⟩ := mid_world (s := s) (cs := fun v => #[.string (s.extract 0 a), .string (s.extract b c), .string (s.extract d e), (.slice none 0 0), v]) (v := .slice ao pre.length cap) (x.2 : Int) kk (W.heap.size + 1 + 1 + 1) (W.heap.size + 1 + 1) (by omega) (by omega) hps1 (by omega) (by omega) hLi hrow hB
       rw [← hW1]
       exact ⟨hk1.from _, rfl, pre, x, rfl, hbad, by rw [hkk]; exact hk0, _, by rw [hkk]; exact hL1, hr1, hB1⟩
     case done_p3 =>
      rintro D2 ys Wc hD rfl ⟨⟨v, hL2, hrow, hB2⟩, hbad⟩ hK
      clear cS cA cE v0 v1 v2 v3 v4 zA zE eV eA eE eS eR eF ls0 ls1 ls2 lr0 lr1 lr2 lf0 lf1 lf2 lv0 lv1 lv2 la0 la1 la2 le0 le1 le2 hL hBW hLs hBf hbA hbS hps hpsV hps1
      simp only [World.size_alloc] at hD
      have hids := idsR_ok false s.data.toList (e + 1) hbad
      have hq := lastE_ends s.data.toList (e + 1) (by rw [len_data]; omega)
      rw [len_data] at hq
      have HT2 : Hid (parseR s.data.toList = putT a b c d e (if lastE (e + 1) (segs s.data.toList (e + 1)) < s.data.toList.length then .error (10, lastE (e + 1) (segs s.data.toList (e + 1))) else .ok ([], segs s.data.toList (e + 1)))) := by
       show _ = _
       rw [HT.out, build_ok H43.out hids]
      rw [segs_lastE] at hL2
      have hne := segs_ne s.data.toList (e + 1)
      clear hids hbad HT H43
      generalize lastE (e + 1) (segs s.data.toList (e + 1)) = q at *
      generalize segs s.data.toList (e + 1) = Q at *
      obtain ⟨g2, cap2, rfl⟩ := row_some hrow (by cases Q with | nil => exact absurd rfl hne | cons _ _ => simp)
      obtain ⟨cur2, hg2, hgb2, HO2'⟩ := row_block hrow
      have HO2 := hide HO2'
      clear HO2' hne
      have hL : Lies Wc _ := Lies.cons hL2.head (Lies.cons hL2.tail.head (Lies.cons hL2.tail.tail.head (Lies.cons hL2.tail.tail.tail.tail.tail.tail.tail.head (Lies.cons hL2.tail.tail.tail.tail.tail.tail.tail.tail.head (Lies.cons hL2.tail.tail.tail.tail.tail.tail.tail.tail.tail.head (Lies.cons hgb2 (Lies.cons hK (Lies.nil _))))))))
      have hBW := hB2
      clear hL2 hB2 hrow hK
      have hVs : V + 3 ≤ Wc.heap.size := by have := hL.lt _ (List.mem_cons_of_mem _ (List.mem_cons_of_mem _ List.mem_cons_self)); simp only at this; omega
      have eV := hL.head
      have eA := hL.tail.head
      have eE := hL.tail.tail.head
      have eS := hL.tail.tail.tail.head
      have eR := hL.tail.tail.tail.tail.head
      have eF := hL.tail.tail.tail.tail.tail.head
      have y_g := hL.tail.tail.tail.tail.tail.tail.head
      have y_D := hL.tail.tail.tail.tail.tail.tail.tail.head
      have cS := one_cell eS
      have cA := one_cell eA
      have cE := one_cell eE
      have v0 := cell_at 0 eV rfl
      have v1 := cell_at 1 eV rfl
      have v2 := cell_at 2 eV rfl
      have v3 := cell_at 3 eV rfl
      have v4 := cell_at 4 eV rfl
      have zA := one_free 0 eA
      have zE := one_free 0 eE
      by_cases hend : q = s.size
      ·have HP : Hid (parseR s.data.toList = .ok ⟨a, b, c, d, e, [], Q⟩) := by
        show _ = _
        rw [HT2.out, if_neg (by rw [len_data]; omega)]; rfl
       have hlt : ¬ ((q : Int) < (s.size : Int)) := by omega
       clear hend
       have r0 := cell_at 0 eR rfl
       have r1 := cell_at 1 eR rfl
       have r2 := cell_at 2 eR rfl
       have r3 := cell_at 3 eR rfl
       have r4 := cell_at 4 eR rfl
       have f0 := cell_at 0 eF rfl
       have f1 := cell_at 1 eF rfl
       have z0 := one_free 0 eR
       have z1 := one_free 1 eR
       have z2 := one_free 2 eR
       have z3 := one_free 3 eR
       have z4 := one_free 4 eR
       have y0 := one_free 0 eF
       have y1 := one_free 1 eF
       go_wp2_with fail
       rw [rounds_succ]
       go_wp2_with fail
       try rw [Exit.noGoto_ret]
       obtain ⟨W9, hW9, gr, gf, hk, hbl⟩ := end_world (W := Wc) (B1 := w.heap.size + 1) (B2 := w.heap.size + 1 + 1) (by omega) (.string (s.extract 0 a)) (.string (s.extract b c)) (.string (s.extract d e)) (.slice none 0 0) (.slice (some ⟨g2, 0, none⟩) Q.length cap2) (.int .i64 0) (.int .i64 0) eR eF
       rw [← hW9]
       refine fin9 _ [D2] W9 w.heap.size (w.heap.size + 1) (w.heap.size + 1 + 1) _ _ _ _ _ _ _ ⟨_, _, _, rfl⟩ ⟨_, _, _, rfl⟩ rfl rfl gr gf (by simp) (by intro D hD; simp only [List.mem_cons, List.not_mem_nil, or_false] at hD; rcases hD with rfl <;> exact ⟨by omega, (hk _ (by omega) (by omega)).trans (by assumption)⟩) ?_
       exact fun W' h => ppost_ok (c := ⟨a, b, c, d, e, [], Q⟩) HP.out (hBW.trans (hbl _ (by omega) (by omega))) h (World.ownsRow_nil _ _ _ _) (HO2.out _ _ ((hk g2 (by omega) (by omega)).trans y_g) (by omega))
      ·have hlt : q < s.size := by omega
       clear hend
       have hb1 : ((s[q].toNat : Int) == 45) = false := ne_byte (k := 45) (by omega) (not_dash s q hlt hq.2)
       have hWs := hBW.size
       have ls0 : w.heap.size < Wc.heap.size := by omega
       have ls1 : w.heap.size < Wc.heap.size + 1 := by omega
       have ls2 : w.heap.size < Wc.heap.size + 1 + 1 := by omega
       have lr0 : w.heap.size + 1 < Wc.heap.size := by omega
       have lr1 : w.heap.size + 1 < Wc.heap.size + 1 := by omega
       have lr2 : w.heap.size + 1 < Wc.heap.size + 1 + 1 := by omega
       have lf0 : w.heap.size + 1 + 1 < Wc.heap.size := by omega
       have lf1 : w.heap.size + 1 + 1 < Wc.heap.size + 1 := by omega
       have lf2 : w.heap.size + 1 + 1 < Wc.heap.size + 1 + 1 := by omega
       have lv0 : V < Wc.heap.size := by omega
       have lv1 : V < Wc.heap.size + 1 := by omega
       have lv2 : V < Wc.heap.size + 1 + 1 := by omega
       have la0 : V + 1 < Wc.heap.size := by omega
       have la1 : V + 1 < Wc.heap.size + 1 := by omega
       have la2 : V + 1 < Wc.heap.size + 1 + 1 := by omega
       have le0 : V + 1 + 1 < Wc.heap.size := by omega
       have le1 : V + 1 + 1 < Wc.heap.size + 1 := by omega
       have le2 : V + 1 + 1 < Wc.heap.size + 1 + 1 := by omega
       by_cases h43 : s[q] = 43
       ·have hb2 : ((s[q].toNat : Int) != 43) = false := by rw [h43]; rfl
        clear h43
        go_wp2_with fail
        have HP : Hid (parseR s.data.toList = .error ((10 : Int), q)) := by
         show _ = _
         rw [HT2.out, if_pos (by rw [len_data]; exact hlt)]; rfl
        rw [rounds_succ]
        go_wp2_with fail
        obtain ⟨W8, hW8, hL8, hB8⟩ := form_world (w := w) (o1 := .cells #[.bool false] 4) (o2 := .cells #[.pointer (some ⟨V, 4, none⟩)] 104) (by omega) (by omega) (by
         intro q hq
         simp only [List.mem_cons, List.not_mem_nil, or_false] at hq
         rcases hq with rfl | rfl | rfl | rfl | rfl <;> simp only <;> omega) hL hBW
        rw [← hW8]
        clear hW8 cS cA cE v0 v1 v2 v3 v4 zA zE eV eA eE eS eR eF ls0 ls1 ls2 lr0 lr1 lr2 lf0 lf1 lf2 lv0 lv1 lv2 la0 la1 la2 le0 le1 le2
        have eA := hL8.tail.head
        have eE := hL8.tail.tail.head
        have eR := hL8.tail.tail.tail.tail.head
        have eF := hL8.tail.tail.tail.tail.tail.head
        have cA := one_cell eA
        have cE := one_cell eE
        have xd0 := hL8.tail.tail.tail.tail.tail.tail.tail.head
        have r0 := cell_at 0 eR rfl
        have r1 := cell_at 1 eR rfl
        have r2 := cell_at 2 eR rfl
        have r3 := cell_at 3 eR rfl
        have r4 := cell_at 4 eR rfl
        have f0 := cell_at 0 eF rfl
        have f1 := cell_at 1 eF rfl
        have z0 := one_free 0 eR
        have z1 := one_free 1 eR
        have z2 := one_free 2 eR
        have z3 := one_free 3 eR
        have z4 := one_free 4 eR
        have y0 := one_free 0 eF
        have y1 := one_free 1 eF
        replace hBW := hB8
        clear eA eE hL8 hB8
        go_region
        go_wp2_with fail
        try rw [Exit.noGoto_ret]
        obtain ⟨W9, hW9, gr, gf, hk, hbl⟩ := end_world (W := W8) (B1 := w.heap.size + 1) (B2 := w.heap.size + 1 + 1) (by omega) (.string ⟨#[]⟩) (.string ⟨#[]⟩) (.string ⟨#[]⟩) (.slice none 0 0) (.slice none 0 0) (.int .i64 (((10 : Int), q)).1) (.int .i64 ((((10 : Int), q)).2 : Int)) eR eF
        rw [← hW9]
        refine fin9 _ [D2] W9.drew w.heap.size (w.heap.size + 1) (w.heap.size + 1 + 1) _ _ _ _ _ _ _ ⟨_, _, _, rfl⟩ ⟨_, _, _, rfl⟩ rfl rfl gr gf (by simp) (by intro D hD; simp only [List.mem_cons, List.not_mem_nil, or_false] at hD; rcases hD with rfl <;> exact ⟨by omega, (hk _ (by omega) (by omega)).trans (by assumption)⟩) ?_
        exact fun W' h => ppost_err HP.out ((hBW.trans (hbl _ (by omega) (by omega))).drew) h
       ·have hb2 : ((s[q].toNat : Int) != 43) = true := by have := ne_byte (k := 43) (by omega) h43; simpa [bne] using this
        clear h43
        go_wp2_with fail
        have HP : Hid (parseR s.data.toList = .error ((10 : Int), q)) := by
         show _ = _
         rw [HT2.out, if_pos (by rw [len_data]; exact hlt)]; rfl
        rw [rounds_succ]
        go_wp2_with fail
        obtain ⟨W8, hW8, hL8, hB8⟩ := form_world (w := w) (o1 := .cells #[.bool false] 4) (o2 := .cells #[.pointer (some ⟨V, 4, none⟩)] 104) (by omega) (by omega) (by
         intro q hq
         simp only [List.mem_cons, List.not_mem_nil, or_false] at hq
         rcases hq with rfl | rfl | rfl | rfl | rfl <;> simp only <;> omega) hL hBW
        rw [← hW8]
        clear hW8 cS cA cE v0 v1 v2 v3 v4 zA zE eV eA eE eS eR eF ls0 ls1 ls2 lr0 lr1 lr2 lf0 lf1 lf2 lv0 lv1 lv2 la0 la1 la2 le0 le1 le2
        have eA := hL8.tail.head
        have eE := hL8.tail.tail.head
        have eR := hL8.tail.tail.tail.tail.head
        have eF := hL8.tail.tail.tail.tail.tail.head
        have cA := one_cell eA
        have cE := one_cell eE
        have xd0 := hL8.tail.tail.tail.tail.tail.tail.tail.head
        have r0 := cell_at 0 eR rfl
        have r1 := cell_at 1 eR rfl
        have r2 := cell_at 2 eR rfl
        have r3 := cell_at 3 eR rfl
        have r4 := cell_at 4 eR rfl
        have f0 := cell_at 0 eF rfl
        have f1 := cell_at 1 eF rfl
        have z0 := one_free 0 eR
        have z1 := one_free 1 eR
        have z2 := one_free 2 eR
        have z3 := one_free 3 eR
        have z4 := one_free 4 eR
        have y0 := one_free 0 eF
        have y1 := one_free 1 eF
        replace hBW := hB8
        clear eA eE hL8 hB8
        go_region
        go_wp2_with fail
        try rw [Exit.noGoto_ret]
        obtain ⟨W9, hW9, gr, gf, hk, hbl⟩ := end_world (W := W8) (B1 := w.heap.size + 1) (B2 := w.heap.size + 1 + 1) (by omega) (.string ⟨#[]⟩) (.string ⟨#[]⟩) (.string ⟨#[]⟩) (.slice none 0 0) (.slice none 0 0) (.int .i64 (((10 : Int), q)).1) (.int .i64 ((((10 : Int), q)).2 : Int)) eR eF
        rw [← hW9]
        refine fin9 _ [D2] W9.drew w.heap.size (w.heap.size + 1) (w.heap.size + 1 + 1) _ _ _ _ _ _ _ ⟨_, _, _, rfl⟩ ⟨_, _, _, rfl⟩ rfl rfl gr gf (by simp) (by intro D hD; simp only [List.mem_cons, List.not_mem_nil, or_false] at hD; rcases hD with rfl <;> exact ⟨by omega, (hk _ (by omega) (by omega)).trans (by assumption)⟩) ?_
        exact fun W' h => ppost_err HP.out ((hBW.trans (hbl _ (by omega) (by omega))).drew) h
     case stop_p3 =>
      rintro D9 c ys W7 hD hpre ⟨rfl, pre, x, rfl, hbad, hx, v, hL7, hrow, hB7⟩ hK
      clear cS cA cE v0 v1 v2 v3 v4 zA zE eV eA eE eS eR eF ls0 ls1 ls2 lr0 lr1 lr2 lf0 lf1 lf2 lv0 lv1 lv2 la0 la1 la2 le0 le1 le2 hL hBW hLs hBf hbA hbS hps hpsV hps1
      simp only [World.size_alloc] at hD
      have HP : Hid (parseR s.data.toList = .error (wrongL false s.data.toList (seg s.data.toList x.1 x.2) x.2, x.2)) := by
       show _ = _
       rw [HT.out, build_bad H43.out (idsR_bad false _ _ pre x hbad hx hpre)]; rfl
      generalize wrongL false s.data.toList (seg s.data.toList x.1 x.2) x.2 = kk at *
      have hkb : (kk != 0) = true := by simpa using hx
      have hkc : (kk == 0) = false := by simpa using hx
      have eA := hL7.tail.head
      have eE := hL7.tail.tail.head
      have eR := hL7.tail.tail.tail.tail.tail.tail.tail.tail.head
      have eF := hL7.tail.tail.tail.tail.tail.tail.tail.tail.tail.head
      have cA := one_cell eA
      have cE := one_cell eE
      have r0 := cell_at 0 eR rfl
      have r1 := cell_at 1 eR rfl
      have r2 := cell_at 2 eR rfl
      have r3 := cell_at 3 eR rfl
      have r4 := cell_at 4 eR rfl
      have f0 := cell_at 0 eF rfl
      have f1 := cell_at 1 eF rfl
      have z0 := one_free 0 eR
      have z1 := one_free 1 eR
      have z2 := one_free 2 eR
      have z3 := one_free 3 eR
      have z4 := one_free 4 eR
      have y0 := one_free 0 eF
      have y1 := one_free 1 eF
      have hBW := hB7
      clear eA eE hL7 hB7 hrow hbad hx hpre
      refine wpIn_wide.2 ?_
      go_wp2_with fail
      go_region
      go_wp2_with fail
      try rw [Exit.noGoto_ret]
      obtain ⟨W9, hW9, gr, gf, hk, hbl⟩ := end_world (W := W7) (B1 := w.heap.size + 1) (B2 := w.heap.size + 1 + 1) (by omega) (.string ⟨#[]⟩) (.string ⟨#[]⟩) (.string ⟨#[]⟩) (.slice none 0 0) (.slice none 0 0) (.int .i64 ((kk, x.2)).1) (.int .i64 (((kk, x.2)).2 : Int)) eR eF
      rw [← hW9]
      refine fin9 _ [D9] W9.drew w.heap.size (w.heap.size + 1) (w.heap.size + 1 + 1) _ _ _ _ _ _ _ ⟨_, _, _, rfl⟩ ⟨_, _, _, rfl⟩ rfl rfl gr gf (by simp) (by intro D hD; simp only [List.mem_cons, List.not_mem_nil, or_false] at hD; rcases hD with rfl <;> exact ⟨by omega, (hk _ (by omega) (by omega)).trans (by assumption)⟩) ?_
      exact fun W' h => ppost_err HP.out ((hBW.trans (hbl _ (by omega) (by omega))).drew) h
    ·have hb2 : ((s[e].toNat : Int) != 43) = true := by have := ne_byte (k := 43) (by omega) h43; simpa [bne] using this
     have h43n : ¬ s.data.toList[e]? = some 43 := by rw [at_some s e hlt]; simpa using h43
     clear h43
     have HP : Hid (parseR s.data.toList = .error ((10 : Int), e)) := by
      show _ = _
      rw [HT.out, build_none h43n, if_pos (by rw [len_data]; exact hlt)]; rfl
     rw [rounds_succ]
     go_wp2_with fail
     obtain ⟨W8, hW8, hL8, hB8⟩ := form_world (w := w) (o1 := .cells #[.bool false] 4) (o2 := .cells #[.pointer (some ⟨V, 4, none⟩)] 104) (by omega) (by omega) (by
      intro q hq
      simp only [List.mem_cons, List.not_mem_nil, or_false] at hq
      rcases hq with rfl | rfl | rfl <;> simp only <;> omega) hL hBW
     rw [← hW8]
     clear hW8 cS cA cE v0 v1 v2 v3 v4 zA zE eV eA eE eS eR eF ls0 ls1 ls2 lr0 lr1 lr2 lf0 lf1 lf2 lv0 lv1 lv2 la0 la1 la2 le0 le1 le2
     have eA := hL8.tail.head
     have eE := hL8.tail.tail.head
     have eR := hL8.tail.tail.tail.tail.head
     have eF := hL8.tail.tail.tail.tail.tail.head
     have cA := one_cell eA
     have cE := one_cell eE
     have r0 := cell_at 0 eR rfl
     have r1 := cell_at 1 eR rfl
     have r2 := cell_at 2 eR rfl
     have r3 := cell_at 3 eR rfl
     have r4 := cell_at 4 eR rfl
     have f0 := cell_at 0 eF rfl
     have f1 := cell_at 1 eF rfl
     have z0 := one_free 0 eR
     have z1 := one_free 1 eR
     have z2 := one_free 2 eR
     have z3 := one_free 3 eR
     have z4 := one_free 4 eR
     have y0 := one_free 0 eF
     have y1 := one_free 1 eF
     replace hBW := hB8
     clear eA eE hL8 hB8
     go_region
     go_wp2_with fail
     try rw [Exit.noGoto_ret]
     obtain ⟨W9, hW9, gr, gf, hk, hbl⟩ := end_world (W := W8) (B1 := w.heap.size + 1) (B2 := w.heap.size + 1 + 1) (by omega) (.string ⟨#[]⟩) (.string ⟨#[]⟩) (.string ⟨#[]⟩) (.slice none 0 0) (.slice none 0 0) (.int .i64 (((10 : Int), e)).1) (.int .i64 ((((10 : Int), e)).2 : Int)) eR eF
     rw [← hW9]
     refine fin9 _ [] W9.drew w.heap.size (w.heap.size + 1) (w.heap.size + 1 + 1) _ _ _ _ _ _ _ ⟨_, _, _, rfl⟩ ⟨_, _, _, rfl⟩ rfl rfl gr gf (by simp) (by simp) ?_
     exact fun W' h => ppost_err HP.out ((hBW.trans (hbl _ (by omega) (by omega))).drew) h

theorem Parse_any (s : ByteArray) (w : World) (hs : s.size ≤ 64) : Calls Tryz.prog 39 #[.string s] w (PPost s w) :=
 (callsIn_wide (n := 5)).1 (Parse_in s w hs)

end Go.Proofs.YtpdlgiioahjhiaaGreat
