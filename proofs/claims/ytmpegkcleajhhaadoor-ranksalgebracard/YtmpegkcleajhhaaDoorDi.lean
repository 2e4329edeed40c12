/-
  Walks: the iterator over where two sets begin and end.
-/
import Derived.Test.YtmpegkcleajhhaaDoorDh
namespace Go.Proofs.YtmpegkcleajhhaaDoor
open Go.RowKit Go.Shelf
set_option linter.unusedVariables false

attribute [local go_sem] Oper.semAt_some

theorem drop_edg {s : List Sp} {i : Nat} (h : i < 2 * s.length) : (flatE s).drop i = edgL s i :: (flatE s).drop (i + 1) := by
  have hi : i < (flatE s).length := by rw [flat_len]; exact h
  rw [List.drop_eq_getElem_cons hi]
  unfold edgL
  rw [List.getD_eq_getElem?_getD, List.getElem?_eq_getElem hi]
  rfl
theorem drop_edg_end {s : List Sp} {i : Nat} (h : ¬ i < 2 * s.length) : (flatE s).drop i = [] := List.drop_eq_nil_of_le (by rw [flat_len]; omega)
theorem edg_fin {s : List Sp} {i : Nat} (hs : ∀ x ∈ flatE s, x < 9223372036854775807) (h : i < 2 * s.length) : edgL s i < 9223372036854775807 := by
  have hi : i < (flatE s).length := by rw [flat_len]; exact h
  unfold edgL
  rw [List.getD_eq_getElem?_getD, List.getElem?_eq_getElem hi]
  exact hs _ (List.getElem_mem hi)
theorem rest_left {a b : List Sp} {i j : Nat} (ha : ∀ x ∈ flatE a, x < 9223372036854775807) (hb : ∀ x ∈ flatE b, x < 9223372036854775807) (h : i < 2 * a.length ∨ j < 2 * b.length) (hlt : edgL a i < edgL b j) :
    i < 2 * a.length ∧ edL ((flatE a).drop i) ((flatE b).drop j) = edgL a i :: edL ((flatE a).drop (i + 1)) ((flatE b).drop j) := by
  have hi : i < 2 * a.length := by
    rcases Nat.lt_or_ge i (2 * a.length) with h1 | h1
    · exact h1
    · have := edg_out a i h1
      rcases h with h2 | h2
      · omega
      · have := edg_fin hb h2; omega
  refine ⟨hi, ?_⟩
  rw [drop_edg hi]
  by_cases hj : j < 2 * b.length
  · rw [drop_edg hj, edL, if_pos hlt]
  · rw [drop_edg_end hj, edL_right, edL_right]
theorem rest_right {a b : List Sp} {i j : Nat} (ha : ∀ x ∈ flatE a, x < 9223372036854775807) (hb : ∀ x ∈ flatE b, x < 9223372036854775807) (h : i < 2 * a.length ∨ j < 2 * b.length) (hlt : edgL b j < edgL a i) :
    j < 2 * b.length ∧ edL ((flatE a).drop i) ((flatE b).drop j) = edgL b j :: edL ((flatE a).drop i) ((flatE b).drop (j + 1)) := by
  have hj : j < 2 * b.length := by
    rcases Nat.lt_or_ge j (2 * b.length) with h1 | h1
    · exact h1
    · have := edg_out b j h1
      rcases h with h2 | h2
      · have := edg_fin ha h2; omega
      · omega
  refine ⟨hj, ?_⟩
  rw [drop_edg hj]
  by_cases hi : i < 2 * a.length
  · rw [drop_edg hi, edL, if_neg (by omega), if_pos hlt]
  · rw [drop_edg_end hi, edL_nil, edL_nil]
theorem rest_both {a b : List Sp} {i j : Nat} (ha : ∀ x ∈ flatE a, x < 9223372036854775807) (hb : ∀ x ∈ flatE b, x < 9223372036854775807) (h : i < 2 * a.length ∨ j < 2 * b.length) (he : edgL a i = edgL b j) :
    i < 2 * a.length ∧ j < 2 * b.length ∧ edL ((flatE a).drop i) ((flatE b).drop j) = edgL b j :: edL ((flatE a).drop (i + 1)) ((flatE b).drop (j + 1)) := by
  have key : i < 2 * a.length ∧ j < 2 * b.length := by
    rcases Nat.lt_or_ge i (2 * a.length) with h1 | h1
    · rcases Nat.lt_or_ge j (2 * b.length) with h2 | h2
      · exact ⟨h1, h2⟩
      · have := edg_out b j h2; have := edg_fin ha h1; omega
    · have := edg_out a i h1
      rcases h with h2 | h2
      · omega
      · have := edg_fin hb h2; omega
  refine ⟨key.1, key.2, ?_⟩
  rw [drop_edg key.1, drop_edg key.2, edL, if_neg (by omega), if_neg (by omega), he]
theorem rest_end {a b : List Sp} {i j : Nat} (hi : ¬ i < 2 * a.length) (hj : ¬ j < 2 * b.length) : edL ((flatE a).drop i) ((flatE b).drop j) = [] := by
  rw [drop_edg_end hi, drop_edg_end hj, edL_nil]
/-- What lay in a world lies so in another. -/
def Low (w W : World) : Prop := ∀ k, k < w.heap.size → W.heap[k]? = w.heap[k]?
theorem Low.refl (w : World) : Low w w := fun _ _ => rfl
theorem Low.below {w W W' : World} (h : Low w W) (hb : Below W.heap.size W W') : Low w W' := fun k hk => by
  have h1 := h k hk
  rw [Array.getElem?_eq_getElem hk] at h1
  exact (hb.block k (Array.getElem?_eq_some_iff.1 h1).1).trans (h k hk)
theorem Low.ofBelow {w W : World} (h : Below w.heap.size w W) : Low w W := fun k hk => h.block k hk
theorem Low.spans {w W : World} {v : Value} {s : List Sp} (h : Low w W) (hs : Spans w v s) : Spans W v s := by
  obtain ⟨a, cap, hv, h0 | ⟨b, off, ha, hlt, hc⟩⟩ := hs
  · exact ⟨a, cap, hv, .inl h0⟩
  · refine ⟨a, cap, hv, .inr ⟨b, off, ha, ?_, hc.of_block (h b hlt)⟩⟩
    have h1 := h b hlt
    rw [Array.getElem?_eq_getElem hlt] at h1
    exact (Array.getElem?_eq_some_iff.1 h1).1
/-- What a round of a loop over the edges keeps. -/
def Kq (w : World) (A B : Nat) (W W' : World) : Prop := (∀ k, k < w.heap.size → W'.heap[k]? = W.heap[k]?) ∧ W'.heap[A]? = W.heap[A]? ∧ W'.heap[B]? = W.heap[B]?
theorem Kq.trans {w : World} {A B : Nat} {X Y Z : World} (h : Kq w A B X Y) (k : Kq w A B Y Z) : Kq w A B X Z := ⟨fun j hj => (k.1 j hj).trans (h.1 j hj), k.2.1.trans h.2.1, k.2.2.trans h.2.2⟩
theorem kq_b {w w1 : World} {A B : Nat} (h : w.heap.size ≤ w1.heap.size) (hA : A < w1.heap.size) (hB : B < w1.heap.size) : ∀ (W : World) (l : Nat) (o o' : Obj), w1.heap.size ≤ l → W.heap[l]? = some o → o.isCells = false → o.isWalk = false → Kq w A B W (W.putObj l o') :=
  fun W l o o' hl _ _ _ => ⟨fun k hk => World.putObj_heap_other (by omega), World.putObj_heap_other (by omega), World.putObj_heap_other (by omega)⟩
theorem Low.kq {w W W' : World} {A B : Nat} (h : Low w W) (k : Kq w A B W W') : Low w W' := fun j hj => (k.1 j hj).trans (h j hj)

theorem boxed_below {W W' : World} {A : Nat} {t : TypeId} {v : Value} (h : Boxed W A t v) (hb : Below W.heap.size W W') : Boxed W' A t v := (hb.block A h.lt).trans h
def edgesL (a b : List Sp) : List Int := edL (flatE a) (flatE b)

set_option maxRecDepth 100000 in
set_option maxHeartbeats 4000000 in
theorem edges1_in (n : Nat) (hn : 1 ≤ n) (l A B : Nat) (aa ab : Option Addr) (ca cb : Nat) (a b : List Sp) (w : World) (hA : Spans w (.slice aa a.length ca) a) (hB : Spans w (.slice ab b.length cb) b)
    (ha : ∀ x ∈ flatE a, x < 9223372036854775807) (hb : ∀ x ∈ flatE b, x < 9223372036854775807) (hla : a.length ≤ 1000000000000) (hlb : b.length ≤ 1000000000000)
    (J Jx : List Int → World → Prop) (B0 : Nat) (hJ : AbidesFrom B0 J)
    (hY : ∀ pre x W, J pre W → pre.length < (edgesL a b).length → YieldAt Fence.wide (n - 1) Tryd.prog l #[.int .i64 x] W fun e W' =>
      (e = .returned (.bool true) ∧ J (pre ++ [x]) W' ∧ Kq w A B W W') ∨ (e = .returned (.bool false) ∧ Jx (pre ++ [x]) W'))
    (W : World) (hLow : Low w W) (bA : Boxed W A 22 (.slice aa a.length ca)) (bB : Boxed W B 22 (.slice ab b.length cb)) (h0 : J [] W) :
    CallsIn Fence.wide n Tryd.prog 60 #[.func (.yield l) #[] #[], .pointer (some ⟨A, 0, none⟩), .pointer (some ⟨B, 0, none⟩)] W fun e W' => (∃ v, e = .returned v) ∧
      ((∃ ys : List Int, ys = edgesL a b ∧ J ys W') ∨ (∃ pre : List Int, pre <+: edgesL a b ∧ Jx pre W')) := by
  have HY := hide hY
  have HA := hide hA
  have HB := hide hB
  have Ha := hide ha
  have Hb := hide hb
  clear hY hA hB ha hb
  refine callsIn_of_wp Tryd.func60 rfl trivial ?_ rfl
  simp only [Tryd.ntmps60, List.size_toArray, List.length_cons, List.length_nil, Nat.reduceAdd, Nat.reduceSub, Array.replicate_succ, Array.replicate_zero, List.push_toArray, List.append_toArray, List.nil_append, List.cons_append]
  gi_wp2
  gi_loopw [4, 5] (fun x y wr => ∃ (i j : Nat) (pre : List Int), i ≤ 2 * a.length ∧ j ≤ 2 * b.length ∧ x = .int .i64 i ∧ y = .int .i64 j ∧ J pre wr ∧ Boxed wr A 22 (.slice aa a.length ca) ∧ Boxed wr B 22 (.slice ab b.length cb) ∧ Low w wr ∧ Hid (edgesL a b = pre ++ edL ((flatE a).drop i) ((flatE b).drop j)))
    (fun x y _ => 2 * a.length + 2 * b.length - (intOf x).toNat - (intOf y).toNat)
  case atStart => exact ⟨0, 0, [], by omega, by omega, rfl, rfl, h0, bA, bB, hLow, rfl⟩
  case round =>
    clear bA bB hLow
    obtain ⟨i, j, pre, hi, hj, rfl, rfl, hJs, bA, bB, hLow, HR⟩ := hrel
    have cA := bA.cell
    have cB := bB.cell
    by_cases hij : i < 2 * a.length ∨ j < 2 * b.length
    · have HL := hide (rest_left (i := i) (j := j) Ha.out Hb.out hij)
      have HG := hide (rest_right (i := i) (j := j) Ha.out Hb.out hij)
      have HE := hide (rest_both (i := i) (j := j) Ha.out Hb.out hij)
      have CA : Hid (∀ X, Below wr.heap.size wr X → Calls Tryd.prog 61 #[.slice aa a.length ca, .int .i64 i] X fun e w' => e = .returned (.int .i64 (edgL a i)) ∧ Below X.heap.size X w') := fun X hX => edge_any _ a i X ((hLow.below hX).spans HA.out) hla (by omega)
      have CB : Hid (∀ X, Below wr.heap.size wr X → Calls Tryd.prog 61 #[.slice ab b.length cb, .int .i64 j] X fun e w' => e = .returned (.int .i64 (edgL b j)) ∧ Below X.heap.size X w') := fun X hX => edge_any _ b j X ((hLow.below hX).spans HB.out) hlb (by omega)
      generalize edgL a i = x at *
      generalize edgL b j = y at *
      have hB0 : Below wr.heap.size wr wr.drew := below_drewN _ wr 1
      by_cases hi' : i < 2 * a.length
      · have hi2 : (i : Int) < 2 * (a.length : Int) := by omega
        gi_wp2
        refine wpIn_wide.2 ?_
        go_region_held3 (fun w' => w'.cell? ⟨A, 0, none⟩ = some (.slice aa a.length ca) ∧ w'.cell? ⟨B, 0, none⟩ = some (.slice ab b.length cb)) (go_keep)
          ((first
            | (go_at_call 61; (with_reducible refine (CA.out _ hB1).mono ?_); rintro e w2 ⟨rfl, b2⟩; have hB2 : Below wr.heap.size wr w2 := hB1.trans (b2.mono hB1.size); have kA2 := (boxed_below bA hB2).cell; have kB2 := (boxed_below bB hB2).cell)
            | (go_at_call 61; (with_reducible refine (CB.out _ hB1).mono ?_); rintro e w2 ⟨rfl, b2⟩; have hB2 : Below wr.heap.size wr w2 := hB1.trans (b2.mono hB1.size); have kA2 := (boxed_below bA hB2).cell; have kB2 := (boxed_below bB hB2).cell)
            | (go_at_call 61; (with_reducible refine (CA.out _ hB0).mono ?_); rintro e w1 ⟨rfl, b1⟩; have hB1 : Below wr.heap.size wr w1 := hB0.trans (b1.mono hB0.size); have kA1 := (boxed_below bA hB1).cell; have kB1 := (boxed_below bB hB1).cell)
            | (go_at_call 61; (with_reducible refine (CB.out _ hB0).mono ?_); rintro e w1 ⟨rfl, b1⟩; have hB1 : Below wr.heap.size wr w1 := hB0.trans (b1.mono hB0.size); have kA1 := (boxed_below bA hB1).cell; have kB1 := (boxed_below bB hB1).cell)
            | fail))
        all_goals
          have hJ2 : J pre w2 := hJ pre wr w2 none hJs (below_grown hB2) (fun r e => by cases e)
          have bA2 := boxed_below bA hB2
          have bB2 := boxed_below bB hB2
          have hLow2 := hLow.below hB2
          clear cA cB hJs bA bB hLow hB0 hB1 hB2 kA1 kB1 kA2 kB2 b1 b2 CA CB
          rcases Int.lt_trichotomy x y with hxy | hxy | hxy
          · obtain ⟨hin, hst⟩ := HL.out hxy
            have hxy' : ¬ y < x := by omega
            have q1 : (x == x) = true := by simp
            have q2 : (y == x) = false := by simp; omega
            have HST := hide hst
            clear hst HL HG HE
            have Y0 := hide (HY.out pre x)
            have HLT : Hid (pre.length < (edgesL a b).length) := by show _ < _; rw [HR.out, HST.out]; simp
            obtain ⟨fn, tmps, assign, body, hy, hR⟩ := Y0.out _ hJ2 HLT.out
            gi_wp2
            refine hR.mono ?_
            rintro e' W5 (⟨rfl, hJ5, hK5⟩ | ⟨rfl, hJx5⟩)
            · have bA5 : Boxed W5 A 22 (.slice aa a.length ca) := hK5.2.1.trans bA2
              have bB5 : Boxed W5 B 22 (.slice ab b.length cb) := hK5.2.2.trans bB2
              have hLow5 := hLow2.kq hK5
              gi_wp2
              go_roundw
              case rel => exact ⟨i + 1, j, pre ++ [x], by omega, by omega, by go_num, rfl, hJ5, bA5, bB5, hLow5, by show _ = _; rw [HR.out, HST.out]; simp⟩
              case measure => simp [intOf]; omega
            · gi_wp2
              refine bodyPost_ret (results_none rfl _ _ _) rfl ?_
              exact ⟨⟨_, rfl⟩, .inr ⟨pre ++ [x], by rw [HR.out, HST.out]; exact ⟨_, by simp; rfl⟩, hJx5⟩⟩
          · obtain ⟨hin, hjn, hst⟩ := HE.out hxy
            subst hxy
            have hxy' : ¬ x < x := by omega
            have q2 : (x == x) = true := by simp
            have HST := hide hst
            clear hst HL HG HE
            have Y0 := hide (HY.out pre x)
            have HLT : Hid (pre.length < (edgesL a b).length) := by show _ < _; rw [HR.out, HST.out]; simp
            obtain ⟨fn, tmps, assign, body, hy, hR⟩ := Y0.out _ hJ2 HLT.out
            gi_wp2
            refine hR.mono ?_
            rintro e' W5 (⟨rfl, hJ5, hK5⟩ | ⟨rfl, hJx5⟩)
            · have bA5 : Boxed W5 A 22 (.slice aa a.length ca) := hK5.2.1.trans bA2
              have bB5 : Boxed W5 B 22 (.slice ab b.length cb) := hK5.2.2.trans bB2
              have hLow5 := hLow2.kq hK5
              gi_wp2
              go_roundw
              case rel => exact ⟨i + 1, j + 1, pre ++ [x], by omega, by omega, by go_num, by go_num, hJ5, bA5, bB5, hLow5, by show _ = _; rw [HR.out, HST.out]; simp⟩
              case measure => simp [intOf]; omega
            · gi_wp2
              refine bodyPost_ret (results_none rfl _ _ _) rfl ?_
              exact ⟨⟨_, rfl⟩, .inr ⟨pre ++ [x], by rw [HR.out, HST.out]; exact ⟨_, by simp; rfl⟩, hJx5⟩⟩
          · obtain ⟨hjn, hst⟩ := HG.out hxy
            have hxy' : ¬ x < y := by omega
            have q1 : (x == y) = false := by simp; omega
            have q2 : (y == y) = true := by simp
            have HST := hide hst
            clear hst HL HG HE
            have Y0 := hide (HY.out pre y)
            have HLT : Hid (pre.length < (edgesL a b).length) := by show _ < _; rw [HR.out, HST.out]; simp
            obtain ⟨fn, tmps, assign, body, hy, hR⟩ := Y0.out _ hJ2 HLT.out
            gi_wp2
            refine hR.mono ?_
            rintro e' W5 (⟨rfl, hJ5, hK5⟩ | ⟨rfl, hJx5⟩)
            · have bA5 : Boxed W5 A 22 (.slice aa a.length ca) := hK5.2.1.trans bA2
              have bB5 : Boxed W5 B 22 (.slice ab b.length cb) := hK5.2.2.trans bB2
              have hLow5 := hLow2.kq hK5
              gi_wp2
              go_roundw
              case rel => exact ⟨i, j + 1, pre ++ [y], by omega, by omega, rfl, by go_num, hJ5, bA5, bB5, hLow5, by show _ = _; rw [HR.out, HST.out]; simp⟩
              case measure => simp [intOf]; omega
            · gi_wp2
              refine bodyPost_ret (results_none rfl _ _ _) rfl ?_
              exact ⟨⟨_, rfl⟩, .inr ⟨pre ++ [y], by rw [HR.out, HST.out]; exact ⟨_, by simp; rfl⟩, hJx5⟩⟩
      · have hi2 : ¬ (i : Int) < 2 * (a.length : Int) := by omega
        have hj2 : (j : Int) < 2 * (b.length : Int) := by omega
        gi_wp2
        refine wpIn_wide.2 ?_
        go_region_held3 (fun w' => w'.cell? ⟨A, 0, none⟩ = some (.slice aa a.length ca) ∧ w'.cell? ⟨B, 0, none⟩ = some (.slice ab b.length cb)) (go_keep)
          ((first
            | (go_at_call 61; (with_reducible refine (CA.out _ hB1).mono ?_); rintro e w2 ⟨rfl, b2⟩; have hB2 : Below wr.heap.size wr w2 := hB1.trans (b2.mono hB1.size); have kA2 := (boxed_below bA hB2).cell; have kB2 := (boxed_below bB hB2).cell)
            | (go_at_call 61; (with_reducible refine (CB.out _ hB1).mono ?_); rintro e w2 ⟨rfl, b2⟩; have hB2 : Below wr.heap.size wr w2 := hB1.trans (b2.mono hB1.size); have kA2 := (boxed_below bA hB2).cell; have kB2 := (boxed_below bB hB2).cell)
            | (go_at_call 61; (with_reducible refine (CA.out _ hB0).mono ?_); rintro e w1 ⟨rfl, b1⟩; have hB1 : Below wr.heap.size wr w1 := hB0.trans (b1.mono hB0.size); have kA1 := (boxed_below bA hB1).cell; have kB1 := (boxed_below bB hB1).cell)
            | (go_at_call 61; (with_reducible refine (CB.out _ hB0).mono ?_); rintro e w1 ⟨rfl, b1⟩; have hB1 : Below wr.heap.size wr w1 := hB0.trans (b1.mono hB0.size); have kA1 := (boxed_below bA hB1).cell; have kB1 := (boxed_below bB hB1).cell)
            | fail))
        all_goals
          have hJ2 : J pre w2 := hJ pre wr w2 none hJs (below_grown hB2) (fun r e => by cases e)
          have bA2 := boxed_below bA hB2
          have bB2 := boxed_below bB hB2
          have hLow2 := hLow.below hB2
          clear cA cB hJs bA bB hLow hB0 hB1 hB2 kA1 kB1 kA2 kB2 b1 b2 CA CB
          rcases Int.lt_trichotomy x y with hxy | hxy | hxy
          · obtain ⟨hin, hst⟩ := HL.out hxy
            have hxy' : ¬ y < x := by omega
            have q1 : (x == x) = true := by simp
            have q2 : (y == x) = false := by simp; omega
            have HST := hide hst
            clear hst HL HG HE
            have Y0 := hide (HY.out pre x)
            have HLT : Hid (pre.length < (edgesL a b).length) := by show _ < _; rw [HR.out, HST.out]; simp
            obtain ⟨fn, tmps, assign, body, hy, hR⟩ := Y0.out _ hJ2 HLT.out
            gi_wp2
            refine hR.mono ?_
            rintro e' W5 (⟨rfl, hJ5, hK5⟩ | ⟨rfl, hJx5⟩)
            · have bA5 : Boxed W5 A 22 (.slice aa a.length ca) := hK5.2.1.trans bA2
              have bB5 : Boxed W5 B 22 (.slice ab b.length cb) := hK5.2.2.trans bB2
              have hLow5 := hLow2.kq hK5
              gi_wp2
              go_roundw
              case rel => exact ⟨i + 1, j, pre ++ [x], by omega, by omega, by go_num, rfl, hJ5, bA5, bB5, hLow5, by show _ = _; rw [HR.out, HST.out]; simp⟩
              case measure => simp [intOf]; omega
            · gi_wp2
              refine bodyPost_ret (results_none rfl _ _ _) rfl ?_
              exact ⟨⟨_, rfl⟩, .inr ⟨pre ++ [x], by rw [HR.out, HST.out]; exact ⟨_, by simp; rfl⟩, hJx5⟩⟩
          · obtain ⟨hin, hjn, hst⟩ := HE.out hxy
            subst hxy
            have hxy' : ¬ x < x := by omega
            have q2 : (x == x) = true := by simp
            have HST := hide hst
            clear hst HL HG HE
            have Y0 := hide (HY.out pre x)
            have HLT : Hid (pre.length < (edgesL a b).length) := by show _ < _; rw [HR.out, HST.out]; simp
            obtain ⟨fn, tmps, assign, body, hy, hR⟩ := Y0.out _ hJ2 HLT.out
            gi_wp2
            refine hR.mono ?_
            rintro e' W5 (⟨rfl, hJ5, hK5⟩ | ⟨rfl, hJx5⟩)
            · have bA5 : Boxed W5 A 22 (.slice aa a.length ca) := hK5.2.1.trans bA2
              have bB5 : Boxed W5 B 22 (.slice ab b.length cb) := hK5.2.2.trans bB2
              have hLow5 := hLow2.kq hK5
              gi_wp2
              go_roundw
              case rel => exact ⟨i + 1, j + 1, pre ++ [x], by omega, by omega, by go_num, by go_num, hJ5, bA5, bB5, hLow5, by show _ = _; rw [HR.out, HST.out]; simp⟩
              case measure => simp [intOf]; omega
            · gi_wp2
              refine bodyPost_ret (results_none rfl _ _ _) rfl ?_
              exact ⟨⟨_, rfl⟩, .inr ⟨pre ++ [x], by rw [HR.out, HST.out]; exact ⟨_, by simp; rfl⟩, hJx5⟩⟩
          · obtain ⟨hjn, hst⟩ := HG.out hxy
            have hxy' : ¬ x < y := by omega
            have q1 : (x == y) = false := by simp; omega
            have q2 : (y == y) = true := by simp
            have HST := hide hst
            clear hst HL HG HE
            have Y0 := hide (HY.out pre y)
            have HLT : Hid (pre.length < (edgesL a b).length) := by show _ < _; rw [HR.out, HST.out]; simp
            obtain ⟨fn, tmps, assign, body, hy, hR⟩ := Y0.out _ hJ2 HLT.out
            gi_wp2
            refine hR.mono ?_
            rintro e' W5 (⟨rfl, hJ5, hK5⟩ | ⟨rfl, hJx5⟩)
            · have bA5 : Boxed W5 A 22 (.slice aa a.length ca) := hK5.2.1.trans bA2
              have bB5 : Boxed W5 B 22 (.slice ab b.length cb) := hK5.2.2.trans bB2
              have hLow5 := hLow2.kq hK5
              gi_wp2
              go_roundw
              case rel => exact ⟨i, j + 1, pre ++ [y], by omega, by omega, rfl, by go_num, hJ5, bA5, bB5, hLow5, by show _ = _; rw [HR.out, HST.out]; simp⟩
              case measure => simp [intOf]; omega
            · gi_wp2
              refine bodyPost_ret (results_none rfl _ _ _) rfl ?_
              exact ⟨⟨_, rfl⟩, .inr ⟨pre ++ [y], by rw [HR.out, HST.out]; exact ⟨_, by simp; rfl⟩, hJx5⟩⟩
    · have hi2 : ¬ (i : Int) < 2 * (a.length : Int) := by omega
      have hj2 : ¬ (j : Int) < 2 * (b.length : Int) := by omega
      have HX := hide (rest_end (a := a) (b := b) (i := i) (j := j) (by omega) (by omega))
      gi_wp2
      go_end0
      exact ⟨⟨_, rfl⟩, .inl (by rw [HR.out, HX.out, List.append_nil]; exact hJs)⟩

theorem edges_stops (n : Nat) (hn : 1 ≤ n) (A B : Nat) (aa ab : Option Addr) (ca cb : Nat) (a b : List Sp) (w w1 : World) (hA : Spans w (.slice aa a.length ca) a) (hB : Spans w (.slice ab b.length cb) b)
    (ha : ∀ x ∈ flatE a, x < 9223372036854775807) (hb : ∀ x ∈ flatE b, x < 9223372036854775807) (hla : a.length ≤ 1000000000000) (hlb : b.length ≤ 1000000000000) (hLow : Low w w1) (hz : w.heap.size ≤ w1.heap.size) (bA : Boxed w1 A 22 (.slice aa a.length ca)) (bB : Boxed w1 B 22 (.slice ab b.length cb)) :
    SeqStopsK Fence.wide n Tryd.prog 60 #[.pointer (some ⟨A, 0, none⟩), .pointer (some ⟨B, 0, none⟩)] (fun x : Int => #[.int .i64 x]) (Kq w A B) (fun ys => ys = edgesL a b) (fun pre => pre <+: edgesL a b) (edgesL a b).length w1 := fun l J Jx W hW hJ _ hY h0 =>
  edges1_in n hn l A B aa ab ca cb a b w hA hB ha hb hla hlb J Jx W.heap.size hJ hY W (fun k hk => (hW.block k (by omega)).trans (hLow k hk)) ((hW.block A bA.lt).trans bA) ((hW.block B bB.lt).trans bB) h0

theorem edges_any (aa ab : Option Addr) (na nb ca cb : Nat) (w : World) :
    Calls Tryd.prog 53 #[.slice aa na ca, .slice ab nb cb] w fun e w' => e = .returned (.func (.func 60) #[] #[.pointer (some ⟨w.heap.size, 0, none⟩), .pointer (some ⟨w.heap.size + 1, 0, none⟩)]) ∧ w' = (w.alloc (.cells #[.slice aa na ca] 22)).alloc (.cells #[.slice ab nb cb] 22) := by
  go_enter Tryd.func53, Tryd.ntmps53
  go_wp2
  go_ret
  exact ⟨rfl, rfl⟩

end Go.Proofs.YtmpegkcleajhhaaDoor
