/-
  Spans in memory; two rows of spans held against one another; counts.
-/
import Derived.Test.YtmpegkcleajhhaaDoorPl
namespace Go.Proofs.YtmpegkcleajhhaaDoor
open Go.RowKit Go.Shelf
set_option linter.unusedVariables false

def rowS (p : Sp) : List Value := [.int .i64 p.1, .int .i64 p.2]
/-- Spans as cells. -/
def flatS (s : List Sp) : List Value := s.flatMap rowS
theorem flatS_cons (x : Sp) (xs : List Sp) : flatS (x :: xs) = rowS x ++ flatS xs := rfl
theorem flatS_snoc (x : Sp) (xs : List Sp) : flatS (xs ++ [x]) = flatS xs ++ rowS x := by simp [flatS]
theorem flatS_len : ∀ xs : List Sp, (flatS xs).length = xs.length * 2
  | [] => rfl
  | x :: xs => by rw [flatS_cons, List.length_append, flatS_len xs, List.length_cons]; simp [rowS]; omega
theorem flatS_at : ∀ (xs : List Sp) (i : Nat) (x : Sp), xs[i]? = some x → (flatS xs)[i * 2]? = some (.int .i64 x.1) ∧ (flatS xs)[i * 2 + 1]? = some (.int .i64 x.2)
  | [], i, x, h => by simp at h
  | y :: xs, 0, x, h => by
    simp at h; subst h
    rw [flatS_cons]
    exact ⟨rfl, rfl⟩
  | y :: xs, i + 1, x, h => by
    have ih := flatS_at xs i x (by simpa using h)
    have hl : (rowS y).length = 2 := rfl
    have e : ∀ j, (flatS (y :: xs))[(i + 1) * 2 + j]? = (flatS xs)[i * 2 + j]? := fun j => by
      rw [flatS_cons, List.getElem?_append_right (by rw [hl]; omega), hl]
      congr 1; omega
    obtain ⟨h0, h1⟩ := ih
    exact ⟨(e 0).trans h0, (e 1).trans h1⟩
theorem flatS_set2 (xs : List Sp) (p : Sp) (hi : Int) (sp : List Value) : ((flatS (xs ++ [p])) ++ sp).set (xs.length * 2 + 1) (.int .i64 hi) = flatS (xs ++ [(p.1, hi)]) ++ sp := by
  rw [flatS_snoc, flatS_snoc, List.append_assoc, List.append_assoc, List.set_append_right _ _ (by rw [flatS_len]; omega), flatS_len]
  congr 1
  rw [show xs.length * 2 + 1 - xs.length * 2 = 1 by omega]
  rfl
/-- Spans lie in a block. -/
def SRow (W : World) (b off : Nat) (s : List Sp) : Prop := ∀ i (h : i < s.length), W.cell? ⟨b, off + i * 2, none⟩ = some (.int .i64 s[i].1) ∧ W.cell? ⟨b, off + i * 2 + 1, none⟩ = some (.int .i64 s[i].2)
theorem SRow.of_block {W W' : World} {b off : Nat} {s : List Sp} (h : SRow W b off s) (hb : W'.heap[b]? = W.heap[b]?) : SRow W' b off s := by
  intro i hi
  have := h i hi
  simp only [World.cell?] at this ⊢
  rw [hb]
  exact this
/-- A slice of spans in memory. -/
def Spans (W : World) (v : Value) (s : List Sp) : Prop :=
  ∃ a cap, v = .slice a s.length cap ∧ (s = [] ∨ ∃ b off, a = some ⟨b, off, none⟩ ∧ b < W.heap.size ∧ SRow W b off s)
theorem Spans.below {W W' : World} {v : Value} {s : List Sp} (h : Spans W v s) (hb : Below W.heap.size W W') : Spans W' v s := by
  obtain ⟨a, cap, hv, h0 | ⟨b, off, ha, hlt, hc⟩⟩ := h
  · exact ⟨a, cap, hv, .inl h0⟩
  · exact ⟨a, cap, hv, .inr ⟨b, off, ha, Nat.lt_of_lt_of_le hlt hb.size, hc.of_block (hb.block b hlt)⟩⟩
theorem Spans.at {W : World} {a : Option Addr} {n cap : Nat} {s : List Sp} (h : Spans W (.slice a n cap) s) : n = s.length ∧ (0 < s.length → ∃ b off, a = some ⟨b, off, none⟩ ∧ b < W.heap.size ∧ SRow W b off s) := by
  obtain ⟨a', cap', hv, h0⟩ := h
  cases hv
  refine ⟨rfl, fun hp => ?_⟩
  rcases h0 with h0 | h0
  · subst h0; simp at hp
  · exact h0
theorem Spans.nil (W : World) : Spans W (.slice none 0 0) [] := ⟨none, 0, rfl, .inl rfl⟩
theorem Spans.drewN {W : World} {v : Value} {s : List Sp} (h : Spans W v s) (n : Nat) : Spans (W.drewN n) v s := h.below (below_drewN _ _ _)
theorem cells_row {W : World} {b : Nat} {t : TypeId} {m : Nat × Nat} {s : List Sp} {sp : List Value} (h : W.heap[b]? = some (.cells (flatS s ++ sp).toArray t m)) : SRow W b 0 s := by
  intro i hi
  obtain ⟨h0, h1⟩ := flatS_at s i s[i] (List.getElem?_eq_getElem hi)
  have hl := flatS_len s
  have k : ∀ j v, j < (flatS s).length → (flatS s)[j]? = some v → (flatS s ++ sp).toArray[j]? = some v := fun j v hj hv => by
    rw [List.getElem?_toArray, List.getElem?_append_left hj]; exact hv
  have r0 := cell_at _ h (k _ _ (by omega) h0)
  have r1 := cell_at _ h (k _ _ (by omega) h1)
  exact ⟨by rw [Nat.zero_add]; exact r0, by rw [Nat.zero_add]; exact r1⟩
/-- A row of the call's own is a row of spans. -/
theorem own_spans {W : World} {base : Nat} {v : Value} {s : List Sp} (h : W.ownsRow base 45 2 v s.length (flatS s)) : Spans W v s := by
  rcases h.2 with ⟨rfl, h0⟩ | ⟨g, cap, cur, rfl, hg, hh, _, _, hsz, ht⟩
  · exact ⟨none, 0, by rw [h0], .inl (List.length_eq_zero_iff.1 h0)⟩
  · refine ⟨_, cap, rfl, .inr ⟨g, 0, rfl, (Array.getElem?_eq_some_iff.1 hh).1, ?_⟩⟩
    have e : cur.toList = flatS s ++ cur.toList.drop (s.length * 2) := by rw [← ht, List.take_append_drop]
    refine cells_row (sp := cur.toList.drop (s.length * 2)) (t := 45) (m := (0, 0)) ?_
    rw [← e]; simpa using hh

set_option maxRecDepth 100000 in
set_option maxHeartbeats 2000000 in
theorem Equal_any (va vb : Value) (xs ys : List Sp) (w : World) (hA : Spans w va xs) (hB : Spans w vb ys) (hl : xs.length ≤ 1000000000000000) :
    Calls Tryd.prog 42 #[va, vb] w fun e w' => e = .returned (.bool (decide (xs = ys))) ∧ Below w.heap.size w w' := by
  obtain ⟨aa, ca, rfl, hra⟩ := hA
  obtain ⟨ab, cb, rfl, hrb⟩ := hB
  have HA := hide hra
  have HB := hide hrb
  clear hra hrb
  by_cases hne : xs.length = ys.length
  · have hb : ((xs.length : Int) != (ys.length : Int)) = false := by simp [hne]
    go_enter Tryd.func42, Tryd.ntmps42
    go_wp2_with fail
    go_loopw [13] (fun x wr => ∃ i : Nat, i ≤ xs.length ∧ x = .int .i64 i ∧ Below w.heap.size w wr ∧ Hid (xs.take i = ys.take i)) (fun x _ => xs.length - (intOf x).toNat)
    case atStart => exact ⟨0, by omega, rfl, Below.refl _ _, rfl⟩
    case round =>
      obtain ⟨i, hi, rfl, hBw, hE⟩ := hrel
      by_cases hlt : i < xs.length
      · have hlt' : (i : Int) < (xs.length : Int) := by omega
        have hly : i < ys.length := by omega
        have hly' : (i : Int) < (ys.length : Int) := by omega
        obtain ⟨b, off, rfl, hlb, hc⟩ : ∃ b off, aa = some ⟨b, off, none⟩ ∧ b < w.heap.size ∧ SRow w b off xs := by
          rcases HA.out with h0 | h0
          · rw [h0] at hlt; simp at hlt
          · exact h0
        obtain ⟨b', off', rfl, hlb', hc'⟩ : ∃ b off, ab = some ⟨b, off, none⟩ ∧ b < w.heap.size ∧ SRow w b off ys := by
          rcases HB.out with h0 | h0
          · rw [h0] at hly; simp at hly
          · exact h0
        obtain ⟨c0, c1⟩ := (hc.of_block (hBw.block b hlb)) i hlt
        obtain ⟨d0, d1⟩ := (hc'.of_block (hBw.block b' hlb')) i hly
        clear hc hc'
        have HT : Hid (xs[i] = ys[i] → xs.take (i + 1) = ys.take (i + 1)) := by
          intro e
          rw [List.take_succ_eq_append_getElem hlt, List.take_succ_eq_append_getElem hly, hE.out, e]
        have HN : Hid (¬ xs[i] = ys[i] → ¬ xs = ys) := fun h e => h (by subst e; rfl)
        generalize xs[i] = x at *
        generalize ys[i] = y at *
        obtain ⟨x0, x1⟩ := x
        obtain ⟨y0, y1⟩ := y
        dsimp only at c0 c1 d0 d1
        clear hly
        by_cases h0 : x0 = y0
        · by_cases h1 : x1 = y1
          · have q0 : (x0 == y0) = true := by simp [h0]
            have q1 : (x1 == y1) = true := by simp [h1]
            have HE := hide (HT.out (by rw [h0, h1]))
            clear h0 h1 HT HN
            go_wp2_with fail
            go_quiet (fail)
            go_wp2_with fail
            go_roundw
            case rel => exact ⟨i + 1, by omega, by go_num, hBw.trans (below_drewN _ _ _), HE⟩
            case measure => simp [intOf]; omega
          · have q0 : (x0 == y0) = true := by simp [h0]
            have q1 : (x1 == y1) = false := by simp [h1]
            have HX := hide (HN.out (by simp [h1]))
            clear h0 h1 HT HN
            go_wp2_with fail
            go_quiet (fail)
            go_wp2_with fail
            go_ret
            exact ⟨by rw [decide_eq_false HX.out]; rfl, hBw.trans (below_drewN _ _ _)⟩
        · have q0 : (x0 == y0) = false := by simp [h0]
          have HX := hide (HN.out (by simp [h0]))
          clear h0 HT HN
          go_wp2_with fail
          go_quiet (fail)
          go_wp2_with fail
          go_ret
          exact ⟨by rw [decide_eq_false HX.out]; rfl, hBw.trans (below_drewN _ _ _)⟩
      · have hlt' : ¬ (i : Int) < (xs.length : Int) := by omega
        have HY : Hid (xs = ys) := by
          have := hE.out
          rwa [List.take_of_length_le (by omega), List.take_of_length_le (by omega)] at this
        go_wp2_with fail
        go_ret
        exact ⟨by rw [decide_eq_true HY.out]; rfl, hBw⟩
  · have hb : ((xs.length : Int) != (ys.length : Int)) = true := by simp; omega
    have HX : Hid (¬ xs = ys) := fun e => hne (by rw [e])
    go_enter Tryd.func42, Tryd.ntmps42
    go_wp2_with fail
    go_ret
    exact ⟨by rw [decide_eq_false HX.out]; rfl, Below.refl _ _⟩

set_option maxRecDepth 100000 in
set_option maxHeartbeats 2000000 in
theorem RSame_any (va vb : Value) (xs ys : List Sp) (w : World) (hA : Spans w va xs) (hB : Spans w vb ys) (hl : xs.length ≤ 1000000000000000) :
    Calls Tryd.prog 9 #[va, vb] w fun e w' => e = .returned (.bool (decide (xs = ys))) ∧ Below w.heap.size w w' := by
  obtain ⟨aa, ca, rfl, hra⟩ := hA
  obtain ⟨ab, cb, rfl, hrb⟩ := hB
  have HA := hide hra
  have HB := hide hrb
  clear hra hrb
  by_cases hne : xs.length = ys.length
  · have hb : ((xs.length : Int) != (ys.length : Int)) = false := by simp [hne]
    go_enter Tryd.func9, Tryd.ntmps9
    go_wp2_with fail
    go_loopw [5] (fun x wr => ∃ i : Nat, i ≤ xs.length ∧ x = .int .i64 i ∧ Below w.heap.size w wr ∧ Hid (xs.take i = ys.take i)) (fun x _ => xs.length - (intOf x).toNat)
    case atStart => exact ⟨0, by omega, rfl, Below.refl _ _, rfl⟩
    case round =>
      obtain ⟨i, hi, rfl, hBw, hE⟩ := hrel
      by_cases hlt : i < xs.length
      · have hlt' : (i : Int) < (xs.length : Int) := by omega
        have hly : i < ys.length := by omega
        have hly' : (i : Int) < (ys.length : Int) := by omega
        obtain ⟨b, off, rfl, hlb, hc⟩ : ∃ b off, aa = some ⟨b, off, none⟩ ∧ b < w.heap.size ∧ SRow w b off xs := by
          rcases HA.out with h0 | h0
          · rw [h0] at hlt; simp at hlt
          · exact h0
        obtain ⟨b', off', rfl, hlb', hc'⟩ : ∃ b off, ab = some ⟨b, off, none⟩ ∧ b < w.heap.size ∧ SRow w b off ys := by
          rcases HB.out with h0 | h0
          · rw [h0] at hly; simp at hly
          · exact h0
        obtain ⟨c0, c1⟩ := (hc.of_block (hBw.block b hlb)) i hlt
        obtain ⟨d0, d1⟩ := (hc'.of_block (hBw.block b' hlb')) i hly
        clear hc hc'
        have HT : Hid (xs[i] = ys[i] → xs.take (i + 1) = ys.take (i + 1)) := by
          intro e
          rw [List.take_succ_eq_append_getElem hlt, List.take_succ_eq_append_getElem hly, hE.out, e]
        have HN : Hid (¬ xs[i] = ys[i] → ¬ xs = ys) := fun h e => h (by subst e; rfl)
        generalize xs[i] = x at *
        generalize ys[i] = y at *
        obtain ⟨x0, x1⟩ := x
        obtain ⟨y0, y1⟩ := y
        dsimp only at c0 c1 d0 d1
        clear hly
        by_cases h0 : x0 = y0
        · by_cases h1 : x1 = y1
          · have q0 : (x0 == y0) = true := by simp [h0]
            have q1 : (x1 == y1) = true := by simp [h1]
            have HE := hide (HT.out (by rw [h0, h1]))
            clear h0 h1 HT HN
            go_wp2_with fail
            go_quiet (fail)
            go_wp2_with fail
            go_roundw
            case rel => exact ⟨i + 1, by omega, by go_num, hBw.trans (below_drewN _ _ _), HE⟩
            case measure => simp [intOf]; omega
          · have q0 : (x0 == y0) = true := by simp [h0]
            have q1 : (x1 == y1) = false := by simp [h1]
            have HX := hide (HN.out (by simp [h1]))
            clear h0 h1 HT HN
            go_wp2_with fail
            go_quiet (fail)
            go_wp2_with fail
            go_ret
            exact ⟨by rw [decide_eq_false HX.out]; rfl, hBw.trans (below_drewN _ _ _)⟩
        · have q0 : (x0 == y0) = false := by simp [h0]
          have HX := hide (HN.out (by simp [h0]))
          clear h0 HT HN
          go_wp2_with fail
          go_quiet (fail)
          go_wp2_with fail
          go_ret
          exact ⟨by rw [decide_eq_false HX.out]; rfl, hBw.trans (below_drewN _ _ _)⟩
      · have hlt' : ¬ (i : Int) < (xs.length : Int) := by omega
        have HY : Hid (xs = ys) := by
          have := hE.out
          rwa [List.take_of_length_le (by omega), List.take_of_length_le (by omega)] at this
        go_wp2_with fail
        go_ret
        exact ⟨by rw [decide_eq_true HY.out]; rfl, hBw⟩
  · have hb : ((xs.length : Int) != (ys.length : Int)) = true := by simp; omega
    have HX : Hid (¬ xs = ys) := fun e => hne (by rw [e])
    go_enter Tryd.func9, Tryd.ntmps9
    go_wp2_with fail
    go_ret
    exact ⟨by rw [decide_eq_false HX.out]; rfl, Below.refl _ _⟩

theorem Same_any (va vb : Value) (xs ys : List Sp) (w : World) (hA : Spans w va xs) (hB : Spans w vb ys) (hl : xs.length ≤ 1000000000000000) :
    Calls Tryd.prog 17 #[va, vb] w fun e w' => e = .returned (.bool (decide (xs = ys))) ∧ Below w.heap.size w w' := by
  have C := hide (Equal_any va vb xs ys w hA hB hl)
  clear hA hB hl
  generalize decide (xs = ys) = d at *
  go_enter Tryd.func17, Tryd.ntmps17
  go_wp2_with fail
  refine C.out.mono ?_
  rintro e w' ⟨rfl, hw'⟩
  go_wp2_with fail
  go_ret
  exact ⟨rfl, hw'⟩

/-- A count, brought between 0 and the most there are. -/
def cnt (n : Int) : Nat := (max 0 (min n 65536)).toNat
theorem cnt_le (n : Int) : cnt n ≤ 65536 := by unfold cnt; omega
theorem cnt_of (n : Int) (h0 : 0 ≤ n) (h1 : n ≤ 65536) : (cnt n : Int) = n := by unfold cnt; omega
theorem counted_any (n : Int) (w : World) : Calls Tryd.prog 39 #[.int .i64 n] w fun e w' => e = .returned (.int .i64 (cnt n)) ∧ w' = w := by
  go_enter Tryd.func39, Tryd.ntmps39
  go_wp2_with fail
  all_goals go_ret
  all_goals exact ⟨ret_i (by unfold cnt; omega), rfl⟩
theorem bounded_any (n : Int) (w : World) : Calls Tryd.prog 40 #[.int .i64 n] w fun e w' => e = .returned (.int .i64 (cnt n)) ∧ w' = w := by
  go_enter Tryd.func40, Tryd.ntmps40
  go_wp2_with fail
  all_goals go_ret
  all_goals exact ⟨ret_i (by unfold cnt; omega), rfl⟩

end Go.Proofs.YtmpegkcleajhhaaDoor
