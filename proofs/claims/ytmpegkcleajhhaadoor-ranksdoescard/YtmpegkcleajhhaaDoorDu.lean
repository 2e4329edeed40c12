/-
  Walks: a copy; two rows of numbers held against one another; the ranks of a set and its text: the document.
-/
import Derived.Test.YtmpegkcleajhhaaDoorDn
import Derived.Test.YtmpegkcleajhhaaDoorDo
namespace Go.Proofs.YtmpegkcleajhhaaDoor
open Go.RowKit Go.Shelf
set_option linter.unusedVariables false

theorem rowS_all (s : List Sp) : ∀ u ∈ flatS s, u.oneCell' = true := by
  intro u hu
  obtain ⟨p, _, hp⟩ := List.mem_flatMap.1 hu
  exact rowS_one p u hp
theorem srow_add {W : World} {b off : Nat} {s : List Sp} (h : SRow W b off s) : ∀ j u, (flatS s)[j]? = some u → W.cell? ((⟨b, off, none⟩ : Addr).add j) = some u := by
  intro j u hj
  have hl := (List.getElem?_eq_some_iff.1 hj).1
  rw [flatS_len] at hl
  have hi : j / 2 < s.length := by omega
  obtain ⟨h0, h1⟩ := h (j / 2) hi
  obtain ⟨g0, g1⟩ := flatS_at s (j / 2) s[j / 2] (List.getElem?_eq_getElem hi)
  have ea : (Addr.add ⟨b, off, none⟩ j) = ⟨b, off + j, none⟩ := by
    by_cases e0 : j = 0
    · subst e0; rfl
    · simp [Addr.add, e0]
  rw [ea]
  rcases Nat.mod_two_eq_zero_or_one j with h2 | h2
  · have e : j / 2 * 2 = j := by omega
    rw [e] at g0 h0
    rw [g0] at hj
    cases hj
    exact h0
  · have e : j / 2 * 2 + 1 = j := by omega
    rw [e] at g1
    rw [Nat.add_assoc, e] at h1
    rw [g1] at hj
    cases hj
    exact h1

set_option maxRecDepth 100000 in
theorem copied_any (v : Value) (s : List Sp) (w : World) (hA : Spans w v s) (hl : s.length ≤ 65536) (hnil : ∀ n c, v = .slice none n c → c = 0) : Calls Tryd.prog 18 #[v] w (SetPost s w) := by
  obtain ⟨i0, hi, hz0, hz1, hz2⟩ := info_parts Tryd.info45
  obtain ⟨aa, ca, rfl, hra⟩ := hA
  have own0 : (w.alloc (.cells #[] 45)).ownsRow w.heap.size 45 2 (.slice (some ⟨w.heap.size, 0, none⟩) 0 0) 0 [] := ⟨rfl, .inr ⟨w.heap.size, 0, #[], rfl, Nat.le_refl _, World.alloc_heap_new w _, Nat.le_refl _, by unfold maxLen; omega, rfl, rfl⟩⟩
  have b0 : Below w.heap.size w (w.alloc (.cells #[] 45)) := (Below.refl _ w).alloc (Nat.le_refl _) _
  have HO := hide own0
  clear own0
  cases aa with
  | none =>
    have hs : s = [] := by rcases hra with h | ⟨b, off, h, _⟩; exact h; cases h
    subst hs
    obtain rfl := hnil _ _ rfl
    go_enter Tryd.func18, Tryd.ntmps18
    go_wp2_with (at_builtin; refine wpList_append_own_none rfl (.tmp 3) (.tmp 4) 22 rfl w.heap.size 45 i0 2 Tryd.underlying22 hi _ 0 _ rfl HO.out rfl ?_)
    go_ret
    exact ⟨_, rfl, own_spans (s := []) HO.out, b0⟩
  | some ad =>
    go_enter Tryd.func18, Tryd.ntmps18
    by_cases h0 : s = []
    · subst h0
      go_wp2_with (at_builtin; refine wpList_append_own _ rfl (.tmp 3) (.tmp 4) 22 rfl w.heap.size 45 i0 (.agg #[.int .i64 0, .int .i64 0]) 2 16 Tryd.underlying22 hi hz0 hz1 hz2 rfl (by decide) _ _ _ rfl HO.out ad 0 ca [] rfl rfl (fun j u h => by simp at h) (fun u h => by cases h) (by decide) (by decide) (by simp) ?_; intro v' w3 own1 grow1 _)
      go_ret
      exact ⟨v', rfl, own_spans (s := []) own1, b0.trans (below_own HO.out (by simp) grow1)⟩
    · obtain ⟨b, off, hab, hlb, hc⟩ : ∃ b off, some ad = some ⟨b, off, none⟩ ∧ b < w.heap.size ∧ SRow w b off s := by
        rcases hra with h1 | h1
        · exact absurd h1 h0
        · exact h1
      cases hab
      have HC := hide (srow_add (hc.of_block (b0.block b hlb)))
      go_wp2_with (at_builtin; refine wpList_append_own _ rfl (.tmp 3) (.tmp 4) 22 rfl w.heap.size 45 i0 (.agg #[.int .i64 0, .int .i64 0]) 2 16 Tryd.underlying22 hi hz0 hz1 hz2 rfl (by decide) _ _ _ rfl HO.out ⟨b, off, none⟩ s.length ca (flatS s) rfl (flatS_len s) HC.out (rowS_all s) (by unfold maxLen; omega) (by omega) (by simp) ?_; intro v' w3 own1 grow1 _)
      go_ret
      refine ⟨v', rfl, ?_, b0.trans (below_own HO.out (by simp) grow1)⟩
      have := own1
      simp only [Nat.zero_add, List.nil_append] at this
      exact own_spans this

set_option maxRecDepth 100000 in
set_option maxHeartbeats 2000000 in
theorem ints_any (va vb : Value) (xs ys : List Int) (w : World) (hA : Ints w va xs) (hB : Ints w vb ys) (hl : xs.length ≤ 1000000000000000) :
    Calls Tryd.prog 29 #[va, vb] w fun e w' => e = .returned (.bool (decide (xs = ys))) ∧ Below w.heap.size w w' := by
  obtain ⟨aa, ca, rfl, hra⟩ := hA
  obtain ⟨ab, cb, rfl, hrb⟩ := hB
  have HA := hide hra
  have HB := hide hrb
  clear hra hrb
  by_cases hne : xs.length = ys.length
  · have hb : ((xs.length : Int) != (ys.length : Int)) = false := by simp [hne]
    go_enter Tryd.func29, Tryd.ntmps29
    go_wp2_with fail
    go_loopw [13] (fun x wr => ∃ i : Nat, i ≤ xs.length ∧ x = .int .i64 i ∧ Below w.heap.size w wr ∧ Hid (xs.take i = ys.take i)) (fun x _ => xs.length - (intOf x).toNat)
    case atStart => exact ⟨0, by omega, rfl, Below.refl _ _, rfl⟩
    case round =>
      obtain ⟨i, hi, rfl, hBw, hE⟩ := hrel
      by_cases hlt : i < xs.length
      · have hlt' : (i : Int) < (xs.length : Int) := by omega
        have hly : i < ys.length := by omega
        have hly' : (i : Int) < (ys.length : Int) := by omega
        obtain ⟨b, off, rfl, hlb, hc⟩ : ∃ b off, aa = some ⟨b, off, none⟩ ∧ b < w.heap.size ∧ ∀ i (h : i < xs.length), w.cell? ⟨b, off + i, none⟩ = some (.int .i64 xs[i]) := by
          rcases HA.out with h0 | h0
          · rw [h0] at hlt; simp at hlt
          · exact h0
        obtain ⟨b', off', rfl, hlb', hc'⟩ : ∃ b off, ab = some ⟨b, off, none⟩ ∧ b < w.heap.size ∧ ∀ i (h : i < ys.length), w.cell? ⟨b, off + i, none⟩ = some (.int .i64 ys[i]) := by
          rcases HB.out with h0 | h0
          · rw [h0] at hly; simp at hly
          · exact h0
        have c0 : wr.cell? ⟨b, off + i, none⟩ = some (.int .i64 xs[i]) := by rw [← hc i hlt]; simp only [World.cell?]; rw [hBw.block b hlb]
        have d0 : wr.cell? ⟨b', off' + i, none⟩ = some (.int .i64 ys[i]) := by rw [← hc' i hly]; simp only [World.cell?]; rw [hBw.block b' hlb']
        clear hc hc'
        have HT : Hid (xs[i] = ys[i] → xs.take (i + 1) = ys.take (i + 1)) := by
          intro e
          rw [List.take_succ_eq_append_getElem hlt, List.take_succ_eq_append_getElem hly, hE.out, e]
        have HN : Hid (¬ xs[i] = ys[i] → ¬ xs = ys) := fun h e => h (by subst e; rfl)
        generalize xs[i] = x at *
        generalize ys[i] = y at *
        clear hly
        by_cases h0 : x = y
        · have q0 : (x != y) = false := by simp [h0]
          have HE := hide (HT.out h0)
          clear h0 HT HN
          go_wp2_with fail
          go_quiet (fail)
          go_wp2_with fail
          go_roundw
          case rel => exact ⟨i + 1, by omega, by go_num, hBw.trans (below_drewN _ _ _), HE⟩
          case measure => simp [intOf]; omega
        · have q0 : (x != y) = true := by simp [h0]
          have HX := hide (HN.out h0)
          clear h0 HT HN
          go_wp2_with fail
          go_quiet (fail)
          go_wp2_with fail
          go_ret
          exact ⟨by rw [decide_eq_false HX.out]; rfl, hBw.trans (below_drewN _ _ _)⟩
      · have hlt' : ¬ (i : Int) < (xs.length : Int) := by omega
        have HY : Hid (xs = ys) := by
          have := hE.out
          rwa [List.take_of_length_le (by omega), List.take_of_length_le (by omega)] at this
        go_wp2_with fail
        go_ret
        exact ⟨by rw [decide_eq_true HY.out]; rfl, hBw⟩
  · have hb : ((xs.length : Int) != (ys.length : Int)) = true := by simp; omega
    have HX : Hid (¬ xs = ys) := fun e => hne (by rw [e])
    go_enter Tryd.func29, Tryd.ntmps29
    go_wp2_with fail
    go_ret
    exact ⟨by rw [decide_eq_false HX.out]; rfl, Below.refl _ _⟩

set_option maxRecDepth 100000 in
set_option maxHeartbeats 4000000 in
theorem RList_any (n : Int) (v : Value) (s : List Sp) (w : World) (hA : Spans w v s) (hf : fitL n s = true) :
    Calls Tryd.prog 31 #[v] w fun e w' => ∃ v', e = .returned v' ∧ Ints w' v' (listL s) ∧ Below w.heap.size w w' := by
  have hl := fit_len hf
  have hf' := fitL_iff.1 hf
  have HB : Hid (∀ p ∈ s, 0 ≤ p.1 ∧ p.1 < p.2 ∧ p.2 ≤ 65536) := fun p hp => by have := fitF_mem hf'.2.2 p hp; omega
  have HCB := hide (fun k => count_bound (fitL_take k hf))
  have HLL := hide (fun k => list_len (fitL_take k hf))
  clear hf hf'
  obtain ⟨aa, ca, rfl, hra⟩ := hA
  have HA := hide hra
  clear hra
  go_enter Tryd.func31, Tryd.ntmps31
  go_wp2_with fail
  go_loopw [3, 4] (fun x y wr => ∃ k : Nat, k ≤ s.length ∧ y = .int .i64 k ∧ wr.ownsRow w.heap.size 3 1 x (listL (s.take k)).length (flatI (listL (s.take k))) ∧ Below w.heap.size w wr) (fun _ y _ => s.length - (intOf y).toNat)
  case atStart => exact ⟨0, by omega, rfl, World.ownsRow_nil _ _ _ _, Below.refl _ _⟩
  case round =>
    obtain ⟨k, hk, rfl, hO, hBw⟩ := hrel
    by_cases hlt : k < s.length
    · have hlt' : (k : Int) < (s.length : Int) := by omega
      obtain ⟨b, off, rfl, hlb, hc⟩ : ∃ b off, aa = some ⟨b, off, none⟩ ∧ b < w.heap.size ∧ SRow w b off s := by
        rcases HA.out with h0 | h0
        · rw [h0] at hlt; simp at hlt
        · exact h0
      obtain ⟨c0, c1⟩ := hc k hlt
      have HN := hide (list_take s k hlt)
      have hbd := HB.out s[k] (List.getElem_mem hlt)
      have hcb := HCB.out k
      have hll := HLL.out k
      clear hc
      generalize s[k] = p at *
      obtain ⟨x0, x1⟩ := p
      dsimp only at c0 c1 hbd HN
      generalize listL (s.take k) = L at *
      generalize countL (s.take k) = cc at *
      have hLl : L.length ≤ 70000 := by omega
      obtain ⟨D, hD⟩ : ∃ D : Nat, x1 - x0 = (D : Int) := ⟨(x1 - x0).toNat, by omega⟩
      have HN2 : Hid (listL (s.take (k + 1)) = L ++ upL x0 D) := by show _ = _; rw [HN.out, hD, Int.toNat_natCast]
      clear HN
      have d0 : wr.cell? ⟨b, off + k * 2, none⟩ = some (.int .i64 x0) := by rw [← c0]; simp only [World.cell?]; rw [hBw.block b hlb]
      go_wp2_with fail
      clear d0
      go_loopw [3, 5] (fun x y ws => ∃ q : Nat, q ≤ D ∧ y = .int .i64 (x0 + q) ∧ ws.ownsRow w.heap.size 3 1 x (L ++ upL x0 q).length (flatI (L ++ upL x0 q)) ∧ Below w.heap.size w ws) (fun _ y _ => D - (intOf y - x0).toNat)
      case atStart => exact ⟨0, by omega, by simp, by simpa [upL] using hO, hBw⟩
      case round =>
        clear hO hBw
        obtain ⟨q, hq, rfl, hO2, hB2⟩ := hrel
        have d1 : wr.cell? ⟨b, off + k * 2 + 1, none⟩ = some (.int .i64 x1) := by rw [← c1]; simp only [World.cell?]; rw [hB2.block b hlb]
        by_cases hqD : q < D
        · have hqx : x0 + (q : Int) < x1 := by omega
          have hLq : (L ++ upL x0 q).length ≤ 200000 := by rw [List.length_append, up_len]; omega
          have HU := hide (up_next L x0 q)
          generalize L ++ upL x0 q = M at *
          have hwz2 : w.heap.size ≤ wr.heap.size := hB2.size
          go_wp2_with (at_builtin; refine app_int rfl (.tmp 26) (.tmp 28) rfl w.heap.size _ M rfl hO2 (x0 + (q : Int)) rfl (by omega) hwz2 ?_; intro v' w3 own1 grow1)
          go_roundw
          case rel => exact ⟨q + 1, by omega, by congr 1; omega, by rw [HU.out]; exact own1, (hB2.alloc hB2.size _).trans (below_own (hO2.alloc _) (by simp; omega) grow1)⟩
          case measure => simp [intOf]; omega
        · obtain rfl : q = D := by omega
          have hqx : ¬ x0 + (q : Int) < x1 := by omega
          go_wp2_with fail
          go_roundw
          case rel => exact ⟨k + 1, by omega, by go_num, by rw [HN2.out]; exact hO2, hB2⟩
          case measure => simp [intOf]; omega
    · have hlt' : ¬ (k : Int) < (s.length : Int) := by omega
      have HE : Hid (s.take k = s) := List.take_of_length_le (by omega)
      go_wp2_with fail
      go_ret
      exact ⟨_, rfl, by have := own_ints hO; rwa [HE.out] at this, hBw⟩
theorem RCount_any (n : Int) (v : Value) (s : List Sp) (w : World) (hA : Spans w v s) (hf : fitL n s = true) :
    Calls Tryd.prog 33 #[v] w fun e w' => e = .returned (.int .i64 (countL s)) ∧ Below w.heap.size w w' := by
  have C := hide (RList_any n v s w hA hf)
  have HL := hide (list_len hf)
  clear hA hf
  go_enter Tryd.func33, Tryd.ntmps33
  go_wp2_with fail
  refine C.out.mono ?_
  rintro e w1 ⟨v1, rfl, ⟨a1, c1, rfl, _⟩, b1⟩
  go_wp2_with fail
  go_ret
  exact ⟨ret_i HL.out, b1⟩
theorem joinTail_snoc (sep x : List UInt8) (r : List (List UInt8)) : Lib.joinTail sep (r ++ [x]) = Lib.joinTail sep r ++ (sep ++ x) := by simp [Lib.joinTail]
theorem join_snoc (x : List UInt8) (xs : List (List UInt8)) (sep : List UInt8) (h : xs ≠ []) : Lib.join (xs ++ [x]) sep = Lib.join xs sep ++ (sep ++ x) := by
  cases xs with
  | nil => exact absurd rfl h
  | cons y r => rw [List.cons_append, Lib.join_cons, Lib.join_cons, joinTail_snoc, List.append_assoc]
def textK (s : List Sp) (k : Nat) : List UInt8 := Lib.join ((s.take k).map writeT) [44]
theorem textK_first (s : List Sp) (h : 0 < s.length) : textK s 1 = writeT s[0] := by
  unfold textK
  rw [List.take_succ_eq_append_getElem h, List.take_zero, List.nil_append, List.map_cons, List.map_nil, Lib.join_one]
theorem textK_next (s : List Sp) (k : Nat) (h : k < s.length) (hk : 0 < k) : textK s (k + 1) = (textK s k ++ [44]) ++ writeT s[k] := by
  unfold textK
  rw [List.take_succ_eq_append_getElem h, List.map_append, List.map_cons, List.map_nil, join_snoc _ _ _ (fun e => by have := congrArg List.length e; simp only [List.length_map, List.length_take, List.length_nil] at this; omega)]
  simp
theorem textK_len (s : List Sp) (h : ∀ p ∈ s, 0 ≤ p.1 ∧ p.1 < p.2 ∧ p.2 ≤ 65536) (hl : s.length ≤ 65536) (k : Nat) : (textK s k).length ≤ 10000000 :=
  join_le (s.take k) (fun p hp => h p (List.mem_of_mem_take hp)) (by rw [List.length_take]; omega)

set_option maxRecDepth 100000 in
set_option maxHeartbeats 8000000 in
theorem RText_any (n : Int) (v : Value) (s : List Sp) (w : World) (hA : Spans w v s) (hf : fitL n s = true) (hT : Tab w) :
    Calls Tryd.prog 37 #[v] w fun e w' => e = .returned (.string (ofL (textL s))) ∧ Below w.heap.size w w' := by
  have hl := fit_len hf
  have hf' := fitL_iff.1 hf
  have HB : Hid (∀ p ∈ s, 0 ≤ p.1 ∧ p.1 < p.2 ∧ p.2 ≤ 65536) := fun p hp => by have := fitF_mem hf'.2.2 p hp; omega
  clear hf hf'
  obtain ⟨aa, ca, rfl, hra⟩ := hA
  have HA := hide hra
  have HT := hide hT
  clear hra hT
  by_cases h0 : s = []
  · subst h0
    clear HB HA
    go_enter Tryd.func37, Tryd.ntmps37
    go_wp2_with fail
    go_ret
    exact ⟨rfl, Below.refl _ _⟩
  have hpos : 0 < s.length := by cases s with | nil => exact absurd rfl h0 | cons p s => simp
  have hq : ((s.length : Int) == 0) = false := int_ne0 (by omega)
  obtain ⟨b, off, rfl, hlb, hc⟩ : ∃ b off, aa = some ⟨b, off, none⟩ ∧ b < w.heap.size ∧ SRow w b off s := by
    rcases HA.out with h1 | h1
    · exact absurd h1 h0
    · exact h1
  have HC := hide hc
  have HTX : Hid (textL s = Lib.join (s.map writeT) [44]) := by show _ = _; unfold textL; rw [if_neg h0]
  have HLE := hide (textK_len s HB.out (by omega))
  clear HA hc h0
  go_enter Tryd.func37, Tryd.ntmps37
  go_wp2_with fail
  go_loopw [3, 4] (fun x y wr => ∃ k : Nat, k ≤ s.length ∧ x = .string (ofL (textK s k)) ∧ y = .int .i64 k ∧ Below w.heap.size w wr) (fun _ y _ => s.length - (intOf y).toNat)
  case atStart => exact ⟨0, by omega, rfl, rfl, Below.refl _ _⟩
  case round =>
    obtain ⟨k, hk, rfl, rfl, hBw⟩ := hrel
    by_cases hlt : k < s.length
    · have hlt' : (k : Int) < (s.length : Int) := by omega
      obtain ⟨c0, c1⟩ := HC.out k hlt
      have hbd := HB.out s[k] (List.getElem_mem hlt)
      have HF1 : Hid (k = 0 → textK s (k + 1) = writeT s[k]) := by rintro rfl; exact textK_first s hpos
      have HN1 := hide (textK_next s k hlt)
      have hle := HLE.out k
      generalize s[k] = p at *
      obtain ⟨x0, x1⟩ := p
      dsimp only at c0 c1 hbd HF1 HN1
      have CELL : Hid (∀ X, Below w.heap.size w X → X.cell? ⟨b, off + k * 2, none⟩ = some (.int .i64 x0) ∧ X.cell? ⟨b, off + k * 2 + 1, none⟩ = some (.int .i64 x1)) := fun X hX => ⟨by rw [← c0]; simp only [World.cell?]; rw [hX.block b hlb], by rw [← c1]; simp only [World.cell?]; rw [hX.block b hlb]⟩
      have CI0 := hide (fun X (hX : Below w.heap.size w X) => Itoa_any x0 X (HT.out.below hX) hbd.1 (by omega))
      have CI1 := hide (fun X (hX : Below w.heap.size w X) => Itoa_any (x1 - 1) X (HT.out.below hX) (by omega) (by omega))
      have HW : Hid (writeT (x0, x1) = if x1 - x0 = 1 then Lib.itoa x0 else Lib.itoa x0 ++ 45 :: Lib.itoa (x1 - 1)) := rfl
      have L0 := Lib.itoa_length_le x0 (by omega) (by omega)
      have L1 := Lib.itoa_length_le (x1 - 1) (by omega) (by omega)
      generalize Lib.itoa x0 = t0 at *
      generalize Lib.itoa (x1 - 1) = t1 at *
      have z0 := ofL_size t0
      have z1 := ofL_size t1
      clear c0 c1
      obtain ⟨d0, d1⟩ := CELL.out _ hBw
      obtain ⟨P, hP, hPl⟩ : ∃ P : List UInt8, (P = if 0 < k then textK s k ++ [44] else textK s k) ∧ P.length ≤ 10000001 := ⟨_, rfl, by
        split
        · simp only [List.length_append, List.length_singleton]; omega
        · omega⟩
      have HNX : Hid (textK s (k + 1) = P ++ writeT (x0, x1)) := by
        show _ = _
        by_cases h0 : 0 < k
        · rw [hP, if_pos h0, HN1.out h0]
        · rw [hP, if_neg h0, HF1.out (by omega)]
          obtain rfl : k = 0 := by omega
          rfl
      clear HF1 HN1
      by_cases h0 : 0 < k
      · have h0' : (0 : Int) < (k : Int) := by omega
        rw [if_pos h0] at hP
        have hPs : ofL (textK s k) ++ ⟨#[44]⟩ = ofL P := by rw [hP]; exact cat_ofL (textK s k) [44]
        have zk := ofL_size (textK s k)
        have zp := ofL_size P
        clear hP
        go_wp2_with fail
        try rw [hPs]
        refine (CI0.out _ hBw).mono ?_
        rintro e w1 ⟨rfl, k1⟩
        have b1 : Below w.heap.size w w1 := hBw.trans (k1.mono hBw.size)
        obtain ⟨g0, g1⟩ := CELL.out _ b1
        have hC0 := cat_ofL P t0
        have zc := ofL_size (P ++ t0)
        rw [List.length_append] at zc
        by_cases hd : x1 - x0 = 1
        · have hgt : ¬ x0 + 1 < x1 := by omega
          have hdq : decide (x0 + 1 < x1) = false := by simp; omega
          rw [if_pos hd] at HW
          clear hgt
          go_wp2_with fail
          try rw [hPs]
          try rw [hC0]
          go_quiet (fail)
          have hB2 : Below w.heap.size w (w1.drewN nq) := b1.trans (below_drewN _ _ _)
          generalize w1.drewN nq = W2 at *
          go_wp2_with fail
          go_roundw
          case rel => exact ⟨k + 1, by omega, by rw [HNX.out, HW.out], by go_num, hB2⟩
          case measure => simp [intOf]; omega
        · have hdq : decide (x0 + 1 < x1) = true := by simp; omega
          rw [if_neg hd] at HW
          go_wp2_with fail
          try rw [hPs]
          try rw [hC0]
          go_quiet (fail)
          have hB2 : Below w.heap.size w (w1.drewN nq) := b1.trans (below_drewN _ _ _)
          generalize w1.drewN nq = W2 at *
          obtain ⟨i0, i1⟩ := CELL.out _ hB2
          have hC1 := cat_ofL (P ++ t0) [45]
          have zd := ofL_size ((P ++ t0) ++ [45])
          simp only [List.length_append, List.length_singleton] at zd
          have hC2 := cat_ofL ((P ++ t0) ++ [45]) t1
          go_wp2_with fail
          refine (CI1.out _ hB2).mono ?_
          rintro e w3 ⟨rfl, k3⟩
          have b3 : Below w.heap.size w w3 := hB2.trans (k3.mono hB2.size)
          go_wp2_with fail
          go_roundw
          case rel => exact ⟨k + 1, by omega, by rw [HNX.out, HW.out]; congr 1; apply ba_ext; simp [ofL], by go_num, b3⟩
          case measure => simp [intOf]; omega
      · have h0' : ¬ (0 : Int) < (k : Int) := by omega
        rw [if_neg h0] at hP
        rw [← hP]
        have zp := ofL_size P
        clear hP
        go_wp2_with fail
        try rw [hPs]
        refine (CI0.out _ hBw).mono ?_
        rintro e w1 ⟨rfl, k1⟩
        have b1 : Below w.heap.size w w1 := hBw.trans (k1.mono hBw.size)
        obtain ⟨g0, g1⟩ := CELL.out _ b1
        have hC0 := cat_ofL P t0
        have zc := ofL_size (P ++ t0)
        rw [List.length_append] at zc
        by_cases hd : x1 - x0 = 1
        · have hgt : ¬ x0 + 1 < x1 := by omega
          have hdq : decide (x0 + 1 < x1) = false := by simp; omega
          rw [if_pos hd] at HW
          clear hgt
          go_wp2_with fail
          try rw [hPs]
          try rw [hC0]
          go_quiet (fail)
          have hB2 : Below w.heap.size w (w1.drewN nq) := b1.trans (below_drewN _ _ _)
          generalize w1.drewN nq = W2 at *
          go_wp2_with fail
          go_roundw
          case rel => exact ⟨k + 1, by omega, by rw [HNX.out, HW.out], by go_num, hB2⟩
          case measure => simp [intOf]; omega
        · have hdq : decide (x0 + 1 < x1) = true := by simp; omega
          rw [if_neg hd] at HW
          go_wp2_with fail
          try rw [hPs]
          try rw [hC0]
          go_quiet (fail)
          have hB2 : Below w.heap.size w (w1.drewN nq) := b1.trans (below_drewN _ _ _)
          generalize w1.drewN nq = W2 at *
          obtain ⟨i0, i1⟩ := CELL.out _ hB2
          have hC1 := cat_ofL (P ++ t0) [45]
          have zd := ofL_size ((P ++ t0) ++ [45])
          simp only [List.length_append, List.length_singleton] at zd
          have hC2 := cat_ofL ((P ++ t0) ++ [45]) t1
          go_wp2_with fail
          refine (CI1.out _ hB2).mono ?_
          rintro e w3 ⟨rfl, k3⟩
          have b3 : Below w.heap.size w w3 := hB2.trans (k3.mono hB2.size)
          go_wp2_with fail
          go_roundw
          case rel => exact ⟨k + 1, by omega, by rw [HNX.out, HW.out]; congr 1; apply ba_ext; simp [ofL], by go_num, b3⟩
          case measure => simp [intOf]; omega
    · have hlt' : ¬ (k : Int) < (s.length : Int) := by omega
      have HE : Hid (textK s k = textL s) := by show _ = _; unfold textK; rw [HTX.out, List.take_of_length_le (by omega)]
      go_wp2_with fail
      go_ret
      exact ⟨ret_s (by rw [HE.out]), hBw⟩

end Go.Proofs.YtmpegkcleajhhaaDoor
