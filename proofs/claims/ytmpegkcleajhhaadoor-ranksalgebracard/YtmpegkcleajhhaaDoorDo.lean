/-
  Walks: the ranks of a set, and how many: the program and the document; two rows of numbers held against one another.
-/
import Derived.Test.YtmpegkcleajhhaaDoorDm
namespace Go.Proofs.YtmpegkcleajhhaaDoor
open Go.RowKit Go.Shelf
set_option linter.unusedVariables false

theorem own_weak {W : World} {b c : Nat} {e : TypeId} {size : Nat} {v : Value} {n : Nat} {xs : List Value} (h : W.ownsRow c e size v n xs) (hb : b ≤ c) : W.ownsRow b e size v n xs := by
  refine ⟨h.1, ?_⟩
  rcases h.2 with h2 | ⟨g, cap, cur, hv, hg, r⟩
  · exact .inl h2
  · exact .inr ⟨g, cap, cur, hv, Nat.le_trans hb hg, r⟩
theorem own_ne {W : World} {base X : Nat} {v : Value} {n : Nat} {xs : List Value} {cs : Array Value} {m : Nat × Nat} (h : W.ownsRow base 3 1 v n xs) (hx : W.heap[X]? = some (.cells cs 45 m)) : v.ownBlock ≠ some X := by
  intro e
  rcases h.2 with ⟨rfl, _⟩ | ⟨g, cap, cur, rfl, _, hh, _⟩
  · cases e
  · simp only [Value.ownBlock, Option.some.injEq] at e
    subst e
    rw [hh] at hx
    cases hx
theorem up_next (L : List Int) (lo : Int) (q : Nat) : L ++ upL lo (q + 1) = (L ++ upL lo q) ++ [lo + q] := by rw [up_snoc, List.append_assoc]
def flatI (l : List Int) : List Value := l.map fun x => Value.int .i64 x
theorem Tryd.info3 : (Tryd.prog.info? 3).map (fun i => (i.zero, i.size, i.bytes)) = some (some (.int .i64 0), 1, 8) := by kernel_rfl
theorem cell_one_new (w : World) (e : TypeId) (x : Value) : ∀ j u, [x][j]? = some u → (w.alloc (.cells #[x] e)).cell? ((⟨w.heap.size, 0, none⟩ : Addr).add j) = some u := by
  intro j u hj
  have h := fun j => World.cell?_alloc_mark w #[x] e (0, 0) j
  match j, hj with
  | 0, hj => simp at hj; subst hj; exact h 0
/-- One number more onto a row of the call's own. -/
theorem app_int {w : World} {ops : Array Oper} {rest : List Oper} {o : Oper} {a : Act} {Q : Exit → Act → World → Prop} (hgd : o.guard = none) (s x : Operand)
    (ho : o.op = .call { callee := .builtin .append, args := #[s, x], argTypes := #[23, 23] })
    (B : Nat) (v : Value) (S : List Int) (hs : a.eval s = v) (hown : w.ownsRow B 3 1 v S.length (flatI S))
    (p : Int) (hx : a.eval x = .slice (some ⟨w.heap.size, 0, none⟩) 1 1) (hl : S.length ≤ 100000000) (hB : B ≤ w.heap.size)
    (h : ∀ v' w', w'.ownsRow B 3 1 v' (S ++ [p]).length (flatI (S ++ [p])) → (w.alloc (.cells #[.int .i64 p] 3)).grownBy w' v.ownBlock → wpList Tryd.prog ops Q rest (a.put o.dst v') w') :
    wpList Tryd.prog ops Q (o :: rest) a (w.alloc (.cells #[.int .i64 p] 3)) := by
  obtain ⟨i0, hi, hz0, hz1, hz2⟩ := info_parts Tryd.info3
  refine wpList_append_own _ hgd s x 23 ho B 3 i0 (.int .i64 0) 1 8 Tryd.underlying23 hi hz0 hz1 hz2 rfl (by decide) _ _ _ hs (hown.alloc _) ⟨w.heap.size, 0, none⟩ 1 1 [.int .i64 p] hx rfl (cell_one_new _ _ _) (by intro u hu; simp at hu; subst hu; rfl) (by unfold maxLen; omega) (by omega) (by simp; omega) ?_
  intro v' w' h1 h2 _
  refine h v' w' ?_ h2
  rw [List.length_append, show flatI (S ++ [p]) = flatI S ++ [.int .i64 p] by simp [flatI]]
  exact h1
/-- A row of the call's own is a row of numbers. -/
theorem own_ints {W : World} {base : Nat} {v : Value} {s : List Int} (h : W.ownsRow base 3 1 v s.length (flatI s)) : Ints W v s := by
  rcases own_block h with ⟨rfl, h0⟩ | ⟨g, cap, rfl, hg, hlt⟩
  · exact ⟨none, 0, by rw [h0], .inl (List.length_eq_zero_iff.1 h0)⟩
  · refine ⟨_, cap, rfl, .inr ⟨g, 0, rfl, hlt, fun i hi => ?_⟩⟩
    rw [Nat.zero_add]
    exact (own_cell h (by simp [flatI, hi])).1
theorem list_take (s : List Sp) (k : Nat) (h : k < s.length) : listL (s.take (k + 1)) = listL (s.take k) ++ upL s[k].1 (s[k].2 - s[k].1).toNat := by
  unfold listL
  rw [List.take_succ_eq_append_getElem h]
  simp only [List.flatMap_append, List.flatMap_cons, List.flatMap_nil, List.append_nil]
theorem count_take (s : List Sp) (k : Nat) (h : k < s.length) : countL (s.take (k + 1)) = countL (s.take k) + (s[k].2 - s[k].1) := by
  rw [List.take_succ_eq_append_getElem h]
  have : ∀ a b : List Sp, countL (a ++ b) = countL a + countL b := by
    intro a
    induction a with
    | nil => intro b; simp [countL]
    | cons p a ih => intro b; simp only [List.cons_append, countL, ih]; omega
  rw [this]
  simp [countL]
theorem fit_take {n last : Int} : ∀ {s : List Sp} (k : Nat), fitF n last s = true → fitF n last (s.take k) = true
  | [], k, _ => by simp [fitF]
  | p :: s, 0, _ => rfl
  | p :: s, k + 1, h => by
    rw [fitF_cons] at h
    rw [List.take_succ_cons, fitF_cons]
    exact ⟨h.1, h.2.1, h.2.2.1, fit_take k h.2.2.2⟩
theorem fitL_take {n : Int} {s : List Sp} (k : Nat) (h : fitL n s = true) : fitL n (s.take k) = true := by
  have := fitL_iff.1 h
  exact fitL_iff.2 ⟨this.1, this.2.1, fit_take k this.2.2⟩
theorem count_bound {n : Int} {s : List Sp} (h : fitL n s = true) : 0 ≤ countL s ∧ countL s ≤ 65537 := by
  have h' := fitL_iff.1 h
  have := count_le h'.2.2 (by omega)
  omega
theorem list_len {n : Int} {s : List Sp} (h : fitL n s = true) : ((listL s).length : Int) = countL s := count_list (fitL_iff.1 h).2.2

set_option maxRecDepth 100000 in
set_option maxHeartbeats 2000000 in
theorem Count_any (n : Int) (v : Value) (s : List Sp) (w : World) (hA : Spans w v s) (hf : fitL n s = true) :
    Calls Tryd.prog 32 #[v] w fun e w' => e = .returned (.int .i64 (countL s)) ∧ Below w.heap.size w w' := by
  have hl := fit_len hf
  have hf' := fitL_iff.1 hf
  have HB : Hid (∀ p ∈ s, 0 ≤ p.1 ∧ p.1 < p.2 ∧ p.2 ≤ 65536) := fun p hp => by have := fitF_mem hf'.2.2 p hp; omega
  have HCB := hide (fun k => count_bound (fitL_take k hf))
  clear hf hf'
  obtain ⟨aa, ca, rfl, hra⟩ := hA
  have HA := hide hra
  clear hra
  go_enter Tryd.func32, Tryd.ntmps32
  go_wp2_with fail
  go_loopw [3, 8] (fun x y wr => ∃ k : Nat, k ≤ s.length ∧ x = .int .i64 (countL (s.take k)) ∧ y = .int .i64 k ∧ Below w.heap.size w wr) (fun _ y _ => s.length - (intOf y).toNat)
  case atStart => exact ⟨0, by omega, rfl, rfl, Below.refl _ _⟩
  case round =>
    obtain ⟨k, hk, rfl, rfl, hBw⟩ := hrel
    have hcb := HCB.out k
    by_cases hlt : k < s.length
    · have hlt' : (k : Int) < (s.length : Int) := by omega
      obtain ⟨b, off, rfl, hlb, hc⟩ : ∃ b off, aa = some ⟨b, off, none⟩ ∧ b < w.heap.size ∧ SRow w b off s := by
        rcases HA.out with h0 | h0
        · rw [h0] at hlt; simp at hlt
        · exact h0
      obtain ⟨c0, c1⟩ := (hc.of_block (hBw.block b hlb)) k hlt
      have HN := hide (count_take s k hlt)
      have hbd := HB.out s[k] (List.getElem_mem hlt)
      clear hc
      generalize s[k] = p at *
      obtain ⟨x0, x1⟩ := p
      dsimp only at c0 c1 hbd
      generalize countL (s.take k) = c at *
      have hB1 : Below w.heap.size w (wr.alloc (.cells #[.int .i64 x0, .int .i64 x1] 45)) := hBw.alloc hBw.size _
      go_wp2_with fail
      go_roundw
      case rel => exact ⟨k + 1, by omega, by rw [HN.out], by go_num, hB1⟩
      case measure => simp [intOf]; omega
    · have hlt' : ¬ (k : Int) < (s.length : Int) := by omega
      have HE : Hid (s.take k = s) := List.take_of_length_le (by omega)
      go_wp2_with fail
      go_ret
      exact ⟨ret_i (by rw [HE.out]), hBw⟩
theorem mkI (c : Int) (h0 : 0 ≤ c) (hc : c ≤ 1048576) (w : World) : ∃ cap cells, (Instr.makeSlice 23 (.int .i64 0) (.int .i64 c)).run Tryd.prog w = .ok (.slice (some ⟨w.heap.size, 0, none⟩) 0 cap) (w.alloc (.cells cells 3)) ∧ (w.alloc (.cells cells 3)).ownsRow w.heap.size 3 1 (.slice (some ⟨w.heap.size, 0, none⟩) 0 cap) 0 [] := by
  obtain ⟨i0, hi, hz0, hz1, hz2⟩ := info_parts Tryd.info3
  have h := run_make (P := Tryd.prog) w 23 3 i0 (.int .i64 0) Tryd.underlying23 hi hz0 .i64 .i64 (0 : Int) c (by omega) (by omega) (by rw [hz2]; omega) (by omega)
  refine ⟨c.toNat, _, h, rfl, .inr ⟨_, _, _, rfl, Nat.le_refl _, World.alloc_heap_new w _, by omega, by unfold maxLen; omega, by rw [size_madeCells, hz1], by simp⟩⟩

set_option maxRecDepth 100000 in
set_option maxHeartbeats 4000000 in
theorem List_any (n : Int) (v : Value) (s : List Sp) (w : World) (hA : Spans w v s) (hf : fitL n s = true) :
    Calls Tryd.prog 30 #[v] w fun e w' => ∃ v', e = .returned v' ∧ Ints w' v' (listL s) ∧ Below w.heap.size w w' := by
  have hl := fit_len hf
  have hf' := fitL_iff.1 hf
  have f6 : fitL 65536 s = true := fitL_iff.2 ⟨by omega, by omega, fitF_up hf'.2.1 hf'.2.2⟩
  have CF := Fit_any 65536 v s w hA (by omega)
  rw [f6] at CF
  have CF := hide CF
  have CC := hide (fun W (hb : Below w.heap.size w W) => Count_any n v s W (hA.below hb) hf)
  have HB : Hid (∀ p ∈ s, 0 ≤ p.1 ∧ p.1 < p.2 ∧ p.2 ≤ 65536) := fun p hp => by have := fitF_mem hf'.2.2 p hp; omega
  have HCB := hide (fun k => count_bound (fitL_take k hf))
  have HLL := hide (fun k => list_len (fitL_take k hf))
  have hcs := count_bound hf
  clear hf hf' f6
  obtain ⟨aa, ca, rfl, hra⟩ := hA
  have HA := hide hra
  clear hra
  go_enter Tryd.func30, Tryd.ntmps30
  go_wp2_with fail
  refine CF.out.mono ?_
  rintro e w1 ⟨rfl, b1⟩
  go_wp2_with fail
  refine (CC.out _ b1).mono ?_
  rintro e w2 ⟨rfl, b2⟩
  have hB2 : Below w.heap.size w w2 := b1.trans (b2.mono b1.size)
  obtain ⟨cap, cs, M1, own0⟩ := mkI (countL s) hcs.1 (by omega) w2
  have M1 := fun (W : World) (h : W = w2) => (by subst h; exact M1 : (Instr.makeSlice 23 (.int .i64 0) (.int .i64 (countL s))).run Tryd.prog W = _)
  have M1 := M1 w2 rfl
  have hB3 : Below w.heap.size w (w2.alloc (.cells cs 3)) := hB2.alloc hB2.size _
  have hz2 : w.heap.size ≤ w2.heap.size := hB2.size
  have own0 := own_weak own0 hz2
  generalize countL s = c at *
  go_wp2_with fail
  clear M1 CF CC
  generalize w2.alloc (.cells cs 3) = W3 at *
  go_loopw [3, 15] (fun x y wr => ∃ k : Nat, k ≤ s.length ∧ y = .int .i64 k ∧ wr.ownsRow w.heap.size 3 1 x (listL (s.take k)).length (flatI (listL (s.take k))) ∧ Below w.heap.size w wr) (fun _ y _ => s.length - (intOf y).toNat)
  case atStart => exact ⟨0, by omega, rfl, own0, hB3⟩
  case round =>
    clear own0 hB3
    obtain ⟨k, hk, rfl, hO, hBw⟩ := hrel
    by_cases hlt : k < s.length
    · have hlt' : (k : Int) < (s.length : Int) := by omega
      obtain ⟨b, off, rfl, hlb, hc⟩ : ∃ b off, aa = some ⟨b, off, none⟩ ∧ b < w.heap.size ∧ SRow w b off s := by
        rcases HA.out with h0 | h0
        · rw [h0] at hlt; simp at hlt
        · exact h0
      obtain ⟨c0, c1⟩ := (hc.of_block (hBw.block b hlb)) k hlt
      have HN := hide (list_take s k hlt)
      have hbd := HB.out s[k] (List.getElem_mem hlt)
      have hcb := HCB.out k
      have hll := HLL.out k
      clear hc
      generalize s[k] = p at *
      obtain ⟨x0, x1⟩ := p
      dsimp only at c0 c1 hbd HN
      generalize listL (s.take k) = L at *
      generalize countL (s.take k) = cc at *
      have hLl : L.length ≤ 70000 := by omega
      have hO1 := hO.alloc (.cells #[.int .i64 x0, .int .i64 x1] 45)
      have hB1 : Below w.heap.size w (wr.alloc (.cells #[.int .i64 x0, .int .i64 x1] 45)) := hBw.alloc hBw.size _
      have hX : (wr.alloc (.cells #[.int .i64 x0, .int .i64 x1] 45)).heap[wr.heap.size]? = some (.cells #[.int .i64 x0, .int .i64 x1] 45 (0, 0)) := World.alloc_heap_new wr _
      have hXl : wr.heap.size < (wr.alloc (.cells #[.int .i64 x0, .int .i64 x1] 45)).heap.size := by simp
      have hwz : w.heap.size ≤ wr.heap.size := hBw.size
      obtain ⟨D, hD⟩ : ∃ D : Nat, x1 - x0 = (D : Int) := ⟨(x1 - x0).toNat, by omega⟩
      have HN2 : Hid (listL (s.take (k + 1)) = L ++ upL x0 D) := by show _ = _; rw [HN.out, hD, Int.toNat_natCast]
      clear HN
      go_wp2_with fail
      generalize wr.alloc (.cells #[.int .i64 x0, .int .i64 x1] 45) = Wa at *
      generalize wr.heap.size = X at *
      go_loopw [3, 6] (fun x y ws => ∃ q : Nat, q ≤ D ∧ y = .int .i64 (x0 + q) ∧ ws.ownsRow w.heap.size 3 1 x (L ++ upL x0 q).length (flatI (L ++ upL x0 q)) ∧ Below w.heap.size w ws ∧ ws.heap[X]? = some (.cells #[.int .i64 x0, .int .i64 x1] 45 (0, 0))) (fun _ y _ => D - (intOf y - x0).toNat)
      case atStart => exact ⟨0, by omega, by simp, by simpa [upL] using hO1, hB1, hX⟩
      case round =>
        clear hO1 hB1 hX
        obtain ⟨q, hq, rfl, hO2, hB2, hX2⟩ := hrel
        have y0 := cell_at 0 hX2 rfl
        have y1 := cell_at 1 hX2 rfl
        by_cases hqD : q < D
        · have hqx : x0 + (q : Int) < x1 := by omega
          have hLq : (L ++ upL x0 q).length ≤ 200000 := by rw [List.length_append, up_len]; omega
          have HU := hide (up_next L x0 q)
          generalize L ++ upL x0 q = M at *
          have hwz2 : w.heap.size ≤ wr.heap.size := hB2.size
          have hne := own_ne hO2 hX2
          have hXl2 : X < wr.heap.size := (Array.getElem?_eq_some_iff.1 hX2).1
          go_wp2_with (at_builtin; refine app_int rfl (.tmp 27) (.tmp 29) rfl w.heap.size _ M rfl hO2 (x0 + (q : Int)) rfl (by omega) hwz2 ?_; intro v' w3 own1 grow1)
          have hX3 : w3.heap[X]? = some (.cells #[.int .i64 x0, .int .i64 x1] 45 (0, 0)) := (grow1.block X (by simp; omega) (fun e => hne e.symm)).trans ((Below.heap_alloc _ _ _ (by omega)).trans hX2)
          go_roundw
          case rel => exact ⟨q + 1, by omega, by congr 1; omega, by rw [HU.out]; exact own1, (hB2.alloc hB2.size _).trans (below_own (hO2.alloc _) (by simp; omega) grow1), hX3⟩
          case measure => simp [intOf]; omega
        · obtain rfl : q = D := by omega
          have hqx : ¬ x0 + (q : Int) < x1 := by omega
          go_wp2_with fail
          go_roundw
          case rel => exact ⟨k + 1, by omega, by go_num, by rw [HN2.out]; exact hO2, hB2⟩
          case measure => simp [intOf]; omega
    · have hlt' : ¬ (k : Int) < (s.length : Int) := by omega
      have HE : Hid (s.take k = s) := List.take_of_length_le (by omega)
      go_wp2_with fail
      go_ret
      exact ⟨_, rfl, by have := own_ints hO; rwa [HE.out] at this, hBw⟩

end Go.Proofs.YtmpegkcleajhhaaDoor
