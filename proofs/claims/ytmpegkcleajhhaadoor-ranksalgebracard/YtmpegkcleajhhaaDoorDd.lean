/-
  Rows of the call own, of spans; a set and one rank more; the places that are true: the program.
-/
import Derived.Test.YtmpegkcleajhhaaDoorDb
namespace Go.Proofs.YtmpegkcleajhhaaDoor
open Go.RowKit Go.Shelf
set_option linter.unusedVariables false

theorem own_put {W : World} {base g cap n j : Nat} {e : TypeId} {size : Nat} {xs : List Value} (h : W.ownsRow base e size (.slice (some ⟨g, 0, none⟩) n cap) n xs) (hj : j < n * size) (u : Value) :
    (W.setCell ⟨g, j, none⟩ u).ownsRow base e size (.slice (some ⟨g, 0, none⟩) n cap) n (xs.set j u) := by
  refine ⟨by rw [List.length_set]; exact h.1, ?_⟩
  rcases h.2 with ⟨h1, _⟩ | ⟨g', cap', cur, hv, hg, hh, h1, h2, h3, h4⟩
  · cases h1
  · cases hv
    refine .inr ⟨g, cap, cur.setIfInBounds j u, rfl, hg, set_lies j u hh, h1, h2, by simpa using h3, ?_⟩
    rw [← h4, Array.toList_setIfInBounds, List.take_set]
theorem own_block {W : World} {base : Nat} {e : TypeId} {size : Nat} {v : Value} {n : Nat} {xs : List Value} (h : W.ownsRow base e size v n xs) : (v = .slice none 0 0 ∧ n = 0) ∨ ∃ g cap, v = .slice (some ⟨g, 0, none⟩) n cap ∧ base ≤ g ∧ g < W.heap.size := by
  rcases h.2 with h1 | ⟨g, cap, cur, hv, hg, hh, _⟩
  · exact .inl h1
  · exact .inr ⟨g, cap, hv, hg, (Array.getElem?_eq_some_iff.1 hh).1⟩
theorem own_cell {W : World} {base g cap n j : Nat} {e : TypeId} {size : Nat} {xs : List Value} {u : Value} (h : W.ownsRow base e size (.slice (some ⟨g, 0, none⟩) n cap) n xs) (hu : xs[j]? = some u) : W.cell? ⟨g, j, none⟩ = some u ∧ W.frozen? ⟨g, j, none⟩ = false := by
  rcases h.2 with ⟨h1, _⟩ | ⟨g', cap', cur, hv, hg, hh, h1, h2, h3, h4⟩
  · cases h1
  · cases hv
    refine ⟨cell_at j hh ?_, one_free j hh⟩
    have hj := (List.getElem?_eq_some_iff.1 hu).1
    rw [← h4, List.getElem?_take_of_lt (by rw [← h4, List.length_take] at hj; omega)] at hu
    simpa using hu
theorem below_set {n g j : Nat} {W : World} (u : Value) (h : n ≤ g) : Below n W (W.setCell ⟨g, j, none⟩ u) := (Below.refl n W).setCell (p := ⟨g, j, none⟩) h u
theorem below_own {W W' : World} {base : Nat} {e : TypeId} {size : Nat} {v : Value} {n : Nat} {xs : List Value} (h : W.ownsRow base e size v n xs) (hB : base ≤ W.heap.size) (hg : W.grownBy W' v.ownBlock) : Below base W W' := by
  refine ⟨hg.os, hg.tape, hg.output, hg.size, fun k hk => hg.block k (by omega) fun e => ?_⟩
  rcases own_block h with ⟨h1, _⟩ | ⟨g, cap, h1, h2, _⟩
  · rw [h1] at e; cases e
  · rw [h1] at e
    simp only [Value.ownBlock, Option.some.injEq] at e
    omega
theorem Tryd.info45 : (Tryd.prog.info? 45).map (fun i => (i.zero, i.size, i.bytes)) = some (some (.agg #[.int .i64 0, .int .i64 0]), 2, 16) := by kernel_rfl
theorem rowS_one (p : Sp) : ∀ u ∈ rowS p, u.oneCell' = true := by
  intro u hu
  simp [rowS] at hu
  rcases hu with rfl | rfl <;> rfl
theorem cell_two_new (w : World) (e : TypeId) (x y : Value) : ∀ j u, [x, y][j]? = some u → (w.alloc (.cells #[x, y] e)).cell? ((⟨w.heap.size, 0, none⟩ : Addr).add j) = some u := by
  intro j u hj
  have h := fun j => World.cell?_alloc_mark w #[x, y] e (0, 0) j
  match j, hj with
  | 0, hj => simp at hj; subst hj; exact h 0
  | 1, hj => simp at hj; subst hj; exact h 1
/-- One span more onto a row of the call's own. -/
theorem app_span {w : World} {ops : Array Oper} {rest : List Oper} {o : Oper} {a : Act} {Q : Exit → Act → World → Prop} (hgd : o.guard = none) (s x : Operand)
    (ho : o.op = .call { callee := .builtin .append, args := #[s, x], argTypes := #[22, 22] })
    (B : Nat) (v : Value) (S : List Sp) (hs : a.eval s = v) (hown : w.ownsRow B 45 2 v S.length (flatS S))
    (p : Sp) (hx : a.eval x = .slice (some ⟨w.heap.size, 0, none⟩) 1 1) (hl : S.length ≤ 100000000) (hB : B ≤ w.heap.size)
    (h : ∀ v' w', w'.ownsRow B 45 2 v' (S ++ [p]).length (flatS (S ++ [p])) → (w.alloc (.cells #[.int .i64 p.1, .int .i64 p.2] 45)).grownBy w' v.ownBlock → wpList Tryd.prog ops Q rest (a.put o.dst v') w') :
    wpList Tryd.prog ops Q (o :: rest) a (w.alloc (.cells #[.int .i64 p.1, .int .i64 p.2] 45)) := by
  obtain ⟨i0, hi, hz0, hz1, hz2⟩ := info_parts Tryd.info45
  refine wpList_append_own _ hgd s x 22 ho B 45 i0 (.agg #[.int .i64 0, .int .i64 0]) 2 16 Tryd.underlying22 hi hz0 hz1 hz2 rfl (by decide) _ _ _ hs (hown.alloc _) ⟨w.heap.size, 0, none⟩ 1 1 (rowS p) hx rfl (cell_two_new _ _ _ _) (rowS_one p) (by unfold maxLen; omega) (by omega) (by simp; omega) ?_
  intro v' w' h1 h2 _
  refine h v' w' ?_ h2
  rw [List.length_append, flatS_snoc]
  exact h1

set_option maxRecDepth 100000 in
set_option maxHeartbeats 2000000 in
theorem with_any (B : Nat) (v : Value) (S : List Sp) (r : Int) (w : World) (hown : w.ownsRow B 45 2 v S.length (flatS S)) (hB : B ≤ w.heap.size) (hl : S.length ≤ 100000000) (hr : 0 ≤ r ∧ r ≤ 65536) :
    Calls Tryd.prog 41 #[v, .int .i64 r] w fun e w' => ∃ v', e = .returned v' ∧ w'.ownsRow B 45 2 v' (withL S r).length (flatS (withL S r)) ∧ Below B w w' := by
  rcases snoc_or S with rfl | ⟨t, p, rfl⟩
  · obtain ⟨rfl, _⟩ | ⟨g, cap, hv, hg, hlt⟩ := own_block hown
    · have HO := hide hown
      clear hown
      go_enter Tryd.func41, Tryd.ntmps41
      go_wp2_with (at_builtin; refine app_span rfl (.tmp 29) (.tmp 34) rfl B _ [] rfl HO.out (r, r + 1) rfl hl hB ?_; intro v' w3 own1 grow1)
      go_ret
      exact ⟨v', rfl, own1, ((Below.refl _ w).alloc hB _).trans (below_own (HO.out.alloc _) (by simp; omega) grow1)⟩
    · subst hv
      have HO := hide hown
      clear hown
      go_enter Tryd.func41, Tryd.ntmps41
      go_wp2_with (at_builtin; refine app_span rfl (.tmp 29) (.tmp 34) rfl B _ [] rfl HO.out (r, r + 1) rfl hl hB ?_; intro v' w3 own1 grow1)
      go_ret
      exact ⟨v', rfl, own1, ((Below.refl _ w).alloc hB _).trans (below_own (HO.out.alloc _) (by simp; omega) grow1)⟩
  · obtain ⟨rfl, h0⟩ | ⟨g, cap, hv, hg, hlt⟩ := own_block hown
    · simp at h0
    · subst hv
      have HW := hide (withL_snoc t p r)
      obtain ⟨_, hc⟩ := flatS_at (t ++ [p]) t.length p (by simp)
      obtain ⟨c1, f1⟩ := own_cell hown hc
      have HO := hide hown
      have HO2 : Hid (w.ownsRow B 45 2 (.slice (some ⟨g, 0, none⟩) (t.length + 1) cap) (t ++ [p]).length (flatS (t ++ [p]))) := by
        have e : (t ++ [p]).length = t.length + 1 := by simp
        show World.ownsRow _ _ _ _ _ _ _
        rw [e] at hown ⊢
        exact hown
      clear hown hc
      rw [List.length_append, List.length_singleton] at hl ⊢
      have hlt0 : (t.length : Int) < ((t.length + 1 : Nat) : Int) := by omega
      by_cases hp : p.2 = r
      · have hq : (p.2 == r) = true := by simp [hp]
        have HW2 : Hid (withL (t ++ [p]) r = t ++ [(p.1, p.2 + 1)]) := by show _ = _; rw [HW.out, if_pos hp, hp]
        have HF := hide (flatS_set2 t p (p.2 + 1) [])
        have hb2 : 0 ≤ p.2 ∧ p.2 ≤ 65536 := by omega
        clear HW hp
        obtain ⟨p0, p1⟩ := p
        dsimp only at *
        go_enter Tryd.func41, Tryd.ntmps41
        go_wp2_with fail
        go_ret
        refine ⟨_, rfl, ?_, below_set _ hg⟩
        have k := own_put HO.out (j := t.length * 2 + 1) (by simp; omega) (.int .i64 (p1 + 1))
        rw [HW2.out]
        have e := HF.out
        simp only [List.append_nil] at e
        rw [e] at k
        simpa using k
      · have hq : (p.2 == r) = false := by simp [hp]
        have HW2 : Hid (withL (t ++ [p]) r = (t ++ [p]) ++ [(r, r + 1)]) := by show _ = _; rw [HW.out, if_neg hp]
        clear HW hp
        go_enter Tryd.func41, Tryd.ntmps41
        go_wp2_with (at_builtin; refine app_span rfl (.tmp 29) (.tmp 34) rfl B _ (t ++ [p]) rfl HO2.out (r, r + 1) rfl (by simpa using hl) hB ?_; intro v' w3 own1 grow1)
        go_ret
        refine ⟨v', rfl, by rw [HW2.out]; exact own1, ((Below.refl _ w).alloc hB _).trans (below_own (HO2.out.alloc _) (by simp; omega) grow1)⟩

end Go.Proofs.YtmpegkcleajhhaaDoor
