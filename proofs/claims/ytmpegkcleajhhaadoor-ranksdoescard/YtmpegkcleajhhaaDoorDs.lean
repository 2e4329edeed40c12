/-
  Walks: the marks of a set, two sets by their marks: the document.
-/
import Derived.Test.YtmpegkcleajhhaaDoorDm
namespace Go.Proofs.YtmpegkcleajhhaaDoor
open Go.RowKit Go.Shelf
set_option linter.unusedVariables false

/-- Truths by a rule. -/
def mkM (N : Nat) (f : Int → Bool) : List Bool := (List.range N).map fun (j : Nat) => f (j : Int)
theorem mk_len (N : Nat) (f : Int → Bool) : (mkM N f).length = N := by simp [mkM]
theorem mk_at (N : Nat) (f : Int → Bool) (k : Nat) (h : k < N) : (mkM N f)[k]'(by rw [mk_len]; exact h) = f (k : Int) := by simp [mkM]
theorem mk_congr {N : Nat} {f g : Int → Bool} (h : ∀ k : Nat, k < N → f (k : Int) = g (k : Int)) : mkM N f = mkM N g := by
  unfold mkM
  apply List.map_congr_left
  intro k hk
  exact h k (List.mem_range.1 hk)
theorem mk_set {N k : Nat} (f g : Int → Bool) (b : Bool) (h : ∀ j : Nat, j < N → g (j : Int) = if j = k then b else f (j : Int)) : (mkM N f).set k b = mkM N g := by
  apply List.ext_getElem
  · simp [mkM]
  · intro j h1 h2
    rw [mk_len] at h2
    rw [List.getElem_set, mk_at _ g _ h2, h j h2]
    by_cases e : k = j
    · subst e; simp
    · rw [if_neg e, if_neg (fun h => e h.symm), mk_at _ f _ h2]
theorem atP_mk {N : Nat} (f : Int → Bool) (i : Nat) (h : i < N) : atP (mkM N f) i = f (i : Int) := by
  unfold atP
  rw [List.getD_eq_getElem?_getD, List.getElem?_eq_getElem (by rw [mk_len]; exact h), mk_at _ _ _ h]
  rfl
theorem mk_false (N : Nat) : List.replicate N false = mkM N (fun _ => false) := by
  apply List.ext_getElem
  · simp [mkM]
  · intro j h1 h2
    simp [mkM]
theorem BW.other {w0 : World} {Y X o : Nat} {m : List Bool} {W : World} {v : Value} (h : BW w0 Y m W) (hX : w0.heap.size ≤ X ∧ X ≠ Y) : BW w0 Y m (W.setCell ⟨X, o, none⟩ v) :=
  ⟨h.bel.setCell (p := ⟨X, o, none⟩) hX.1 _, h.le, (Below.heap_setCell _ _ _ _ (fun e => hX.2 e.symm)).trans h.cells⟩
theorem end_ge {n : Int} : ∀ {s : List Sp} {last : Int}, fitF n last s = true → last ≤ endF last s ∧ (last ≤ n → endF last s ≤ n)
  | [], last, _ => ⟨Int.le_refl _, fun h => h⟩
  | p :: s, last, hf => by
    rw [fitF_cons] at hf
    rw [endF]
    have := end_ge hf.2.2.2
    exact ⟨by omega, fun _ => this.2 hf.2.2.1⟩
theorem end_lt {n : Int} {r : Int} : ∀ {s : List Sp} {last : Int}, fitF n last s = true → hasL s r = true → r < endF last s
  | [], _, _, h => by cases h
  | p :: s, last, hf, h => by
    rw [fitF_cons] at hf
    rw [endF]
    rw [has_cons, Bool.or_eq_true] at h
    rcases h with h | h
    · simp at h
      have := end_ge hf.2.2.2
      omega
    · exact end_lt hf.2.2.2 h
theorem has_past {n r : Int} {s : List Sp} (hf : fitF n (-1) s = true) (h : endF 0 s ≤ r) : hasL s r = false := by
  cases hh : hasL s r with
  | false => rfl
  | true =>
    cases s with
    | nil => cases hh
    | cons p s =>
      have h1 := end_lt hf hh
      rw [endF] at h h1
      omega
theorem end_bound {n : Int} {s : List Sp} (h : fitL n s = true) : 0 ≤ endF 0 s ∧ endF 0 s ≤ n := by
  have h' := fitL_iff.1 h
  cases s with
  | nil => exact ⟨Int.le_refl _, h'.1⟩
  | cons p s =>
    have := fitF_cons.1 h'.2.2
    have k := end_ge this.2.2.2
    rw [endF]
    exact ⟨by omega, k.2 this.2.2.1⟩
def stepG (k : Nat) (ga gb : Int → Bool) (g : Bool → Bool → Bool) (r : Int) : Bool := if r < (k : Int) then g (ga r) (gb r) else ga r
theorem stepG_zero (N : Nat) (ga gb : Int → Bool) (g : Bool → Bool → Bool) : mkM N (stepG 0 ga gb g) = mkM N ga := mk_congr fun k _ => by unfold stepG; rw [if_neg (by omega)]
theorem stepG_at (k : Nat) (ga gb : Int → Bool) (g : Bool → Bool → Bool) : stepG k ga gb g (k : Int) = ga k := by unfold stepG; rw [if_neg (by omega)]
theorem stepG_next (N k : Nat) (ga gb : Int → Bool) (g : Bool → Bool → Bool) : (mkM N (stepG k ga gb g)).set k (g (ga k) (gb k)) = mkM N (stepG (k + 1) ga gb g) := by
  refine mk_set _ _ _ fun j _ => ?_
  unfold stepG
  by_cases h : j = k
  · subst h; rw [if_pos rfl, if_pos (by omega)]
  · rw [if_neg h]
    by_cases h2 : j < k
    · rw [if_pos (by omega), if_pos (by omega)]
    · rw [if_neg (by omega), if_neg (by omega)]
theorem stepG_end (N : Nat) (ga gb : Int → Bool) (g : Bool → Bool → Bool) : mkM N (stepG N ga gb g) = mkM N (fun r => g (ga r) (gb r)) := mk_congr fun k hk => by unfold stepG; rw [if_pos (by omega)]
theorem both_set {n : Int} {N : Nat} {f : Int → Bool} (h0 : 0 ≤ n) (h1 : n ≤ 65536) (hN : (N : Int) ≤ n) (h6 : N ≤ 65536) (xs : List Bool) (hx : xs = mkM N f) (hf : ∀ r, (r < 0 ∨ (N : Int) ≤ r) → f r = false) : IsSet n f (whereL (atP xs) (cnt (N : Int))) := by
  subst hx
  have hc : cnt (N : Int) = N := by unfold cnt; omega
  rw [hc]
  have hs := where_set (atP (mkM N f)) N h6
  have hu := hs.up hN h1
  refine ⟨hu.fit, fun r => ?_⟩
  rw [hu.has]
  by_cases a0 : 0 ≤ r
  · by_cases a1 : r < (N : Int)
    · rw [atP_mk f r.toNat (by omega), show ((r.toNat : Nat) : Int) = r by omega]
      simp [a0, a1]
    · rw [hf r (.inr (by omega))]; simp [a1]
  · rw [hf r (.inl (by omega))]; simp [a0]
theorem has_neg {n : Int} {s : List Sp} {r : Int} (hf : fitF n (-1) s = true) (h : r < 0) : hasL s r = false := fit_out hf (.inl (by omega))

set_option maxRecDepth 100000 in
theorem end_any (v : Value) (s : List Sp) (w : World) (hA : Spans w v s) (hl : s.length ≤ 1000000000000) : Calls Tryd.prog 54 #[v] w fun e w' => e = .returned (.int .i64 (endF 0 s)) ∧ w' = w := by
  obtain ⟨aa, ca, rfl, hra⟩ := hA
  rcases snoc_or s with rfl | ⟨t, p, rfl⟩
  · clear hra
    go_enter Tryd.func54, Tryd.ntmps54
    go_wp2_with fail
    go_ret
    exact ⟨rfl, rfl⟩
  · obtain ⟨b, off, rfl, hlb, hc⟩ : ∃ b off, aa = some ⟨b, off, none⟩ ∧ b < w.heap.size ∧ SRow w b off (t ++ [p]) := by
      rcases hra with h0 | h0
      · simp at h0
      · exact h0
    obtain ⟨c0, c1⟩ := hc t.length (by simp)
    have HE := hide (endF_snoc p t 0)
    rw [List.getElem_append_right (Nat.le_refl _)] at c0 c1
    simp only [Nat.sub_self, List.getElem_cons_zero] at c0 c1
    rw [List.length_append, List.length_singleton] at hl ⊢
    have hq : (((t.length + 1 : Nat) : Int) == 0) = false := int_ne0 (by omega)
    have hlt : (t.length : Int) < ((t.length + 1 : Nat) : Int) := by omega
    clear hra hc
    obtain ⟨x0, x1⟩ := p
    dsimp only at *
    go_enter Tryd.func54, Tryd.ntmps54
    go_wp2_with fail
    go_ret
    exact ⟨ret_i HE.out.symm, rfl⟩
def inF (f : Int → Bool) (x0 : Int) (q : Nat) (r : Int) : Bool := f r || (decide (x0 ≤ r) && decide (r < x0 + q))
theorem inF_zero (N : Nat) (f : Int → Bool) (x0 : Int) : mkM N (inF f x0 0) = mkM N f := mk_congr fun k _ => by
  unfold inF
  have : (decide (x0 ≤ (k : Int)) && decide ((k : Int) < x0 + (0 : Nat))) = false := by simp
  rw [this]; simp
theorem inF_next (N : Nat) (f : Int → Bool) (x0 : Int) (q k : Nat) (h : x0 + q = (k : Int)) : (mkM N (inF f x0 q)).set k true = mkM N (inF f x0 (q + 1)) := by
  refine mk_set _ _ _ fun j _ => ?_
  unfold inF
  by_cases e : j = k
  · subst e
    rw [if_pos rfl]
    simp
    omega
  · rw [if_neg e]
    congr 1
    rw [Bool.eq_iff_iff]; simp; omega
theorem inF_end (N : Nat) (s : List Sp) (i : Nat) (h : i < s.length) (q : Nat) (hq : s[i].2 - s[i].1 = (q : Int)) : mkM N (inF (hasL (s.take i)) s[i].1 q) = mkM N (hasL (s.take (i + 1))) := mk_congr fun k _ => by
  rw [List.take_succ_eq_append_getElem h, has_app, has_cons, has_nil, Bool.or_false]
  unfold inF
  congr 1
  rw [Bool.eq_iff_iff]; simp; omega

set_option maxRecDepth 100000 in
set_option maxHeartbeats 4000000 in
theorem marks_any (n : Int) (v : Value) (s : List Sp) (N : Nat) (w : World) (hA : Spans w v s) (hf : fitL n s = true) (hE : endF 0 s ≤ (N : Int)) (hN : N ≤ 65536) :
    Calls Tryd.prog 55 #[v, .int .i64 (N : Int)] w fun e w' => ∃ X, e = .returned (.slice (some ⟨X, 0, none⟩) N N) ∧ BW w X (mkM N (hasL s)) w' := by
  have hl := fit_len hf
  have hf' := fitL_iff.1 hf
  have HB : Hid (∀ p ∈ s, 0 ≤ p.1 ∧ p.1 < p.2 ∧ p.2 ≤ (N : Int)) := fun p hp => by
    have h1 := fitF_mem hf'.2.2 p hp
    have h2 : hasL s (p.2 - 1) = true := (has_iff _ _).2 ⟨p, hp, by omega, by omega⟩
    have h3 : ¬ endF 0 s ≤ p.2 - 1 := fun h => by rw [has_past hf'.2.2 h] at h2; cases h2
    omega
  clear hf hf' hE
  obtain ⟨aa, ca, rfl, hra⟩ := hA
  have HA := hide hra
  clear hra
  have M1 := mkB N (by omega)
  go_enter Tryd.func55, Tryd.ntmps55
  go_wp2_with fail
  have B0 := BW.start w (List.replicate N false)
  have B0 : BW w w.heap.size (mkM N (hasL (s.take 0))) (w.alloc (.cells (boolCells (List.replicate N false)) 4)) := ⟨B0.bel, B0.le, by rw [B0.cells, mk_false]; rfl⟩
  clear M1
  go_loopw [6] (fun x wr => ∃ i : Nat, i ≤ s.length ∧ x = .int .i64 i ∧ BW w w.heap.size (mkM N (hasL (s.take i))) wr) (fun x _ => s.length - (intOf x).toNat)
  case atStart => exact ⟨0, by omega, rfl, B0⟩
  case round =>
    clear B0
    obtain ⟨i, hi, rfl, hW⟩ := hrel
    by_cases hlt : i < s.length
    · have hlt' : (i : Int) < (s.length : Int) := by omega
      obtain ⟨b, off, rfl, hlb, hc⟩ : ∃ b off, aa = some ⟨b, off, none⟩ ∧ b < w.heap.size ∧ SRow w b off s := by
        rcases HA.out with h0 | h0
        · rw [h0] at hlt; simp at hlt
        · exact h0
      obtain ⟨c0, c1⟩ := hc i hlt
      have hbd := HB.out s[i] (List.getElem_mem hlt)
      have HN := hide (inF_end N s i hlt)
      clear hc
      generalize s[i] = p at *
      obtain ⟨x0, x1⟩ := p
      dsimp only at c0 c1 hbd HN
      obtain ⟨D, hD⟩ : ∃ D : Nat, x1 - x0 = (D : Int) := ⟨(x1 - x0).toNat, by omega⟩
      have HN := hide (HN.out D hD)
      generalize hasL (s.take i) = f at *
      have hW0 : BW w w.heap.size (mkM N (inF f x0 0)) wr := by rw [inF_zero]; exact hW
      have d0 : wr.cell? ⟨b, off + i * 2, none⟩ = some (.int .i64 x0) := by rw [← c0]; simp only [World.cell?]; rw [hW.bel.block b hlb]
      clear hW
      go_wp2_with fail
      clear d0
      go_loopw [7] (fun x ws => ∃ q : Nat, q ≤ D ∧ x = .int .i64 (x0 + q) ∧ BW w w.heap.size (mkM N (inF f x0 q)) ws) (fun x _ => D - (intOf x - x0).toNat)
      case atStart => exact ⟨0, by omega, by simp, hW0⟩
      case round =>
        clear hW0
        obtain ⟨q, hq, rfl, hW⟩ := hrel
        have d1 : wr.cell? ⟨b, off + i * 2 + 1, none⟩ = some (.int .i64 x1) := by rw [← c1]; simp only [World.cell?]; rw [hW.bel.block b hlb]
        by_cases hqD : q < D
        · have hqx : x0 + (q : Int) < x1 := by omega
          obtain ⟨k, hk⟩ : ∃ k : Nat, x0 + (q : Int) = (k : Int) := ⟨(x0 + q).toNat, by omega⟩
          have hkN : k < N := by omega
          have hkN' : (k : Int) < (N : Int) := by omega
          have HU := hide (inF_next N f x0 q k hk)
          have ck := hW.cell k (by rw [mk_len]; exact hkN)
          have fk := hW.free k
          have HP := hide (hW.put k true)
          rw [hk] at hqx ⊢
          generalize (mkM N (inF f x0 q))[k]'(by rw [mk_len]; exact hkN) = bk at *
          go_wp2_with fail
          go_roundw
          case rel => exact ⟨q + 1, by omega, by congr 1; omega, by rw [← HU.out]; exact HP.out⟩
          case measure => simp [intOf]; omega
        · obtain rfl : q = D := by omega
          have hqx : ¬ x0 + (q : Int) < x1 := by omega
          go_wp2_with fail
          go_roundw
          case rel => exact ⟨i + 1, by omega, by go_num, by rw [← HN.out]; exact hW⟩
          case measure => simp [intOf]; omega
    · have hlt' : ¬ (i : Int) < (s.length : Int) := by omega
      have HE : Hid (s.take i = s) := List.take_of_length_le (by omega)
      go_wp2_with fail
      go_ret
      exact ⟨_, rfl, by have := hW; rwa [HE.out] at this⟩

end Go.Proofs.YtmpegkcleajhhaaDoor
