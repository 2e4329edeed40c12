/-
  Walks: the document's nulls; rows of tokens appended.
-/
import Derived.Test.YtpedljmpobhimaaGreatDoorEa
import Derived.Test.YtpedljmpobhimaaGreatDoorLd
import Derived.Laws.AppendOwnNone
namespace Go.Proofs.YtpedljmpobhimaaGreatDoor
open Go.RowKit Go.Shelf
set_option linter.unusedVariables false

set_option maxHeartbeats 1000000 in
theorem Rnull_any (t : Tok) (w : World) :
    Calls Tryz.prog 104 #[tokV t] w fun e w' => e = .returned (.bool (nullB t)) ∧ Below w.heap.size w w' := by
  obtain ⟨d, n, x⟩ := t
  unfold tokV
  dsimp only
  cases n
  · have HN : Hid (nullB ⟨d, false, x⟩ = (ofL x).toList.isEmpty) := by show _ = _; rw [toL, ofL_data]; cases x <;> rfl
    generalize nullB ⟨d, false, x⟩ = R at *
    cases hb : (ofL x).toList.isEmpty
    · go_enter Tryz.func104, Tryz.ntmps104
      go_wp2_with fail
      go_ret
      exact ⟨by rw [HN.out, hb]; rfl, (Below.refl _ w).alloc (Nat.le_refl _) _⟩
    · go_enter Tryz.func104, Tryz.ntmps104
      go_wp2_with fail
      go_ret
      exact ⟨by rw [HN.out, hb]; rfl, (Below.refl _ w).alloc (Nat.le_refl _) _⟩
  · have HN : Hid (nullB ⟨d, true, x⟩ = ((ofL x).toList == [48])) := by show _ = _; rw [toL, ofL_data]; rfl
    generalize nullB ⟨d, true, x⟩ = R at *
    cases hb : ((ofL x).toList == [48])
    · go_enter Tryz.func104, Tryz.ntmps104
      go_wp2_with fail
      go_ret
      exact ⟨by rw [HN.out, hb]; rfl, (Below.refl _ w).alloc (Nat.le_refl _) _⟩
    · go_enter Tryz.func104, Tryz.ntmps104
      go_wp2_with fail
      go_ret
      exact ⟨by rw [HN.out, hb]; rfl, (Below.refl _ w).alloc (Nat.le_refl _) _⟩

set_option maxRecDepth 100000 in
set_option maxHeartbeats 2000000 in
theorem Rloose_any (g cap : Nat) (sp : List Value) (ts : List Tok) (i : Nat) (w : World) (hW : w.heap[g]? = some (.cells (flatT ts ++ sp).toArray 91 (0, 0))) (hi : i < ts.length) (hl : ts.length ≤ 1000000000000) :
    Calls Tryz.prog 82 #[.slice (some ⟨g, 0, none⟩) ts.length cap, .int .i64 (i : Int)] w fun e w' => e = .returned (.bool (looseAt ts i)) ∧ Below w.heap.size w w' := by
  have hk : KW w g sp ts w := ⟨Turn.refl _ _, hW⟩
  obtain ⟨c0, c1, c2⟩ := hk.seen i (ts.getD i nilT) (by rw [List.getD_eq_getElem?_getD, List.getElem?_eq_getElem hi]; rfl)
  have hgl := hk.lt
  have NU := fun w => Rnull_any (ts.getD i nilT) w
  unfold tokV at NU
  have NU := hide NU
  have HLA : Hid (looseAt ts i = (nullB (ts.getD i nilT) && looseB (ts.getD (i + 1) nilT))) := rfl
  generalize looseAt ts i = R at *
  generalize ts.getD i nilT = t at *
  have hi' : (i : Int) < (ts.length : Int) := by omega
  cases hn : nullB t
  · rw [hn] at NU
    go_enter Tryz.func82, Tryz.ntmps82
    go_wp2_with fail
    refine (NU.out _).mono ?_
    rintro e w1 ⟨rfl, b1⟩
    go_wp2_with fail
    go_ret
    exact ⟨by rw [HLA.out, hn]; rfl, b1⟩
  · rw [hn] at NU
    by_cases he : i + 1 = ts.length
    · have heb : ((i : Int) + 1 == (ts.length : Int)) = true := by simp; omega
      have hq : ts.getD (i + 1) nilT = nilT := by rw [List.getD_eq_getElem?_getD, List.getElem?_eq_none (by omega)]; rfl
      rw [hq] at HLA
      clear he hq
      go_enter Tryz.func82, Tryz.ntmps82
      go_wp2_with fail
      refine (NU.out _).mono ?_
      rintro e w1 ⟨rfl, b1⟩
      go_wp2_with fail
      go_ret
      exact ⟨by rw [HLA.out, hn]; rfl, b1⟩
    · have heb : ((i : Int) + 1 == (ts.length : Int)) = false := by rw [beq_eq_false_iff_ne]; omega
      obtain ⟨k, hkk⟩ : ∃ k, k = i + 1 := ⟨_, rfl⟩
      have hkl : k < ts.length := by omega
      have hki : (i : Int) + 1 = (k : Int) := by omega
      have hkl' : (k : Int) < (ts.length : Int) := by omega
      have SE : Hid (∀ W, Below w.heap.size w W → W.cell? ⟨g, k * 3, none⟩ = some (.bool (ts.getD (i + 1) nilT).dash) ∧ W.cell? ⟨g, k * 3 + 1, none⟩ = some (.bool (ts.getD (i + 1) nilT).num)) := by
        intro W hb
        have hk2 : KW w g sp ts W := ⟨Turn.ofBelow hb, (hb.block g hgl).trans hW⟩
        obtain ⟨q0, q1, _⟩ := hk2.seen k (ts.getD (i + 1) nilT) (by rw [← hkk, List.getD_eq_getElem?_getD, List.getElem?_eq_getElem hkl]; rfl)
        exact ⟨q0, q1⟩
      have HKK := hide hkk
      rw [hki] at heb
      clear hkk hk hW
      generalize ts.getD (i + 1) nilT = u at *
      cases hd : u.dash
      · cases hm : u.num
        · go_enter Tryz.func82, Tryz.ntmps82
          go_wp2_with fail
          refine (NU.out _).mono ?_
          rintro e w1 ⟨rfl, b1⟩
          obtain ⟨q0, q1⟩ := SE.out w1 b1
          rw [hd] at q0
          rw [hm] at q1
          go_wp2_with fail
          go_ret
          exact ⟨by rw [HLA.out, hn]; unfold looseB; rw [hd, hm]; rfl, b1⟩
        · go_enter Tryz.func82, Tryz.ntmps82
          go_wp2_with fail
          refine (NU.out _).mono ?_
          rintro e w1 ⟨rfl, b1⟩
          obtain ⟨q0, q1⟩ := SE.out w1 b1
          rw [hd] at q0
          rw [hm] at q1
          go_wp2_with fail
          go_ret
          exact ⟨by rw [HLA.out, hn]; unfold looseB; rw [hd, hm]; rfl, b1⟩
      · go_enter Tryz.func82, Tryz.ntmps82
        go_wp2_with fail
        refine (NU.out _).mono ?_
        rintro e w1 ⟨rfl, b1⟩
        obtain ⟨q0, q1⟩ := SE.out w1 b1
        rw [hd] at q0
        go_wp2_with fail
        go_ret
        exact ⟨by rw [HLA.out, hn]; unfold looseB; rw [hd]; rfl, b1⟩

theorem flatT_app (a b : List Tok) : flatT (a ++ b) = flatT a ++ flatT b := by simp [flatT]
theorem flatT_one (ts : List Tok) : ∀ u ∈ flatT ts, u.oneCell' = true := by
  intro u hu
  obtain ⟨t, _, h⟩ := List.mem_flatMap.1 hu
  exact rowT_one t u h
theorem addr_add (b o j : Nat) : (Addr.add ⟨b, o, none⟩ j) = ⟨b, o + j, none⟩ := by
  by_cases e0 : j = 0
  · subst e0; rfl
  · simp [Addr.add, e0]
theorem kw_take {W : World} {g : Nat} {sp : List Value} {ts : List Tok} (h : W.heap[g]? = some (.cells (flatT ts ++ sp).toArray 91 (0, 0))) (i : Nat) : ∀ j u, (flatT (ts.take i))[j]? = some u → W.cell? ((⟨g, 0, none⟩ : Addr).add j) = some u := by
  intro j u hj
  rw [addr_add, Nat.zero_add]
  refine cell_at j h ?_
  have hlt := (List.getElem?_eq_some_iff.1 hj).1
  have e : flatT ts = flatT (ts.take i) ++ flatT (ts.drop i) := by rw [← flatT_app, List.take_append_drop]
  rw [List.getElem?_toArray, e, List.append_assoc, List.getElem?_append_left hlt]
  exact hj
theorem kw_drop {W : World} {g : Nat} {sp : List Value} {ts : List Tok} (h : W.heap[g]? = some (.cells (flatT ts ++ sp).toArray 91 (0, 0))) (i : Nat) (hi : i ≤ ts.length) : ∀ j u, (flatT (ts.drop i))[j]? = some u → W.cell? ((⟨g, i * 3, none⟩ : Addr).add j) = some u := by
  intro j u hj
  rw [addr_add]
  refine cell_at _ h ?_
  have hlt := (List.getElem?_eq_some_iff.1 hj).1
  have e : flatT ts = flatT (ts.take i) ++ flatT (ts.drop i) := by rw [← flatT_app, List.take_append_drop]
  have hl : (flatT (ts.take i)).length = i * 3 := by rw [flatT_len, List.length_take]; omega
  rw [List.getElem?_toArray, e, List.append_assoc, List.getElem?_append_right (by omega), hl, Nat.add_sub_cancel_left, List.getElem?_append_left hlt]
  exact hj
theorem own_shapeT {W : World} {B n : Nat} {v : Value} {xs : List Value} (h : W.ownsRow B 91 3 v n xs) : ∃ ao cv, v = .slice ao n cv := by
  rcases h.2 with ⟨h, h0⟩ | ⟨g, cap, cur, h1, _⟩
  · exact ⟨none, 0, by rw [h, h0]⟩
  · exact ⟨_, _, h1⟩
theorem own_blockT (ao : Option Addr) (n cv : Nat) : (Value.slice ao n cv).ownBlock = ao.map (·.block) := by cases ao <;> rfl

theorem app_tok {w : World} {ops : Array Oper} {rest : List Oper} {o : Oper} {a : Act} {Q : Exit → Act → World → Prop} (hgd : o.guard = none) (s x : Operand)
    (ho : o.op = .call { callee := .builtin .append, args := #[s, x], argTypes := #[60, 60] })
    (B : Nat) (ao : Option Addr) (n cv : Nat) (S : List Tok) (hs : a.eval s = .slice ao n cv) (hown : w.ownsRow B 91 3 (.slice ao n cv) n (flatT S))
    (bo : Option Addr) (m c : Nat) (R : List Tok) (hx : a.eval x = .slice bo m c) (hR : R.length = m)
    (hnone : bo = none → m = 0 ∧ c = 0) (hc : ∀ ad, bo = some ad → ∀ j u, (flatT R)[j]? = some u → w.cell? (ad.add j) = some u) (hb : n + m ≤ 1000000000000) (hB : B ≤ w.heap.size)
    (h : ∀ ao' cv' w', w'.ownsRow B 91 3 (.slice ao' (n + m) cv') (n + m) (flatT (S ++ R)) → w.grownBy w' (ao.map (·.block)) → wpList Tryz.prog ops Q rest (a.put o.dst (.slice ao' (n + m) cv')) w') :
    wpList Tryz.prog ops Q (o :: rest) a w := by
  obtain ⟨i0, hi, hz0, hz1, hz2⟩ := info_parts Tryz.info91
  cases bo with
  | none =>
    obtain ⟨rfl, rfl⟩ := hnone rfl
    obtain rfl : R = [] := List.length_eq_zero_iff.1 hR
    refine wpList_append_own_none hgd s x 60 ho B 91 i0 3 Tryz.underlying60 hi _ n _ hs hown hx ?_
    have := h ao cv w (by simpa using hown) (World.grownBy.refl _ _)
    simpa using this
  | some ad =>
    refine wpList_append_own _ hgd s x 60 ho B 91 i0 (.agg #[.bool false, .bool false, .string .empty]) 3 24 Tryz.underlying60 hi hz0 hz1 hz2 rfl (by decide) _ n _ hs hown ad m c (flatT R) hx (by rw [flatT_len, hR]) (hc ad rfl) (flatT_one R) (by unfold maxLen; omega) (by omega) hB ?_
    intro v' w' h1 h2 _
    obtain ⟨ao', cv', rfl⟩ := own_shapeT h1
    rw [own_blockT] at h2
    exact h ao' cv' w' (by rw [flatT_app]; exact h1) h2

end Go.Proofs.YtpedljmpobhimaaGreatDoor
