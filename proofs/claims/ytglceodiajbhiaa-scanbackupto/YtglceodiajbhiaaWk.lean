/-
  Walks: a text without the byte 13 at its end.
-/
import Derived.Test.YtglceodiajbhiaaWj
namespace Go.Proofs.Ytglceodiajbhiaa
open Go.RowKit Go.Shelf
set_option linter.unusedVariables false

/-- Does a text end with the byte 13? -/
def endsCR (t : ByteArray) : Bool := decide (0 < t.size ∧ t.data.toList.getD (t.size - 1) 0 = 13)
/-- A text without the byte 13 at its end. -/
def trimCR (t : ByteArray) : ByteArray := if endsCR t = true then t.extract 0 (t.size - 1) else t

set_option maxHeartbeats 400000 in
theorem HasSuffix_any (t : ByteArray) (w : World) (ht : t.size ≤ maxLen) :
    Calls Try.prog 46 #[.string t, .string ⟨#[13]⟩] w fun e w' => e = .returned (.bool (endsCR t)) ∧ w' = w := by
  unfold maxLen at ht
  by_cases hp : 0 < t.size
  · obtain ⟨m, hm⟩ : ∃ m, t.size = m + 1 := ⟨t.size - 1, by omega⟩
    have e1 : (t.extract m t.size).toList = [t.data.toList.getD m 0] := by
      rw [toL, extract_end, ofL_data, drop_at t m (by omega), drop_end t (m + 1) (by omega), getD_at t m (by omega)]
    have HE : Hid (((t.extract m (m + 1)).toList == [13]) = endsCR t) := by
      show _ = _
      rw [← hm, e1, endsCR, hm, Nat.add_sub_cancel, Bool.eq_iff_iff]
      simp
    have h13 : (ByteArray.mk #[13]).toList = [13] := by rw [toL]
    have hz : (ByteArray.mk #[13]).size = 1 := rfl
    generalize endsCR t = D at *
    clear e1 hp
    go_enter Try.func46, Try.ntmps46
    go_wp2
    go_ret
    exact ⟨ret_b HE.out, rfl⟩
  · have HE : Hid (endsCR t = false) := by
      show _ = _
      simp [endsCR, hp]
    have hz : (ByteArray.mk #[13]).size = 1 := rfl
    go_enter Try.func46, Try.ntmps46
    go_wp2
    go_ret
    exact ⟨ret_b HE.out.symm, rfl⟩

set_option maxHeartbeats 400000 in
theorem TrimSuffixL_any (t : ByteArray) (w : World) (ht : t.size ≤ maxLen) :
    Calls Try.prog 44 #[.string t, .string ⟨#[13]⟩] w fun e w' => e = .returned (.string (trimCR t)) ∧ w' = w := by
  have hz : (ByteArray.mk #[13]).size = 1 := rfl
  by_cases he : endsCR t = true
  · have HT : Hid (trimCR t = t.extract 0 (t.size - 1)) := by show _ = _; rw [trimCR, if_pos he]
    have hp : 0 < t.size := (of_decide_eq_true he).1
    obtain ⟨m, hm⟩ : ∃ m, t.size = m + 1 := ⟨t.size - 1, by omega⟩
    have HM : Hid (t.size = m + 1) := hm
    have hm1 : t.size ≤ m + 1 := by omega
    have hm2 : m + 1 ≤ t.size := by omega
    have HS := hide (HasSuffix_any t w ht)
    unfold maxLen at ht
    clear hp
    go_enter Try.func44, Try.ntmps44
    go_wp2_with (go_at_call 46; refine HS.out.mono ?_; rintro e w' ⟨rfl, rfl⟩)
    go_ret
    exact ⟨ret_s (by rw [HT.out, HM.out]; rfl), rfl⟩
  · have he' : endsCR t = false := by simpa using he
    have HT : Hid (trimCR t = t) := by show _ = _; rw [trimCR, if_neg he]
    have HS := hide (HasSuffix_any t w ht)
    go_enter Try.func44, Try.ntmps44
    go_wp2_with (go_at_call 46; refine HS.out.mono ?_; rintro e w' ⟨rfl, rfl⟩)
    go_ret
    exact ⟨ret_s (by rw [HT.out]), rfl⟩

set_option maxHeartbeats 400000 in
theorem TrimSuffix_any (t : ByteArray) (w : World) (ht : t.size ≤ maxLen) :
    Calls Try.prog 39 #[.string t, .string ⟨#[13]⟩] w fun e w' => e = .returned (.string (trimCR t)) ∧ w' = w := by
  have HS := hide (TrimSuffixL_any t w ht)
  go_enter Try.func39, Try.ntmps39
  go_wp2_with (go_at_call 44; refine HS.out.mono ?_; rintro e w' ⟨rfl, rfl⟩)
  go_ret
  exact ⟨rfl, rfl⟩

/-! ### A region that draws its order, in a round of a loop over an iterator: as outside of one, where nothing is deferred -/

section
variable {F : Fence} {n l : Nat} {P : Program} {ops : Array Oper} {Q : Exit → Act → World → Prop} {md : Region.Mode}

theorem oper_round {o : Oper} (hro : F.round = none) (hd : ∀ c, o.op ≠ .defer c) {a : Act} {w : World} {K : Act → World → Prop} (h : Oper.wpIn F n P o a w K Q) : Oper.wpIn (F.inRound l) n P o a w K Q := by
  unfold Oper.wpIn at *
  refine ⟨h.1, ?_⟩
  have h2 := h.2
  rw [Oper.semAt_plain F _ _ hd] at h2
  rw [Oper.semAt_plain (F.inRound l) _ _ hd]
  exact h2

theorem wpOpIn_round (hro : F.round = none) (hd : ∀ (i : Nat) (o : Oper), ops[i]? = some o → ∀ c, o.op ≠ .defer c) {i : Nat} {K : Act → World → Prop} {a : Act} {w : World} (h : wpOpIn F n P ops Q i K a w) : wpOpIn (F.inRound l) n P ops Q i K a w := by
  unfold wpOpIn at *
  cases ho : ops[i]? with
  | none => simpa [ho] using h
  | some o =>
    simp only [ho] at h ⊢
    split
    · rename_i hw; simp only [hw, if_true] at h; exact oper_round hro (hd i o ho) h
    · rename_i hw; simp only [hw] at h; exact h

theorem wpAnyIn_round (hro : F.round = none) (hd : ∀ (i : Nat) (o : Oper), ops[i]? = some o → ∀ c, o.op ≠ .defer c) :
    ∀ (fuel : Nat) (listed : Array Bool) (a : Act) (w : World), wpAnyIn F n P md ops Q fuel listed a w → wpAnyIn (F.inRound l) n P md ops Q fuel listed a w
  | 0, _, _, _, h => h
  | fuel + 1, listed, a, w, h => ⟨h.1, fun i hi => wpOpIn_mono (fun a' w' h' => wpAnyIn_round hro hd fuel _ a' w' h') (wpOpIn_round hro hd (h.2 i hi))⟩

/-- append onto a row of the call's own, as one step of a region that draws. -/
theorem stepIn_append_own {o : Oper} {a : Act} {w : World} {K : Act → World → Prop} {E : Prop}
    (hg : o.guard = none) (s x : Operand) (t : TypeId) (hop : o.op = Op.call { callee := Callee.builtin Builtin.append, args := #[s, x], argTypes := #[t, t] })
    (base : Nat) (e : TypeId) (i : TypeInfo) (z : Value) (size bytes : Nat) (h1 : P.underlying t = some (.slice e)) (h2 : P.info? e = some i) (h3 : i.zero = some z) (h4 : i.size = size) (h5 : i.bytes = bytes) (h6 : z.cells.size = size) (h7 : 0 < size)
    (v : Value) (k : Nat) (xs : List Value) (hs : a.eval s = v) (hown : w.ownsRow base e size v k xs) (ad : Addr) (m c : Nat) (news : List Value) (hx : a.eval x = .slice (some ad) m c) (hn : news.length = m * size)
    (hc : ∀ j u, news[j]? = some u → w.cell? (ad.add j) = some u) (h1c : ∀ u ∈ news, u.oneCell' = true) (b1 : k + m ≤ maxLen) (b2 : (k + m) * bytes ≤ 140737488355328) (b3 : base ≤ w.heap.size)
    (hK : ∀ v' w', w'.ownsRow base e size v' (k + m) (xs ++ news) → w.grownBy w' v.ownBlock → (v' = .slice none 0 0 ↔ v = .slice none 0 0 ∧ m = 0) → K (a.put o.dst v') w') :
    if Region.wanted o (yielded ops a.tmps) = true then Oper.wpIn F n P o a w K Q else E := by
  have hw : Region.wanted o (yielded ops a.tmps) = true := by simp [Region.wanted, hg]
  rw [if_pos hw]
  obtain ⟨v', w', hrun, r1, r2, r3⟩ := run_append_own (P := P) w base t o.type e i z size bytes h1 h2 h3 h4 h5 h6 h7 v k xs hown ad m c news hn hc h1c b1 b2 b3
  unfold Oper.wpIn
  refine ⟨?_, ?_⟩
  · simp [Oper.about, hop, resolve, Target.leads, Sem.run_pure]
  · rw [Oper.semAt_plain F _ _ (by rw [hop]; intro c hc'; cases hc')]
    simp [execOp, hop, resolve, invoke, builtin, hs, hx, hrun, Result.andThen]
    exact hK v' w' r1 r2 r3
end

end Go.Proofs.Ytglceodiajbhiaa
