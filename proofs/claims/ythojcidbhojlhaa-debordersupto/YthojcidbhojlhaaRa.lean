/-
  Walks: the document's order of parts.
-/
import Derived.Test.YthojcidbhojlhaaDr
import Derived.BigQuiet
namespace Go.Proofs.Ythojcidbhojlhaa
open Go.RowKit Go.Shelf
set_option linter.unusedVariables false

/-- The document's weight. -/
def wtD (l : List UInt8) (i : Nat) : Int := match l[i]? with
  | none => 0
  | some c => if isC (c.toNat : Int) 1 then 0 else wtB c
theorem wtD_drop (l : List UInt8) (i t : Nat) : wtD (l.drop i) t = wtD l (i + t) := by unfold wtD; rw [List.getElem?_drop]
theorem word_at : ∀ (A : List UInt8) (t : Nat), t < (wordL A).length → ∃ c, A[t]? = some c ∧ isC (c.toNat : Int) 1 = false ∧ (wordL A)[t]? = some c
  | [], t, h => by simp [wordL] at h
  | c :: r, t, h => by
    cases hc : isC (c.toNat : Int) 1
    · have e : wordL (c :: r) = c :: wordL r := by simp [wordL, hc]
      rw [e] at h ⊢
      cases t with
      | zero => exact ⟨c, rfl, hc, rfl⟩
      | succ t =>
        obtain ⟨d, h1, h2, h3⟩ := word_at r t (by simpa using h)
        exact ⟨d, by simpa using h1, h2, by simpa using h3⟩
    · have e : wordL (c :: r) = [] := by simp [wordL, hc]
      rw [e] at h; simp at h
theorem word_end : ∀ (A : List UInt8), A[(wordL A).length]? = none ∨ ∃ c, A[(wordL A).length]? = some c ∧ isC (c.toNat : Int) 1 = true
  | [] => .inl rfl
  | c :: r => by
    cases hc : isC (c.toNat : Int) 1
    · have e : wordL (c :: r) = c :: wordL r := by simp [wordL, hc]
      rw [e]
      rcases word_end r with h | ⟨d, h1, h2⟩
      · exact .inl (by simpa using h)
      · exact .inr ⟨d, by simpa using h1, h2⟩
    · have e : wordL (c :: r) = [] := by simp [wordL, hc]
      rw [e]
      exact .inr ⟨c, rfl, hc⟩
theorem wt_word (A : List UInt8) (t : Nat) (h : t ≤ (wordL A).length) : wtD A t = wtL (wordL A) t := by
  by_cases ht : t < (wordL A).length
  · obtain ⟨c, h1, h2, h3⟩ := word_at A t ht
    unfold wtD wtL
    rw [h1, if_pos ht]
    simp only [h2]
    rw [if_neg (by simp)]
    simp [List.getD, h3]
  · obtain rfl : t = (wordL A).length := by omega
    rw [wtL_out _ _ (Nat.le_refl _)]
    unfold wtD
    rcases word_end A with h1 | ⟨c, h1, h2⟩
    · rw [h1]
    · rw [h1]; simp [h2]
theorem wtB_ne (c : UInt8) (h : isC (c.toNat : Int) 1 = false) : wtB c ≠ 0 := by
  unfold wtB
  split
  · omega
  · split
    · rename_i h1 h4
      simp [isC] at h4; omega
    · omega
theorem wt_ne (A : List UInt8) (t : Nat) (h : t < (wordL A).length) : wtL (wordL A) t ≠ 0 := by
  obtain ⟨c, h1, h2, h3⟩ := word_at A t h
  unfold wtL
  rw [if_pos h]
  simp [List.getD, h3]
  exact wtB_ne c h2

set_option maxHeartbeats 1000000 in
theorem Rweight_any (s : ByteArray) (i : Nat) (w : World) (hs : s.size ≤ 9223372036854775000) :
    Calls Try.prog 44 #[.string s, .int .i64 (i : Int)] w fun e w' => e = .returned (.int .i64 (wtD s.data.toList i)) ∧ w' = w := by
  by_cases h : i < s.size
  · have hn : ¬ (s.size : Int) ≤ (i : Int) := by omega
    have hi : (i : Int) < (s.size : Int) := by omega
    have hg : s.data.toList[i]? = some s[i] := by rw [List.getElem?_eq_getElem (by rw [len_data]; exact h)]; rfl
    have hW : wtD s.data.toList i = if isC (s[i].toNat : Int) 1 then 0 else wtB s[i] := by unfold wtD; rw [hg]
    have hV : wtB s[i] = if s[i] = 126 then -1 else if isC (s[i].toNat : Int) 4 then (s[i].toNat : Int) else 256 + (s[i].toNat : Int) := rfl
    have hlt := s[i].toNat_lt
    clear hg
    generalize wtD s.data.toList i = W at *
    cases hd : isC (s[i].toNat : Int) 1
    · rw [hd, if_neg (by simp)] at hW
      by_cases h1 : s[i] = 126
      · have hb : ((s[i].toNat : Int) == 126) = true := by rw [h1]; rfl
        rw [if_pos h1] at hV
        have HW : Hid (W = -1) := hW.trans hV
        clear h1 hV hW
        go_enter Try.func44, Try.ntmps44
        go_wp2_with fail
        refine (Rdigit_any _ _).mono ?_
        rintro e w' ⟨rfl, rfl⟩
        go_wp2_with fail
        go_ret
        exact ⟨ret_i (by rw [HW.out]), rfl⟩
      · have hb : ((s[i].toNat : Int) == 126) = false := by
          have : s[i].toNat ≠ 126 := fun e => h1 (UInt8.toNat_inj.1 e)
          simp; omega
        rw [if_neg h1] at hV
        clear h1
        cases h4 : isC (s[i].toNat : Int) 4
        · rw [h4, if_neg (by simp)] at hV
          have HW : Hid (W = 256 + (s[i].toNat : Int)) := hW.trans hV
          clear hV hW
          go_enter Try.func44, Try.ntmps44
          go_wp2_with fail
          refine (Rdigit_any _ _).mono ?_
          rintro e w' ⟨rfl, rfl⟩
          go_wp2_with fail
          refine (Rletter_any _ _).mono ?_
          rintro e w' ⟨rfl, rfl⟩
          go_wp2_with fail
          go_ret
          exact ⟨ret_i (by rw [HW.out] <;> first | rfl | omega), rfl⟩
        · rw [h4, if_pos rfl] at hV
          have HW : Hid (W = (s[i].toNat : Int)) := hW.trans hV
          clear hV hW
          go_enter Try.func44, Try.ntmps44
          go_wp2_with fail
          refine (Rdigit_any _ _).mono ?_
          rintro e w' ⟨rfl, rfl⟩
          go_wp2_with fail
          refine (Rletter_any _ _).mono ?_
          rintro e w' ⟨rfl, rfl⟩
          go_wp2_with fail
          go_ret
          exact ⟨ret_i (by rw [HW.out] <;> first | rfl | omega), rfl⟩
    · rw [hd, if_pos rfl] at hW
      have HW := hide hW
      clear hW hV
      go_enter Try.func44, Try.ntmps44
      go_wp2_with fail
      refine (Rdigit_any _ _).mono ?_
      rintro e w' ⟨rfl, rfl⟩
      go_wp2_with fail
      go_ret
      exact ⟨ret_i (by rw [HW.out]), rfl⟩
  · have hn : (s.size : Int) ≤ (i : Int) := by omega
    have HW : Hid (wtD s.data.toList i = 0) := by show _ = _; unfold wtD; rw [List.getElem?_eq_none (by rw [len_data]; omega)]
    go_enter Try.func44, Try.ntmps44
    go_wp2_with fail
    go_ret
    exact ⟨ret_i (by rw [HW.out]), rfl⟩

theorem word_drop_le (s : ByteArray) (i : Nat) (h : i ≤ s.size) : i + (wordL (s.data.toList.drop i)).length ≤ s.size := by
  have := wordL_le (s.data.toList.drop i)
  rw [List.length_drop, len_data] at this; omega
/-- Where a word goes on, and where it ends. -/
theorem word_in (s : ByteArray) (i t : Nat) (hi : i ≤ s.size) (h : t < (wordL (s.data.toList.drop i)).length) : ∃ h : i + t < s.size, isC (s[i + t].toNat : Int) 1 = false := by
  have hl := word_drop_le s i hi
  have hlt : i + t < s.size := by omega
  refine ⟨hlt, ?_⟩
  obtain ⟨c, h1, h2, _⟩ := word_at _ t h
  rw [List.getElem?_drop, List.getElem?_eq_getElem (by rw [len_data]; exact hlt)] at h1
  cases h1
  exact h2
theorem word_out (s : ByteArray) (i : Nat) (hi : i ≤ s.size) : i + (wordL (s.data.toList.drop i)).length = s.size ∨ ∃ h : i + (wordL (s.data.toList.drop i)).length < s.size, isC (s[i + (wordL (s.data.toList.drop i)).length].toNat : Int) 1 = true := by
  have hl := word_drop_le s i hi
  by_cases hlt : i + (wordL (s.data.toList.drop i)).length < s.size
  · refine .inr ⟨hlt, ?_⟩
    rcases word_end (s.data.toList.drop i) with h | ⟨c, h1, h2⟩
    · rw [List.getElem?_drop, List.getElem?_eq_getElem (by rw [len_data]; exact hlt)] at h; cases h
    · rw [List.getElem?_drop, List.getElem?_eq_getElem (by rw [len_data]; exact hlt)] at h1
      cases h1
      exact h2
  · exact .inl (by omega)
/-- The sign of two weights that are not the same. -/
theorem word_ne (x y : List UInt8) (t : Nat) (h0 : wordO x y = wordO (x.drop t) (y.drop t)) (h : wtL x t ≠ wtL y t) : wordO x y = cmpI (wtL x t) (wtL y t) := by
  rw [h0, wordO_drop, if_neg]
  unfold cmpI; (repeat' split) <;> omega
theorem word_eq (x y : List UInt8) (t : Nat) (h0 : wordO x y = wordO (x.drop t) (y.drop t)) (h : wtL x t = wtL y t) : wordO x y = wordO (x.drop (t + 1)) (y.drop (t + 1)) := by
  rw [h0, wordO_drop, if_pos]
  rw [h]; exact cmpI_self _
theorem part_word (A B : List UInt8) (c : Int) (hc : c ≠ 0) (h : wordO (wordL A) (wordL B) = c) : partO A B = c := by
  have e : rowO A B = c := by unfold rowO; rw [h, if_neg hc]
  rw [partO_step, e, if_neg hc]
theorem part_digs (A B : List UInt8) (h : wordO (wordL A) (wordL B) = 0) : partO A B = if cmpD (digsL A) (digsL B) = 0 then partO (restL A) (restL B) else cmpD (digsL A) (digsL B) := by
  have e : rowO A B = cmpD (digsL A) (digsL B) := by unfold rowO; rw [h, if_pos rfl]
  rw [partO_step, e]

end Go.Proofs.Ythojcidbhojlhaa
