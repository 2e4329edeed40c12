/-
  Plain laws: within a token, and behind it; the document's trimming; no program is named here.
-/
import Derived.Test.YtpedljmpobhimaaGreatDoorLc
namespace Go.Proofs.YtpedljmpobhimaaGreatDoor
set_option linter.unusedVariables false

theorem word_not (c : UInt8) (h : wordB c = true) : isC (c.toNat : Int) 1 = false ∧ markB c = false := by
  have := all8 (fun c => !wordB c || (!isC (c.toNat : Int) 1 && !markB c)) (by decide +kernel) c
  simpa [h] using this
theorem digit_not (c : UInt8) (h : isC (c.toNat : Int) 1 = true) : wordB c = false ∧ markB c = false := by
  have := all8 (fun c => !isC (c.toNat : Int) 1 || (!wordB c && !markB c)) (by decide +kernel) c
  simpa [h] using this
/-- All bytes of a token are of one kind. -/
theorem tok_kind (l : List UInt8) : (∀ c ∈ l.take (tkN l), isC (c.toNat : Int) 1 = true) ∨ (∀ c ∈ l.take (tkN l), wordB c = true) := by
  unfold tkN
  split
  · exact .inl (take_run l)
  · exact .inr (take_wd l)
theorem mem_take_at (l : List UInt8) (n i : Nat) (hi : i < n) (hl : i < l.length) : l[i] ∈ l.take n := by
  have : (l.take n)[i]? = some l[i] := by rw [List.getElem?_take, if_pos hi, List.getElem?_eq_getElem hl]
  exact List.mem_of_getElem? this
theorem tok_in (l : List UInt8) (a j : Nat) (h1 : a ≤ j) (h2 : j < a + tkN (l.drop a)) (hj : j < l.length) : markB l[j] = false ∧ (a < j → isC (l[j].toNat : Int) 1 = isC ((l.getD (j - 1) 0).toNat : Int) 1) := by
  have hm : ∀ i (hi : i < l.length), a ≤ i → i < a + tkN (l.drop a) → l[i] ∈ (l.drop a).take (tkN (l.drop a)) := fun i hi h3 h4 => by
    have hlt : i - a < (l.drop a).length := by rw [List.length_drop]; omega
    have := mem_take_at (l.drop a) (tkN (l.drop a)) (i - a) (by omega) hlt
    rw [List.getElem_drop] at this
    have e : a + (i - a) = i := by omega
    simpa only [e] using this
  have g : ∀ h : a < j, l.getD (j - 1) 0 = l[j - 1]'(by omega) := fun h => by rw [List.getD_eq_getElem?_getD, List.getElem?_eq_getElem (by omega)]; rfl
  rcases tok_kind (l.drop a) with hk | hk
  · refine ⟨(digit_not _ (hk _ (hm j hj h1 h2))).2, fun h => ?_⟩
    rw [g h, hk _ (hm j hj h1 h2), hk _ (hm (j - 1) (by omega) (by omega) (by omega))]
  · refine ⟨(word_not _ (hk _ (hm j hj h1 h2))).2, fun h => ?_⟩
    rw [g h, (word_not _ (hk _ (hm j hj h1 h2))).1, (word_not _ (hk _ (hm (j - 1) (by omega) (by omega) (by omega)))).1]
theorem run_stop : ∀ (l : List UInt8) (h : runL 1 l < l.length), isC (l[runL 1 l].toNat : Int) 1 = false
  | [], h => by simp at h
  | c :: r, h => by
    by_cases hc : isC (c.toNat : Int) 1 = true
    · have e : runL 1 (c :: r) = runL 1 r + 1 := by rw [runL, if_pos hc]
      have h' : runL 1 r < r.length := by rw [e] at h; simpa using h
      have := run_stop r h'
      simpa only [e, List.getElem_cons_succ] using this
    · have e : runL 1 (c :: r) = 0 := by rw [runL, if_neg hc]
      simp only [e, List.getElem_cons_zero]
      simpa using hc
theorem wd_stop : ∀ (l : List UInt8) (h : wdN l < l.length), wordB l[wdN l] = false
  | [], h => by simp at h
  | c :: r, h => by
    by_cases hc : wordB c = true
    · have e : wdN (c :: r) = wdN r + 1 := by unfold wdN; rw [List.takeWhile_cons, if_pos hc, List.length_cons]
      have h' : wdN r < r.length := by rw [e] at h; simpa using h
      have := wd_stop r h'
      simpa only [e, List.getElem_cons_succ] using this
    · have e : wdN (c :: r) = 0 := by unfold wdN; rw [List.takeWhile_cons, if_neg hc]; rfl
      simp only [e, List.getElem_cons_zero]
      simpa using hc
/-- Behind a token stands a mark, or a byte of the other kind. -/
theorem tok_stop (l : List UInt8) (hok : ∀ c ∈ l, okM c = true) (h0 : 0 < tkN l) (h : tkN l < l.length) (hm : markB l[tkN l] = false) :
    isC (l[tkN l].toNat : Int) 1 = !isC ((l.getD (tkN l - 1) 0).toNat : Int) 1 ∧ numB (l.take (tkN l)) = isC ((l.getD (tkN l - 1) 0).toNat : Int) 1 := by
  have hg : l.getD (tkN l - 1) 0 = l[tkN l - 1]'(by omega) := by rw [List.getD_eq_getElem?_getD, List.getElem?_eq_getElem (by omega)]; rfl
  have hmem := mem_take_at l (tkN l) (tkN l - 1) (by omega) (by omega)
  rw [hg]
  by_cases hr : 0 < runL 1 l
  · have ht : tkN l = runL 1 l := by unfold tkN; rw [if_pos hr]
    have h1 : isC ((l[tkN l - 1]'(by omega)).toNat : Int) 1 = true := by
      have := take_run l _ (by rw [← ht]; exact hmem)
      exact this
    have h2 : isC (l[tkN l].toNat : Int) 1 = false := by
      have := run_stop l (by omega)
      simpa only [ht] using this
    have h3 : numB (l.take (tkN l)) = true := by
      cases l with
      | nil => simp at h
      | cons c r =>
        rw [runL] at hr
        split at hr
        · rename_i hc
          obtain ⟨k, hk⟩ : ∃ k, tkN (c :: r) = k + 1 := ⟨tkN (c :: r) - 1, by omega⟩
          rw [hk, List.take_succ_cons]
          exact hc
        · omega
    rw [h1, h2, h3]; exact ⟨rfl, rfl⟩
  · have ht : tkN l = wdN l := by unfold tkN; rw [if_neg hr]
    have h1 : isC ((l[tkN l - 1]'(by omega)).toNat : Int) 1 = false := by
      have := take_wd l _ (by rw [← ht]; exact hmem)
      exact (word_not _ this).1
    have h2 : wordB l[tkN l] = false := by
      have := wd_stop l (by omega)
      simpa only [ht] using this
    have h3 : isC (l[tkN l].toNat : Int) 1 = true := by
      have := hok _ (List.getElem_mem h)
      unfold okM at this
      rw [h2, hm] at this
      simpa using this
    have h4 : numB (l.take (tkN l)) = false := by
      cases l with
      | nil => simp at h
      | cons c r =>
        obtain ⟨k, hk⟩ : ∃ k, tkN (c :: r) = k + 1 := ⟨tkN (c :: r) - 1, by omega⟩
        rw [hk, List.take_succ_cons]
        rw [runL] at hr
        split at hr
        · omega
        · rename_i hc
          simpa [numB] using hc
    rw [h1, h3, h4]; exact ⟨rfl, rfl⟩
theorem tok_near (d : Bool) (t : List UInt8) (b c : Bool) (h : numB t = true ∨ b = c) : tokL d t b = tokL d t c := by
  unfold tokL
  rcases h with h | h
  · rw [h]; rfl
  · rw [h]

/-! ### The document's trimming: the last loose null goes, again and again -/
/-- Does a null stand loose at a place? -/
def looseAt (l : List Tok) (i : Nat) : Bool := nullB (l.getD i nilT) && looseB (l.getD (i + 1) nilT)
/-- Without the one at a place. -/
def cutAt (l : List Tok) (i : Nat) : List Tok := l.take i ++ l.drop (i + 1)
theorem cut_len (l : List Tok) (i : Nat) (h : i < l.length) : (cutAt l i).length + 1 = l.length := by
  unfold cutAt
  rw [List.length_append, List.length_take, List.length_drop]
  omega
theorem trim_tail : ∀ (l : List Tok) (i : Nat), (∀ j, i ≤ j → j < l.length → looseAt l j = false) → trimR (l.drop i) = l.drop i := by
  intro l i
  induction hn : l.length - i generalizing i with
  | zero =>
    intro _
    rw [List.drop_eq_nil_of_le (by omega)]
    rfl
  | succ n ih =>
    intro h
    have hi : i < l.length := by omega
    have ihh := ih (i + 1) (by omega) (fun j h1 h2 => h j (by omega) h2)
    rw [List.drop_eq_getElem_cons hi, trimR, ihh]
    have hl := h i (Nat.le_refl _) hi
    unfold looseAt at hl
    rw [List.getD_eq_getElem?_getD, List.getElem?_eq_getElem hi] at hl
    have hd : (l.drop (i + 1)).headD nilT = l.getD (i + 1) nilT := by rw [List.headD_eq_head?_getD, List.head?_drop, List.getD_eq_getElem?_getD]
    rw [hd, if_neg]
    simpa using hl
theorem trim_split : ∀ (a b : List Tok), trimR (a ++ b) = trimR (a ++ trimR b)
  | [], b => by rw [List.nil_append, List.nil_append, trimR_idem]
  | x :: a, b => by rw [List.cons_append, List.cons_append, trimR, trimR, trim_split a b]
/-- The last loose null plays no part. -/
theorem trim_cut (l : List Tok) (i : Nat) (hi : i < l.length) (hl : looseAt l i = true) (h : ∀ j, i < j → j < l.length → looseAt l j = false) : trimR (cutAt l i) = trimR l := by
  have e : l = l.take i ++ l.drop i := (List.take_append_drop i l).symm
  have ht := trim_tail l (i + 1) (fun j h1 h2 => h j h1 h2)
  have hd : trimR (l.drop i) = l.drop (i + 1) := by
    rw [List.drop_eq_getElem_cons hi, trimR, ht]
    unfold looseAt at hl
    rw [List.getD_eq_getElem?_getD, List.getElem?_eq_getElem hi] at hl
    have hh : (l.drop (i + 1)).headD nilT = l.getD (i + 1) nilT := by rw [List.headD_eq_head?_getD, List.head?_drop, List.getD_eq_getElem?_getD]
    rw [hh, if_pos (by simpa using hl)]
  have e2 : trimR l = trimR (l.take i ++ trimR (l.drop i)) := by rw [← trim_split, ← e]
  rw [e2, hd]
  rfl
theorem trim_none (l : List Tok) (h : ∀ j, j < l.length → looseAt l j = false) : trimR l = l := by
  have := trim_tail l 0 (fun j _ h2 => h j h2)
  simpa using this

end Go.Proofs.YtpedljmpobhimaaGreatDoor
