/-
  The plain functions on spans: what is in them, which are fit, merging, places that are true; no program is named here.
-/
import Derived.Test.YtmpegkcleajhhaaDoorGen
namespace Go.Proofs.YtmpegkcleajhhaaDoor
open Go.RowKit Go.Shelf
set_option linter.unusedVariables false

abbrev Sp := Int × Int
/-- Is a rank in one of the spans? -/
def hasL (s : List Sp) (r : Int) : Bool := s.any fun p => decide (p.1 ≤ r) && decide (r < p.2)
theorem has_nil (r : Int) : hasL [] r = false := rfl
theorem has_cons (p : Sp) (s : List Sp) (r : Int) : hasL (p :: s) r = (decide (p.1 ≤ r) && decide (r < p.2) || hasL s r) := rfl
theorem has_app (a b : List Sp) (r : Int) : hasL (a ++ b) r = (hasL a r || hasL b r) := by simp [hasL]
theorem has_iff (s : List Sp) (r : Int) : hasL s r = true ↔ ∃ p ∈ s, p.1 ≤ r ∧ r < p.2 := by simp [hasL]
/-- Spans that rise behind a place, with a rank between two. -/
def fitF (n : Int) : Int → List Sp → Bool
  | _, [] => true
  | last, p :: s => decide (last < p.1) && decide (p.1 < p.2) && decide (p.2 ≤ n) && fitF n p.2 s
def fitL (n : Int) (s : List Sp) : Bool := decide (0 ≤ n) && decide (n ≤ 65536) && fitF n (-1) s
theorem fitF_cons {n last : Int} {p : Sp} {s : List Sp} : fitF n last (p :: s) = true ↔ last < p.1 ∧ p.1 < p.2 ∧ p.2 ≤ n ∧ fitF n p.2 s = true := by
  simp [fitF, and_assoc]
theorem fitL_iff {n : Int} {s : List Sp} : fitL n s = true ↔ 0 ≤ n ∧ n ≤ 65536 ∧ fitF n (-1) s = true := by simp [fitL, and_assoc]
theorem fitF_low {n : Int} : ∀ {s : List Sp} {last last' : Int}, last' ≤ last → fitF n last s = true → fitF n last' s = true
  | [], _, _, _, _ => rfl
  | p :: s, last, last', h, hf => by
    rw [fitF_cons] at hf ⊢
    exact ⟨by omega, hf.2⟩
theorem fitF_up {n m : Int} (hm : n ≤ m) : ∀ {s : List Sp} {last : Int}, fitF n last s = true → fitF m last s = true
  | [], _, _ => rfl
  | p :: s, last, hf => by
    rw [fitF_cons] at hf ⊢
    exact ⟨hf.1, hf.2.1, by omega, fitF_up hm hf.2.2.2⟩
theorem fitF_mem {n : Int} : ∀ {s : List Sp} {last : Int}, fitF n last s = true → ∀ p ∈ s, last < p.1 ∧ p.1 < p.2 ∧ p.2 ≤ n
  | [], _, _, p, hp => by cases hp
  | q :: s, last, hf, p, hp => by
    rw [fitF_cons] at hf
    rcases List.mem_cons.1 hp with rfl | hp
    · exact ⟨hf.1, hf.2.1, hf.2.2.1⟩
    · have := fitF_mem hf.2.2.2 p hp
      exact ⟨by omega, this.2⟩
theorem fit_bounds {n : Int} {s : List Sp} {last r : Int} (hf : fitF n last s = true) (h : hasL s r = true) : last < r ∧ r < n := by
  obtain ⟨p, hp, h1, h2⟩ := (has_iff s r).1 h
  have := fitF_mem hf p hp
  omega
theorem fit_out {n : Int} {s : List Sp} {last r : Int} (hf : fitF n last s = true) (h : r ≤ last ∨ n ≤ r) : hasL s r = false := by
  cases hh : hasL s r with
  | false => rfl
  | true => have := fit_bounds hf hh; omega
theorem fit_head {n : Int} {s : List Sp} {last : Int} {p : Sp} (hf : fitF n last (p :: s) = true) (r : Int) (h : hasL (p :: s) r = true) : p.1 ≤ r := by
  rw [fitF_cons] at hf
  rw [has_cons, Bool.or_eq_true] at h
  rcases h with h | h
  · simp at h; exact h.1
  · have := fit_bounds hf.2.2.2 h; omega
/-- A fit set is told by its ranks. -/
theorem fit_ext {n m : Int} : ∀ {a b : List Sp} {la lb : Int}, fitF n la a = true → fitF m lb b = true → (∀ r, hasL a r = hasL b r) → a = b
  | [], [], _, _, _, _, _ => rfl
  | [], q :: b, la, lb, ha, hb, h => by
    rw [fitF_cons] at hb
    have := h q.1
    rw [has_cons, has_nil] at this
    simp at this; omega
  | p :: a, [], la, lb, ha, hb, h => by
    rw [fitF_cons] at ha
    have := h p.1
    rw [has_cons, has_nil] at this
    simp at this; omega
  | p :: a, q :: b, la, lb, ha, hb, h => by
    have hp : hasL (p :: a) p.1 = true := by rw [has_cons]; have := (fitF_cons.1 ha).2.1; simp [this]
    have hq : hasL (q :: b) q.1 = true := by rw [has_cons]; have := (fitF_cons.1 hb).2.1; simp [this]
    have e1 : q.1 ≤ p.1 := fit_head hb p.1 (by rw [← h]; exact hp)
    have e2 : p.1 ≤ q.1 := fit_head ha q.1 (by rw [h]; exact hq)
    have ha' := fitF_cons.1 ha
    have hb' := fitF_cons.1 hb
    have e3 : p.2 = q.2 := by
      rcases Int.lt_trichotomy p.2 q.2 with h1 | h1 | h1
      · have h2 := h p.2
        rw [has_cons, has_cons, fit_out ha'.2.2.2 (.inl (Int.le_refl _))] at h2
        have h3 : (decide (q.1 ≤ p.2) && decide (p.2 < q.2)) = true := by simp; omega
        rw [h3] at h2
        simp at h2
      · exact h1
      · have h2 := h q.2
        rw [has_cons, has_cons, fit_out hb'.2.2.2 (.inl (Int.le_refl _))] at h2
        have h3 : (decide (p.1 ≤ q.2) && decide (q.2 < p.2)) = true := by simp; omega
        rw [h3] at h2
        simp at h2
    have epq : p = q := Prod.ext (by omega) e3
    subst epq
    congr 1
    refine fit_ext ha'.2.2.2 hb'.2.2.2 fun r => ?_
    by_cases hr : r ≤ p.2
    · rw [fit_out ha'.2.2.2 (.inl hr), fit_out hb'.2.2.2 (.inl hr)]
    · have h2 := h r
      rw [has_cons, has_cons] at h2
      have h3 : (decide (p.1 ≤ r) && decide (r < p.2)) = false := by simp; omega
      rwa [h3, Bool.false_or, Bool.false_or] at h2
/-- The spans are the fit set of these ranks. -/
structure IsSet (n : Int) (f : Int → Bool) (s : List Sp) : Prop where
  fit : fitL n s = true
  has : ∀ r, hasL s r = f r
theorem IsSet.fitF {n : Int} {f : Int → Bool} {s : List Sp} (h : IsSet n f s) : fitF n (-1) s = true := (fitL_iff.1 h.fit).2.2
theorem IsSet.eq {n m : Int} {f g : Int → Bool} {s t : List Sp} (h : IsSet n f s) (k : IsSet m g t) (e : ∀ r, f r = g r) : s = t :=
  fit_ext h.fitF k.fitF fun r => by rw [h.has, k.has, e]
theorem IsSet.self {n : Int} {s : List Sp} (h : fitL n s = true) : IsSet n (hasL s) s := ⟨h, fun _ => rfl⟩
theorem IsSet.up {n m : Int} {f : Int → Bool} {s : List Sp} (h : IsSet n f s) (hm : n ≤ m) (h2 : m ≤ 65536) : IsSet m f s := by
  have := fitL_iff.1 h.fit
  exact ⟨fitL_iff.2 ⟨by omega, h2, fitF_up hm this.2.2⟩, h.has⟩
/-- Where the last span ends. -/
def endF (last : Int) : List Sp → Int
  | [] => last
  | p :: s => endF p.2 s
theorem endF_snoc (p : Sp) : ∀ (s : List Sp) (last : Int), endF last (s ++ [p]) = p.2
  | [], _ => rfl
  | q :: s, _ => endF_snoc p s q.2
theorem fitF_snoc {n : Int} (p : Sp) : ∀ (s : List Sp) (last : Int), fitF n last (s ++ [p]) = true ↔ fitF n last s = true ∧ endF last s < p.1 ∧ p.1 < p.2 ∧ p.2 ≤ n
  | [], last => by simp [fitF, endF, and_assoc]
  | q :: s, last => by
    rw [List.cons_append, fitF_cons, fitF_cons, fitF_snoc p s q.2, endF]
    simp only [and_assoc]
/-- A set and a rank behind all of its ranks. -/
def withL (s : List Sp) (r : Int) : List Sp :=
  match s.getLast? with
  | some p => if p.2 = r then s.dropLast ++ [(p.1, r + 1)] else s ++ [(r, r + 1)]
  | none => [(r, r + 1)]
theorem withL_nil (r : Int) : withL [] r = [(r, r + 1)] := rfl
theorem withL_snoc (s : List Sp) (p : Sp) (r : Int) : withL (s ++ [p]) r = if p.2 = r then s ++ [(p.1, r + 1)] else (s ++ [p]) ++ [(r, r + 1)] := by
  unfold withL
  simp
def whereL (f : Nat → Bool) : Nat → List Sp
  | 0 => []
  | k + 1 => if f k then withL (whereL f k) (k : Int) else whereL f k
theorem snoc_or {α : Type} (s : List α) : s = [] ∨ ∃ t p, s = t ++ [p] := by
  rcases List.eq_nil_or_concat s with h | ⟨t, p, h⟩
  · exact .inl h
  · exact .inr ⟨t, p, by simpa using h⟩
theorem where_inv (f : Nat → Bool) : ∀ k : Nat, fitF (k : Int) (-1) (whereL f k) = true ∧ ∀ r : Int, hasL (whereL f k) r = (decide (0 ≤ r) && decide (r < (k : Int)) && f r.toNat)
  | 0 => ⟨rfl, fun r => by
    show false = _
    by_cases h : 0 ≤ r
    · have h2 : decide (r < ((0 : Nat) : Int)) = false := by simp; omega
      rw [h2]; simp
    · simp [h]⟩
  | k + 1 => by
    obtain ⟨h1, h2⟩ := where_inv f k
    have up := fitF_up (m := ((k + 1 : Nat) : Int)) (by omega) h1
    rw [whereL]
    have key : ∀ r : Int, r ≠ (k : Int) → (decide (r < ((k + 1 : Nat) : Int))) = decide (r < (k : Int)) := fun r hr => by
      rw [Bool.eq_iff_iff]; simp; omega
    cases hf : f k with
    | false =>
      rw [if_neg (by simp)]
      refine ⟨up, fun r => ?_⟩
      rw [h2]
      by_cases hr : r = (k : Int)
      · subst hr
        simp [hf]
      · rw [key r hr]
    | true =>
      rw [if_pos rfl]
      have fin : ∀ (t : List Sp), (∀ r, hasL t r = (hasL (whereL f k) r || decide (r = (k : Int)))) → ∀ r : Int, hasL t r = (decide (0 ≤ r) && decide (r < ((k + 1 : Nat) : Int)) && f r.toNat) := by
        intro t ht r
        rw [ht, h2]
        by_cases hr : r = (k : Int)
        · subst hr
          simp [hf]
          omega
        · rw [key r hr]
          simp [hr]
      have one : ∀ (lo r : Int), (decide (lo ≤ r) && decide (r < lo + 1)) = decide (r = lo) := fun lo r => by
        rw [Bool.eq_iff_iff]; simp; omega
      rcases snoc_or (whereL f k) with h0 | ⟨t, p, ht⟩
      · rw [h0, withL_nil]
        refine ⟨?_, fin _ fun r => ?_⟩
        · rw [fitF_cons]
          exact ⟨by simp; omega, by simp; omega, by simp, rfl⟩
        · rw [h0, has_cons, has_nil]
          simp only [one]
          simp
      · rw [ht] at h1 up
        rw [ht, withL_snoc]
        have h1' := (fitF_snoc p t (-1)).1 h1
        have up' := (fitF_snoc p t (-1)).1 up
        by_cases hp : p.2 = (k : Int)
        · rw [if_pos hp]
          refine ⟨?_, fin _ fun r => ?_⟩
          · rw [fitF_snoc]
            exact ⟨up'.1, h1'.2.1, by simp; omega, by simp⟩
          · rw [ht, has_app, has_app, has_cons, has_cons, has_nil, Bool.or_false, Bool.or_false, Bool.or_assoc]
            congr 1
            rw [Bool.eq_iff_iff]; simp; omega
        · rw [if_neg hp]
          refine ⟨?_, fin _ fun r => ?_⟩
          · rw [fitF_snoc, endF_snoc]
            exact ⟨up, by simp; omega, by simp; omega, by simp⟩
          · rw [ht, has_app, has_cons, has_nil]
            simp only [one]
            simp
theorem where_set (f : Nat → Bool) (k : Nat) (hk : k ≤ 65536) : IsSet (k : Int) (fun r => decide (0 ≤ r) && decide (r < (k : Int)) && f r.toNat) (whereL f k) :=
  ⟨fitL_iff.2 ⟨by omega, by omega, (where_inv f k).1⟩, (where_inv f k).2⟩
/-- Where spans begin and end. -/
def flatE : List Sp → List Int
  | [] => []
  | p :: s => p.1 :: p.2 :: flatE s
def Rising (l : List Int) : Prop := l.Pairwise (· < ·)
theorem flat_rising {n : Int} : ∀ {s : List Sp} {last : Int}, fitF n last s = true → Rising (flatE s) ∧ ∀ x ∈ flatE s, last < x ∧ x ≤ n
  | [], _, _ => ⟨List.Pairwise.nil, fun x hx => by cases hx⟩
  | p :: s, last, h => by
    rw [fitF_cons] at h
    obtain ⟨h1, h2⟩ := flat_rising h.2.2.2
    refine ⟨?_, ?_⟩
    · unfold Rising flatE
      rw [List.pairwise_cons, List.pairwise_cons]
      refine ⟨fun x hx => ?_, fun x hx => (h2 x hx).1, h1⟩
      rcases List.mem_cons.1 hx with rfl | hx
      · exact h.2.1
      · have := h2 x hx; omega
    · intro x hx
      rcases List.mem_cons.1 hx with rfl | hx
      · omega
      rcases List.mem_cons.1 hx with rfl | hx
      · omega
      · have := h2 x hx; omega
theorem flat_mem : ∀ {s : List Sp} {p : Sp}, p ∈ s → p.1 ∈ flatE s ∧ p.2 ∈ flatE s
  | q :: s, p, h => by
    rcases List.mem_cons.1 h with rfl | h
    · simp [flatE]
    · have := flat_mem h
      exact ⟨List.mem_cons_of_mem _ (List.mem_cons_of_mem _ this.1), List.mem_cons_of_mem _ (List.mem_cons_of_mem _ this.2)⟩
theorem flat_len : ∀ s : List Sp, (flatE s).length = 2 * s.length
  | [] => rfl
  | p :: s => by simp only [flatE, List.length_cons, flat_len s]; omega
theorem flat_at : ∀ (s : List Sp) (i : Nat) (p : Sp), s[i]? = some p → (flatE s)[2 * i]? = some p.1 ∧ (flatE s)[2 * i + 1]? = some p.2
  | [], i, p, h => by simp at h
  | q :: s, 0, p, h => by simp at h; subst h; exact ⟨rfl, rfl⟩
  | q :: s, i + 1, p, h => flat_at s i p (by simpa using h)
/-- Two rows of edges, merged. -/
def edL (xs ys : List Int) : List Int :=
  match xs, ys with
  | [], ys => ys
  | x :: xs, [] => x :: xs
  | x :: xs, y :: ys => if x < y then x :: edL xs (y :: ys) else if y < x then y :: edL (x :: xs) ys else x :: edL xs ys
termination_by xs.length + ys.length
theorem edL_nil (ys : List Int) : edL [] ys = ys := by rw [edL]
theorem edL_right : ∀ xs : List Int, edL xs [] = xs
  | [] => by rw [edL]
  | x :: xs => by rw [edL]
theorem edL_mem (x : Int) : ∀ (k : Nat) (xs ys : List Int), xs.length + ys.length ≤ k → (x ∈ edL xs ys ↔ x ∈ xs ∨ x ∈ ys)
  | _, [], ys, _ => by rw [edL_nil]; simp
  | _, x' :: xs, [], _ => by rw [edL_right]; simp
  | 0, x' :: xs, y :: ys, h => by simp at h
  | k + 1, x' :: xs, y :: ys, h => by
    simp only [List.length_cons] at h
    rw [edL]
    split
    · rw [List.mem_cons, edL_mem x k xs (y :: ys) (by simp; omega)]
      simp only [List.mem_cons, or_assoc]
    · split
      · rw [List.mem_cons, edL_mem x k (x' :: xs) ys (by simp; omega)]
        simp only [List.mem_cons]
        constructor
        · rintro (h | (h | h) | h) <;> simp [h]
        · rintro ((h | h) | h | h) <;> simp [h]
      · have : x' = y := by omega
        subst this
        rw [List.mem_cons, edL_mem x k xs ys (by omega)]
        simp only [List.mem_cons]
        constructor
        · rintro (h | h | h) <;> simp [h]
        · rintro ((h | h) | h | h) <;> simp [h]
theorem edL_rising : ∀ (k : Nat) (xs ys : List Int), xs.length + ys.length ≤ k → Rising xs → Rising ys → Rising (edL xs ys)
  | _, [], ys, _, _, h => by rw [edL_nil]; exact h
  | _, x' :: xs, [], _, h, _ => by rw [edL_right]; exact h
  | 0, x' :: xs, y :: ys, h, _, _ => by simp at h
  | k + 1, x' :: xs, y :: ys, h, hx, hy => by
    simp only [List.length_cons] at h
    have hx' := List.pairwise_cons.1 hx
    have hy' := List.pairwise_cons.1 hy
    rw [edL]
    split
    · rename_i hlt
      refine List.pairwise_cons.2 ⟨fun z hz => ?_, edL_rising k xs (y :: ys) (by simp; omega) hx'.2 hy⟩
      rcases (edL_mem z _ xs (y :: ys) (Nat.le_refl _)).1 hz with h1 | h1
      · exact hx'.1 z h1
      · rcases List.mem_cons.1 h1 with rfl | h1
        · exact hlt
        · have := hy'.1 z h1; omega
    · split
      · rename_i hlt
        refine List.pairwise_cons.2 ⟨fun z hz => ?_, edL_rising k (x' :: xs) ys (by simp; omega) hx hy'.2⟩
        rcases (edL_mem z _ (x' :: xs) ys (Nat.le_refl _)).1 hz with h1 | h1
        · rcases List.mem_cons.1 h1 with rfl | h1
          · exact hlt
          · have := hx'.1 z h1; omega
        · exact hy'.1 z h1
      · have : x' = y := by omega
        subst this
        refine List.pairwise_cons.2 ⟨fun z hz => ?_, edL_rising k xs ys (by omega) hx'.2 hy'.2⟩
        rcases (edL_mem z _ xs ys (Nat.le_refl _)).1 hz with h1 | h1
        · exact hx'.1 z h1
        · exact hy'.1 z h1
/-- What is told at a rank by the last edge up to it. -/
def cur (keep : Int → Bool) : List Int → Bool → Int → Bool
  | [], d, _ => d
  | e :: es, d, r => if e ≤ r then cur keep es (keep e) r else d
/-- The spans of what is kept; the open one, if there is one, begins there. -/
def mgL (keep : Int → Bool) : List Int → Option Int → List Sp
  | [], none => []
  | [], some lo => [(lo, 0)]
  | e :: es, none => if keep e then mgL keep es (some e) else mgL keep es none
  | e :: es, some lo => if keep e then mgL keep es (some lo) else (lo, e) :: mgL keep es none
def finK (keep : Int → Bool) : List Int → Bool → Bool
  | [], d => d
  | e :: es, _ => finK keep es (keep e)
theorem cur_before (keep : Int → Bool) (es : List Int) (d : Bool) (r : Int) (h : ∀ x ∈ es, r < x) : cur keep es d r = d := by
  cases es with
  | nil => rfl
  | cons e es => rw [cur, if_neg (by have := h e (by simp); omega)]
theorem cur_fin (keep : Int → Bool) : ∀ (es : List Int) (d : Bool) (r : Int), (∀ x ∈ es, x ≤ r) → cur keep es d r = finK keep es d
  | [], _, _, _ => rfl
  | e :: es, d, r, h => by
    rw [cur, if_pos (h e (by simp)), finK]
    exact cur_fin keep es _ r fun x hx => h x (by simp [hx])
theorem cur_spec (keep : Int → Bool) (r : Int) : ∀ (es : List Int) (d : Bool), Rising es → ((∀ x ∈ es, r < x) ∧ cur keep es d r = d) ∨ ∃ e ∈ es, e ≤ r ∧ (∀ x ∈ es, x ≤ e ∨ r < x) ∧ cur keep es d r = keep e
  | [], d, _ => .inl ⟨fun x hx => by (cases hx), rfl⟩
  | e :: es, d, h => by
    have h' := List.pairwise_cons.1 h
    by_cases he : e ≤ r
    · right
      rw [cur, if_pos he]
      rcases cur_spec keep r es (keep e) h'.2 with ⟨h1, h2⟩ | ⟨e', h1, h2, h3, h4⟩
      · refine ⟨e, by simp, he, fun x hx => ?_, h2⟩
        rcases List.mem_cons.1 hx with rfl | hx
        · exact .inl (Int.le_refl _)
        · exact .inr (h1 x hx)
      · refine ⟨e', by simp [h1], h2, fun x hx => ?_, h4⟩
        rcases List.mem_cons.1 hx with rfl | hx
        · have := h'.1 e' h1; exact .inl (by omega)
        · exact h3 x hx
    · left
      rw [cur, if_neg he]
      refine ⟨fun x hx => ?_, rfl⟩
      rcases List.mem_cons.1 hx with rfl | hx
      · omega
      · have := h'.1 x hx; omega
theorem mg_set (keep : Int → Bool) (n : Int) : ∀ (es : List Int), Rising es → (∀ x ∈ es, x ≤ n) →
    (∀ last, (∀ x ∈ es, last < x) → finK keep es false = false → fitF n last (mgL keep es none) = true ∧ ∀ r, hasL (mgL keep es none) r = cur keep es false r)
    ∧ (∀ last lo, last < lo → (∀ x ∈ es, lo < x) → finK keep es true = false → fitF n last (mgL keep es (some lo)) = true ∧ ∀ r, hasL (mgL keep es (some lo)) r = (decide (lo ≤ r) && cur keep es true r))
  | [], _, _ => ⟨fun last _ _ => ⟨rfl, fun r => rfl⟩, fun last lo _ _ h => by simp [finK] at h⟩
  | e :: es, hR, hn => by
    have h' := List.pairwise_cons.1 hR
    obtain ⟨ih1, ih2⟩ := mg_set keep n es h'.2 (fun x hx => hn x (by simp [hx]))
    have hbef : ∀ d r, r < e → cur keep es d r = d := fun d r hr => cur_before keep es d r fun x hx => by have := h'.1 x hx; omega
    refine ⟨fun last hl hf => ?_, fun last lo hlo hl hf => ?_⟩
    · cases hk : keep e with
      | true =>
        rw [mgL, if_pos hk]
        rw [finK, hk] at hf
        obtain ⟨h1, h2⟩ := ih2 last e (hl e (by simp)) h'.1 hf
        refine ⟨h1, fun r => ?_⟩
        rw [h2, cur, hk]
        by_cases her : e ≤ r <;> simp [her]
      | false =>
        rw [mgL, if_neg (by simp [hk])]
        rw [finK, hk] at hf
        obtain ⟨h1, h2⟩ := ih1 last (fun x hx => hl x (by simp [hx])) hf
        refine ⟨h1, fun r => ?_⟩
        rw [h2, cur, hk]
        by_cases her : e ≤ r
        · rw [if_pos her]
        · rw [if_neg her, hbef _ _ (by omega)]
    · cases hk : keep e with
      | true =>
        rw [mgL, if_pos hk]
        rw [finK, hk] at hf
        obtain ⟨h1, h2⟩ := ih2 last lo hlo (fun x hx => hl x (by simp [hx])) hf
        refine ⟨h1, fun r => ?_⟩
        rw [h2, cur, hk]
        by_cases her : e ≤ r
        · rw [if_pos her]
        · rw [if_neg her, hbef _ _ (by omega)]
      | false =>
        rw [mgL, if_neg (by simp [hk])]
        rw [finK, hk] at hf
        obtain ⟨h1, h2⟩ := ih1 e h'.1 hf
        refine ⟨fitF_cons.2 ⟨hlo, hl e (by simp), hn e (by simp), h1⟩, fun r => ?_⟩
        rw [has_cons, h2, cur, hk]
        have hle := hl e (by simp)
        by_cases her : e ≤ r
        · have h3 : decide (r < e) = false := by simp; omega
          have h4 : decide (lo ≤ r) = true := by simp; omega
          rw [if_pos her]
          simp only [h3, h4]
          simp
        · have h3 : decide (r < e) = true := by simp; omega
          rw [if_neg her, hbef _ _ (by omega)]
          simp only [h3]
          simp
theorem has_between {a : List Sp} {es : List Int} (ha : ∀ p ∈ a, p.1 ∈ es ∧ p.2 ∈ es) {e r : Int} (h1 : e ≤ r) (h2 : ∀ x ∈ es, x ≤ e ∨ r < x) : hasL a r = hasL a e := by
  rw [Bool.eq_iff_iff, has_iff, has_iff]
  constructor
  · rintro ⟨p, hp, h3, h4⟩
    have k1 := h2 _ (ha p hp).1
    have k2 := h2 _ (ha p hp).2
    exact ⟨p, hp, by omega, by omega⟩
  · rintro ⟨p, hp, h3, h4⟩
    have k1 := h2 _ (ha p hp).1
    have k2 := h2 _ (ha p hp).2
    exact ⟨p, hp, by omega, by omega⟩
/-- Two fit sets merged by a rule that keeps nothing where there is nothing. -/
theorem merged_set {n : Int} {a b : List Sp} (ha : fitL n a = true) (hb : fitL n b = true) (g : Bool → Bool → Bool) (hg : g false false = false) :
    IsSet n (fun r => g (hasL a r) (hasL b r)) (mgL (fun r => g (hasL a r) (hasL b r)) (edL (flatE a) (flatE b)) none) := by
  have ha' := fitL_iff.1 ha
  have hb' := fitL_iff.1 hb
  obtain ⟨ra, ma⟩ := flat_rising ha'.2.2
  obtain ⟨rb, mb⟩ := flat_rising hb'.2.2
  have hR := edL_rising _ _ _ (Nat.le_refl _) ra rb
  have hM := fun x => edL_mem x _ (flatE a) (flatE b) (Nat.le_refl _)
  have inA : ∀ p ∈ a, p.1 ∈ edL (flatE a) (flatE b) ∧ p.2 ∈ edL (flatE a) (flatE b) := fun p hp => ⟨(hM _).2 (.inl (flat_mem hp).1), (hM _).2 (.inl (flat_mem hp).2)⟩
  have inB : ∀ p ∈ b, p.1 ∈ edL (flatE a) (flatE b) ∧ p.2 ∈ edL (flatE a) (flatE b) := fun p hp => ⟨(hM _).2 (.inr (flat_mem hp).1), (hM _).2 (.inr (flat_mem hp).2)⟩
  have bnd : ∀ x ∈ edL (flatE a) (flatE b), -1 < x ∧ x ≤ n := fun x hx => by
    rcases (hM x).1 hx with h | h
    · exact ma x h
    · exact mb x h
  generalize edL (flatE a) (flatE b) = es at *
  have hcur : ∀ r, cur (fun r => g (hasL a r) (hasL b r)) es false r = g (hasL a r) (hasL b r) := by
    intro r
    rcases cur_spec (fun r => g (hasL a r) (hasL b r)) r es false hR with ⟨h1, h2⟩ | ⟨e, h1, h2, h3, h4⟩
    · rw [h2]
      have k : ∀ s : List Sp, (∀ p ∈ s, p.1 ∈ es ∧ p.2 ∈ es) → hasL s r = false := fun s hs => by
        cases hh : hasL s r with
        | false => rfl
        | true =>
          obtain ⟨p, hp, h5, _⟩ := (has_iff s r).1 hh
          have := h1 _ (hs p hp).1
          omega
      rw [k a inA, k b inB, hg]
    · rw [h4, has_between inA h2 h3, has_between inB h2 h3]
  have hfin : finK (fun r => g (hasL a r) (hasL b r)) es false = false := by
    rw [← cur_fin _ es false n (fun x hx => (bnd x hx).2), hcur, fit_out ha'.2.2 (.inr (Int.le_refl _)), fit_out hb'.2.2 (.inr (Int.le_refl _)), hg]
  obtain ⟨h1, h2⟩ := (mg_set _ n es hR (fun x hx => (bnd x hx).2)).1 (-1) (fun x hx => (bnd x hx).1) hfin
  exact ⟨fitL_iff.2 ⟨ha'.1, ha'.2.1, h1⟩, fun r => by rw [h2, hcur]⟩
/-- The ranks of spans, in their order. -/
def upL (lo : Int) : Nat → List Int
  | 0 => []
  | k + 1 => lo :: upL (lo + 1) k
def listL (s : List Sp) : List Int := s.flatMap fun p => upL p.1 (p.2 - p.1).toNat
theorem up_len : ∀ (k : Nat) (lo : Int), (upL lo k).length = k
  | 0, _ => rfl
  | k + 1, lo => by rw [upL, List.length_cons, up_len]
theorem up_mem (x : Int) : ∀ (k : Nat) (lo : Int), x ∈ upL lo k ↔ lo ≤ x ∧ x < lo + k
  | 0, lo => by simp [upL]
  | k + 1, lo => by rw [upL, List.mem_cons, up_mem x k]; omega
theorem up_snoc : ∀ (k : Nat) (lo : Int), upL lo (k + 1) = upL lo k ++ [lo + k]
  | 0, lo => by simp [upL]
  | k + 1, lo => by
    rw [upL, up_snoc k (lo + 1), upL, List.cons_append]
    congr 3; omega
theorem list_mem (s : List Sp) (x : Int) : x ∈ listL s ↔ hasL s x = true := by
  rw [has_iff]
  unfold listL
  simp only [List.mem_flatMap, up_mem]
  constructor
  · rintro ⟨p, hp, h⟩
    exact ⟨p, hp, by omega, by omega⟩
  · rintro ⟨p, hp, h⟩
    exact ⟨p, hp, by omega, by omega⟩
def countL : List Sp → Int
  | [] => 0
  | p :: s => (p.2 - p.1) + countL s
theorem count_list {n : Int} : ∀ {s : List Sp} {last : Int}, fitF n last s = true → ((listL s).length : Int) = countL s
  | [], _, _ => rfl
  | p :: s, last, h => by
    rw [fitF_cons] at h
    have ih := count_list h.2.2.2
    simp only [listL, List.flatMap_cons, List.length_append, up_len] at ih ⊢
    rw [countL, ← ih]
    omega
theorem count_le {n : Int} : ∀ {s : List Sp} {last : Int}, fitF n last s = true → last ≤ n → 0 ≤ countL s ∧ countL s ≤ n - last
  | [], _, _, h => by simp [countL]; omega
  | p :: s, last, h, hn => by
    rw [fitF_cons] at h
    have := count_le h.2.2.2 h.2.2.1
    rw [countL]
    omega

end Go.Proofs.YtmpegkcleajhhaaDoor
