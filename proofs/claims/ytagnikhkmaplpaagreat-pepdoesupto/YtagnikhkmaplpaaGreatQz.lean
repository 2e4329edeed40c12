/-
  Plain laws: the document's order of fit versions is the program's; no program is named here.
-/
import Derived.Test.YtagnikhkmaplpaaGreatQi
namespace Go.Proofs.YtagnikhkmaplpaaGreat
set_option linter.unusedVariables false

/-- The class of a pre-release, by the document. -/
def clsR (x : PepL) : Int := if x.c = 97 then 1 else if x.c = 98 then 2 else if x.c = 114 then 3 else if x.d && !x.b then 0 else 4
def rankR (b : Bool) : Int := if b then 1 else 0
/-- Local rows, by the document. -/
def locR : List (List UInt8) → List (List UInt8) → Int
  | [], [] => 0
  | [], _ :: _ => -1
  | _ :: _, [] => 1
  | s :: a, t :: b => if locO s t = 0 then locR a b else locO s t
/-- The order of fit versions, by the document. -/
def ordR (x y : PepL) : Int := orI [cmpD x.ep y.ep, padO cmpD [] x.rel y.rel 0, cmpI (clsR x) (clsR y), cmpD x.n y.n, cmpI (rankR x.b) (rankR y.b), cmpD x.m y.m, cmpI (rankR !x.d) (rankR !y.d), cmpD x.k y.k, locR x.loc y.loc]

theorem orI_app : ∀ a b : List Int, orI (a ++ b) = if orI a = 0 then orI b else orI a
  | [], b => by simp [orI]
  | x :: a, b => by
    rw [List.cons_append, orI, orI, orI_app a b]
    by_cases h : x = 0
    · rw [if_pos h, if_pos h]
    · rw [if_neg h, if_neg h, if_neg h]
theorem orI_two (a b a' b' : Int) (h1 : a = a') (h2 : a = 0 → b = b') : orI [a, b] = orI [a', b'] := by
  subst h1
  simp only [orI]
  by_cases h : a = 0
  · rw [if_pos h, if_pos h, h2 h]
  · rw [if_neg h, if_neg h]
theorem cmpD_nil (t : List UInt8) : cmpD [] t = cmpD [48] t ∧ cmpD t [] = cmpD t [48] := ⟨rfl, rfl⟩
theorem rel_same (xs ys : List (List UInt8)) : padO cmpD [] xs ys 0 = padO cmpD [48] xs ys 0 := by
  unfold padO
  congr 1
  refine List.map_congr_left fun i _ => ?_
  have hg : ∀ zs : List (List UInt8), zs.getD i [] = zs.getD i [48] ∨ (zs.getD i [] = [] ∧ zs.getD i [48] = [48]) := by
    intro zs
    rw [List.getD_eq_getElem?_getD, List.getD_eq_getElem?_getD]
    cases zs[i]? with
    | none => exact .inr ⟨rfl, rfl⟩
    | some z => exact .inl rfl
  rcases hg xs with h1 | ⟨h1, h1'⟩ <;> rcases hg ys with h2 | ⟨h2, h2'⟩
  · rw [h1, h2]
  · rw [h1, h2, h2']; exact (cmpD_nil _).2
  · rw [h1, h1', h2]; exact (cmpD_nil _).1
  · rw [h1, h1', h2, h2']; rfl
theorem locO_nil {t : List UInt8} (h : t ≠ []) : locO [] t = -1 ∧ locO t [] = 1 := by
  obtain ⟨c, r, rfl⟩ : ∃ c r, t = c :: r := List.exists_cons_of_ne_nil h
  unfold locO
  rw [show digB [] = false from rfl]
  cases digB (c :: r) <;> exact ⟨rfl, rfl⟩
theorem padO_cons (O : List UInt8 → List UInt8 → Int) (d s t : List UInt8) (a b : List (List UInt8)) : padO O d (s :: a) (t :: b) 0 = if O s t = 0 then padO O d a b 0 else O s t := by
  rw [padO_step O d (s :: a) (t :: b) 0 (by simp)]
  have e : padO O d (s :: a) (t :: b) 1 = padO O d a b 0 := by
    unfold padO
    have l : max (s :: a).length (t :: b).length - 1 = max a.length b.length - 0 := by simp only [List.length_cons]; omega
    rw [l]
    congr 1
    rw [List.range'_eq_map_range, List.range'_eq_map_range, List.map_map, List.map_map]
    refine List.map_congr_left fun i _ => ?_
    show O ((s :: a).getD (1 + i) d) ((t :: b).getD (1 + i) d) = O (a.getD (0 + i) d) (b.getD (0 + i) d)
    rw [Nat.add_comm 1 i, Nat.zero_add]
    simp only [List.getD_cons_succ]
  show (if O s t = 0 then padO O d (s :: a) (t :: b) 1 else O s t) = _
  rw [e]
theorem loc_same : ∀ a b : List (List UInt8), (∀ t ∈ a, t ≠ []) → (∀ t ∈ b, t ≠ []) → padO locO [] a b 0 = locR a b
  | [], [], _, _ => padO_end _ _ _ _ _ (by simp)
  | [], t :: b, _, hb => by
    rw [padO_step _ _ _ _ _ (by simp)]
    show (if locO [] t = 0 then _ else locO [] t) = -1
    rw [(locO_nil (hb t List.mem_cons_self)).1]
    rfl
  | s :: a, [], ha, _ => by
    rw [padO_step _ _ _ _ _ (by simp)]
    show (if locO s [] = 0 then _ else locO s []) = 1
    rw [(locO_nil (ha s List.mem_cons_self)).2]
    rfl
  | s :: a, t :: b, ha, hb => by
    rw [padO_cons, locR, loc_same a b (fun t h => ha t (List.mem_cons_of_mem _ h)) (fun t h => hb t (List.mem_cons_of_mem _ h))]

theorem st1_same (x y : PepL) (hx : FitT x) (hy : FitT y) : orI [cmpI (clsR x) (clsR y), cmpD x.n y.n] = stgO (st1 x) (st1 y) := by
  have nx := hx.f5
  have ny := hy.f5
  unfold stgO
  refine orI_two _ _ _ _ ?_ ?_
  · unfold clsR st1
    rcases hx.f4 with h1 | h1 | h1 | h1 <;> rcases hy.f4 with h2 | h2 | h2 | h2 <;> rw [h1, h2] <;> simp <;> (repeat' split) <;> rfl
  · intro h0
    unfold clsR at h0
    unfold st1
    rcases hx.f4 with h1 | h1 | h1 | h1 <;> rcases hy.f4 with h2 | h2 | h2 | h2 <;> rw [h1] at nx h0 ⊢ <;> rw [h2] at ny h0 ⊢
    · have e1 : x.n = [] := num_false nx rfl
      have e2 : y.n = [] := num_false ny rfl
      rw [e1, e2]
      simp only [if_true]
      (repeat' split) <;> rfl
    all_goals first | rfl | (exfalso; simp at h0; revert h0; (repeat' split) <;> decide)
theorem st2_same (x y : PepL) (hx : FitT x) (hy : FitT y) : orI [cmpI (rankR x.b) (rankR y.b), cmpD x.m y.m] = stgO (st2 x) (st2 y) := by
  have nx := hx.f6
  have ny := hy.f6
  unfold stgO st2 rankR
  cases h1 : x.b <;> cases h2 : y.b <;> rw [h1] at nx <;> rw [h2] at ny
  · have e1 : x.m = [] := num_false nx rfl
    have e2 : y.m = [] := num_false ny rfl
    rw [e1, e2]
    rfl
  all_goals rfl
theorem st3_same (x y : PepL) (hx : FitT x) (hy : FitT y) : orI [cmpI (rankR !x.d) (rankR !y.d), cmpD x.k y.k] = stgO (st3 x) (st3 y) := by
  have nx := hx.f7
  have ny := hy.f7
  unfold stgO st3 rankR
  cases h1 : x.d <;> cases h2 : y.d <;> rw [h1] at nx <;> rw [h2] at ny
  · have e1 : x.k = [] := num_false nx rfl
    have e2 : y.k = [] := num_false ny rfl
    rw [e1, e2]
    rfl
  all_goals rfl
/-- The document's order of fit versions is the program's. -/
theorem ord_same (x y : PepL) (hx : FitT x) (hy : FitT y) : ordR x y = ordP x y := by
  have l1 : ∀ t ∈ x.loc, t ≠ [] := fun t h => (loc_of (List.all_eq_true.1 hx.f8 t h)).1
  have l2 : ∀ t ∈ y.loc, t ≠ [] := fun t h => (loc_of (List.all_eq_true.1 hy.f8 t h)).1
  unfold ordR ordP stL
  rw [rel_same, ← loc_same _ _ l1 l2, ← st1_same x y hx hy, ← st2_same x y hx hy, ← st3_same x y hx hy]
  simp only [orI]
  (repeat' split) <;> first | rfl | omega

end Go.Proofs.YtagnikhkmaplpaaGreat
