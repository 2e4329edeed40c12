/-
  Plain laws of orders: PEP 440's order of versions and of texts is one; no program is named here.
-/
import Derived.Test.YtagnikhkmaplpaaGreatPo
namespace Go.Proofs.YtagnikhkmaplpaaGreat
set_option linter.unusedVariables false

/-- An order by -1, 0 and 1. -/
structure Cmp3 {α : Type} (f : α → α → Int) : Prop where
  rng : ∀ a b, f a b = -1 ∨ f a b = 0 ∨ f a b = 1
  anti : ∀ a b, f b a = - f a b
  trans : ∀ a b c, f a b ≤ 0 → f b c ≤ 0 → f a c ≤ 0
  eqv : ∀ a b c, f a b = 0 → f a c = f b c

namespace Cmp3
variable {α β : Type} {f g : α → α → Int}
theorem self (h : Cmp3 f) (a : α) : f a a = 0 := by have := h.anti a a; omega
theorem lt_le (h : Cmp3 f) {a b c : α} (h1 : f a b < 0) (h2 : f b c ≤ 0) : f a c < 0 := by
  have h3 := h.trans a b c (by omega) h2
  by_cases e : f a c = 0
  · have e1 := h.eqv a c b e
    have e2 := h.anti b c
    omega
  · omega
theorem le_lt (h : Cmp3 f) {a b c : α} (h1 : f a b ≤ 0) (h2 : f b c < 0) : f a c < 0 := by
  have h3 := h.trans a b c h1 (by omega)
  by_cases e : f a c = 0
  · have e0 := h.anti a c
    have e1 := h.eqv c a b (by omega)
    have e2 := h.anti b c
    omega
  · omega
theorem pull (h : Cmp3 f) (p : β → α) : Cmp3 (fun x y => f (p x) (p y)) :=
  ⟨fun a b => h.rng _ _, fun a b => h.anti _ _, fun a b c => h.trans _ _ _, fun a b c => h.eqv _ _ _⟩
theorem lex (hf : Cmp3 f) (hg : Cmp3 g) : Cmp3 (fun x y => if f x y = 0 then g x y else f x y) := by
  refine ⟨fun a b => ?_, fun a b => ?_, fun a b c h1 h2 => ?_, fun a b c h => ?_⟩
  · skip
    split
    · exact hg.rng a b
    · exact hf.rng a b
  · have := hf.anti a b
    have := hg.anti a b
    by_cases h : f a b = 0
    · rw [if_pos h, if_pos (by omega)]; omega
    · rw [if_neg h, if_neg (by omega)]; omega
  · skip
    have f1 : f a b ≤ 0 := by split at h1 <;> omega
    have f2 : f b c ≤ 0 := by split at h2 <;> omega
    have f3 := hf.trans a b c f1 f2
    by_cases h : f a c = 0
    · rw [if_pos h]
      have e1 : f a b = 0 := by
        by_cases e : f a b = 0
        · exact e
        · have := hf.lt_le (a := a) (b := b) (c := c) (by omega) f2; omega
      have e2 : f b c = 0 := by
        by_cases e : f b c = 0
        · exact e
        · have := hf.le_lt (a := a) (b := b) (c := c) f1 (by omega); omega
      rw [if_pos e1] at h1
      rw [if_pos e2] at h2
      exact hg.trans a b c h1 h2
    · rw [if_neg h]; exact f3
  · skip
    have e1 : f a b = 0 := by split at h <;> omega
    rw [if_pos e1] at h
    rw [hf.eqv a b c e1, hg.eqv a b c h]
/-- First those that are t, each part by its own order. -/
theorem sum (hf : Cmp3 f) (hg : Cmp3 g) (t : α → Bool) : Cmp3 (fun x y => if t x then (if t y then f x y else -1) else if t y then 1 else g x y) := by
  refine ⟨fun a b => ?_, fun a b => ?_, fun a b c h1 h2 => ?_, fun a b c h => ?_⟩
  · have := hf.rng a b
    have := hg.rng a b
    cases t a <;> cases t b <;> simp <;> assumption
  · have := hf.anti a b
    have := hg.anti a b
    cases t a <;> cases t b <;> simp <;> assumption
  · have := hf.trans a b c
    have := hg.trans a b c
    cases ha : t a <;> cases hb : t b <;> cases hc : t c <;> simp [ha, hb, hc] at h1 h2 ⊢
    · exact hg.trans a b c h1 h2
    · exact hf.trans a b c h1 h2
  · skip
    cases ha : t a <;> cases hb : t b <;> cases hc : t c <;> simp [ha, hb] at h ⊢
    · exact hg.eqv a b c h
    · exact hf.eqv a b c h
end Cmp3

theorem cmpN_cmp3 : Cmp3 cmpN := by
  refine ⟨fun a b => ?_, fun a b => ?_, fun a b c h1 h2 => ?_, fun a b c h => ?_⟩
  · unfold cmpN; (repeat' split) <;> simp
  · unfold cmpN; (repeat' split) <;> omega
  · unfold cmpN at *; (repeat' split at h1) <;> (repeat' split at h2) <;> (repeat' split) <;> omega
  · unfold cmpN at *; (repeat' split at h) <;> (repeat' split) <;> omega

/-- Lists, one ahead of what goes on with it. -/
def lexG {α : Type} (f : α → α → Int) : List α → List α → Int
  | [], [] => 0
  | [], _ :: _ => -1
  | _ :: _, [] => 1
  | x :: a, y :: b => if f x y = 0 then lexG f a b else f x y

theorem lexG_cmp3 {α : Type} {f : α → α → Int} (h : Cmp3 f) : Cmp3 (lexG f) := by
  refine ⟨fun a => ?_, fun a => ?_, fun a => ?_, fun a => ?_⟩
  · induction a with
    | nil => intro b; cases b <;> simp [lexG]
    | cons x a ih =>
      intro b
      cases b with
      | nil => simp [lexG]
      | cons y b =>
        rw [lexG]
        split
        · exact ih b
        · exact h.rng x y
  · induction a with
    | nil => intro b; cases b <;> simp [lexG]
    | cons x a ih =>
      intro b
      cases b with
      | nil => simp [lexG]
      | cons y b =>
        have e := h.anti x y
        rw [lexG, lexG]
        by_cases h0 : f x y = 0
        · rw [if_pos h0, if_pos (by omega)]; exact ih b
        · rw [if_neg h0, if_neg (by omega)]; exact e
  · induction a with
    | nil => intro b c h1 h2; cases c <;> cases b <;> simp [lexG] at *
    | cons x a ih =>
      intro b c h1 h2
      cases b with
      | nil => simp [lexG] at h1
      | cons y b =>
        cases c with
        | nil => simp [lexG] at h2
        | cons z c =>
          rw [lexG] at h1 h2 ⊢
          have f1 : f x y ≤ 0 := by split at h1 <;> omega
          have f2 : f y z ≤ 0 := by split at h2 <;> omega
          have f3 := h.trans x y z f1 f2
          by_cases h0 : f x z = 0
          · rw [if_pos h0]
            have e1 : f x y = 0 := by
              by_cases e : f x y = 0
              · exact e
              · have := h.lt_le (a := x) (b := y) (c := z) (by omega) f2; omega
            have e2 : f y z = 0 := by
              by_cases e : f y z = 0
              · exact e
              · have := h.le_lt (a := x) (b := y) (c := z) f1 (by omega); omega
            rw [if_pos e1] at h1
            rw [if_pos e2] at h2
            exact ih b c h1 h2
          · rw [if_neg h0]; exact f3
  · induction a with
    | nil => intro b c h1; cases b <;> simp [lexG] at *
    | cons x a ih =>
      intro b c h1
      cases b with
      | nil => simp [lexG] at h1
      | cons y b =>
        rw [lexG] at h1
        have e1 : f x y = 0 := by split at h1 <;> omega
        rw [if_pos e1] at h1
        cases c with
        | nil => simp [lexG]
        | cons z c => rw [lexG, lexG, h.eqv x y z e1, ih b c h1]

theorem bytes_eq : ∀ a b : List UInt8, Lib.compareBytes a b = lexG (fun x y : UInt8 => cmpN x.toNat y.toNat) a b
  | [], [] => rfl
  | [], _ :: _ => rfl
  | _ :: _, [] => rfl
  | x :: a, y :: b => by
    rw [lexG, Lib.compareBytes, bytes_eq a b]
    have e : ∀ u v : UInt8, (u < v) ↔ u.toNat < v.toNat := fun u v => UInt8.lt_iff_toNat_lt
    unfold cmpN
    by_cases h1 : x < y
    · have h1' := (e x y).1 h1
      simp [h1, h1']
    · have h1' : ¬ x.toNat < y.toNat := fun h => h1 ((e x y).2 h)
      by_cases h2 : y < x
      · have h2' := (e y x).1 h2
        simp [h1, h1', h2, h2']
      · have h2' : ¬ y.toNat < x.toNat := fun h => h2 ((e y x).2 h)
        simp [h1, h1', h2, h2']
theorem bytes_cmp3 : Cmp3 Lib.compareBytes := by
  have := lexG_cmp3 (cmpN_cmp3.pull (fun x : UInt8 => x.toNat))
  have e : Lib.compareBytes = lexG (fun x y : UInt8 => cmpN x.toNat y.toNat) := funext fun a => funext fun b => bytes_eq a b
  rw [e]; exact this
theorem cmpD_cmp3 : Cmp3 cmpD := by
  have := Cmp3.lex (cmpN_cmp3.pull (fun l : List UInt8 => (trimL l).length)) (bytes_cmp3.pull trimL)
  have e : cmpD = fun x y => if cmpN (trimL x).length (trimL y).length = 0 then Lib.compareBytes (trimL x) (trimL y) else cmpN (trimL x).length (trimL y).length := funext fun a => funext fun b => by
    unfold cmpD cmpN
    (repeat' split) <;> first | rfl | omega
  rw [e]; exact this

theorem cmpI_cmp3 : Cmp3 cmpI := by
  refine ⟨fun a b => ?_, fun a b => ?_, fun a b c h1 h2 => ?_, fun a b c h => ?_⟩
  · unfold cmpI; (repeat' split) <;> simp
  · unfold cmpI; (repeat' split) <;> omega
  · unfold cmpI at *; (repeat' split at h1) <;> (repeat' split at h2) <;> (repeat' split) <;> omega
  · unfold cmpI at *; (repeat' split at h) <;> (repeat' split) <;> omega
theorem zero_cmp3 {α : Type} : Cmp3 (fun _ _ : α => (0 : Int)) := ⟨fun _ _ => .inr (.inl rfl), fun _ _ => rfl, fun _ _ _ _ _ => Int.le_refl _, fun _ _ _ _ => rfl⟩
/-- What is one order up to every length is one. -/
theorem Cmp3.ofN {α : Type} {f : Nat → α → α → Int} {g : α → α → Int} (sz : α → Nat) (hf : ∀ n, Cmp3 (f n)) (hg : ∀ n a b, sz a ≤ n → sz b ≤ n → g a b = f n a b) : Cmp3 g := by
  refine ⟨fun a b => ?_, fun a b => ?_, fun a b c h1 h2 => ?_, fun a b c h => ?_⟩
  · rw [hg (sz a + sz b) a b (by omega) (by omega)]; exact (hf _).rng a b
  · rw [hg (sz a + sz b) a b (by omega) (by omega), hg (sz a + sz b) b a (by omega) (by omega)]; exact (hf _).anti a b
  · rw [hg (sz a + sz b + sz c) a b (by omega) (by omega)] at h1
    rw [hg (sz a + sz b + sz c) b c (by omega) (by omega)] at h2
    rw [hg (sz a + sz b + sz c) a c (by omega) (by omega)]
    exact (hf _).trans a b c h1 h2
  · rw [hg (sz a + sz b + sz c) a b (by omega) (by omega)] at h
    rw [hg (sz a + sz b + sz c) a c (by omega) (by omega), hg (sz a + sz b + sz c) b c (by omega) (by omega)]
    exact (hf _).eqv a b c h

/-- A version's parts. -/
structure PepL where
  ep : List UInt8
  rel : List (List UInt8)
  c : Int
  n : List UInt8
  b : Bool
  m : List UInt8
  d : Bool
  k : List UInt8
  loc : List (List UInt8)

theorem orI_zeros : ∀ (xs ys : List Int), (∀ y ∈ ys, y = 0) → orI (xs ++ ys) = orI xs
  | [], ys, h => by
    induction ys with
    | nil => rfl
    | cons y r ih =>
      have hy := h y List.mem_cons_self
      subst hy
      show orI (0 :: ([] ++ r)) = 0
      rw [orI, if_pos rfl]
      exact ih (fun z hz => h z (List.mem_cons_of_mem _ hz))
  | x :: r, ys, h => by
    show orI (x :: (r ++ ys)) = orI (x :: r)
    rw [orI, orI, orI_zeros r ys h]
/-- Rows compared at these places. -/
def atO (O : List UInt8 → List UInt8 → Int) (d : List UInt8) (is : List Nat) (xs ys : List (List UInt8)) : Int := orI (is.map fun i => O (xs.getD i d) (ys.getD i d))
theorem atO_cmp3 {O : List UInt8 → List UInt8 → Int} (h : Cmp3 O) (d : List UInt8) : ∀ is : List Nat, Cmp3 (atO O d is)
  | [] => zero_cmp3
  | i :: r => Cmp3.lex (h.pull (fun xs : List (List UInt8) => xs.getD i d)) (atO_cmp3 h d r)
theorem padO_cmp3 {O : List UInt8 → List UInt8 → Int} (h : Cmp3 O) (d : List UInt8) : Cmp3 (fun xs ys => padO O d xs ys 0) := by
  refine Cmp3.ofN (f := fun n => atO O d (List.range' 0 n)) List.length (fun n => atO_cmp3 h d _) (fun n a b h1 h2 => ?_)
  show orI ((List.range' 0 (max a.length b.length - 0)).map fun i => O (a.getD i d) (b.getD i d)) = orI ((List.range' 0 n).map fun i => O (a.getD i d) (b.getD i d))
  obtain ⟨m, hm⟩ : ∃ m, n = (max a.length b.length) + m := ⟨n - max a.length b.length, by omega⟩
  have e : List.range' 0 n = List.range' 0 (max a.length b.length - 0) ++ List.range' (0 + 1 * max a.length b.length) m := by
    rw [hm, Nat.sub_zero]
    exact List.range'_append.symm
  rw [e, List.map_append, orI_zeros]
  intro y hy
  obtain ⟨i, hi, rfl⟩ := List.mem_map.1 hy
  have hge : max a.length b.length ≤ i := by
    have := List.mem_range'.1 hi
    omega
  have ea : a.getD i d = d := by rw [List.getD_eq_getElem?_getD, List.getElem?_eq_none (by omega)]; rfl
  have eb : b.getD i d = d := by rw [List.getD_eq_getElem?_getD, List.getElem?_eq_none (by omega)]; rfl
  rw [ea, eb]
  exact h.self d
theorem locO_cmp3 : Cmp3 locO := by
  have := Cmp3.sum bytes_cmp3 cmpD_cmp3 (fun l : List UInt8 => !digB l)
  have e : locO = fun x y : List UInt8 => if (!digB x) = true then (if (!digB y) = true then Lib.compareBytes x y else -1) else if (!digB y) = true then 1 else cmpD x y := funext fun a => funext fun b => by
    unfold locO
    cases digB a <;> cases digB b <;> simp
  rw [e]; exact this
theorem stgO_cmp3 : Cmp3 stgO := by
  have := Cmp3.lex (cmpI_cmp3.pull (fun x : Int × List UInt8 => x.1)) (cmpD_cmp3.pull (fun x : Int × List UInt8 => x.2))
  have e : stgO = fun x y : Int × List UInt8 => if cmpI x.1 y.1 = 0 then cmpD x.2 y.2 else cmpI x.1 y.1 := funext fun a => funext fun b => by
    unfold stgO orI orI orI
    (repeat' split) <;> first | rfl | omega
  rw [e]; exact this
/-- A version's stages. -/
def st1 (x : PepL) : Int × List UInt8 := if x.c = 0 then (if x.d && !x.b then (0, []) else (255, [])) else (x.c, x.n)
def st2 (x : PepL) : Int × List UInt8 := if x.b then (1, x.m) else (0, [])
def st3 (x : PepL) : Int × List UInt8 := if x.d then (1, x.k) else (255, [])
/-- The order of versions. -/
def stL (x y : PepL) : Int := orI [stgO (st1 x) (st1 y), stgO (st2 x) (st2 y), stgO (st3 x) (st3 y)]
def ordP (x y : PepL) : Int := orI [cmpD x.ep y.ep, padO cmpD [48] x.rel y.rel 0, stL x y, padO locO [] x.loc y.loc 0]
theorem stL_cmp3 : Cmp3 stL := by
  have := Cmp3.lex (stgO_cmp3.pull st1) (Cmp3.lex (stgO_cmp3.pull st2) (Cmp3.lex (stgO_cmp3.pull st3) zero_cmp3))
  exact this
theorem ordP_cmp3 : Cmp3 ordP := by
  have := Cmp3.lex (cmpD_cmp3.pull PepL.ep) (Cmp3.lex ((padO_cmp3 cmpD_cmp3 [48]).pull PepL.rel) (Cmp3.lex stL_cmp3 (Cmp3.lex ((padO_cmp3 locO_cmp3 []).pull PepL.loc) zero_cmp3)))
  exact this
/-- The version of a text that is read. -/
def rowL (u : List UInt8) (xs : List (Nat × Nat)) : List (List UInt8) := xs.map fun x => plainL (seg u x.1 x.2)
def pepOf (u : List UInt8) : PepL := ⟨epoT u (vp1 u), rowL u (vrel u), preC u (vp3 u), stN u (vp3 u) preWs, posB u (vp4 u), posN u (vp4 u), (wordL u (vp5 u) devWs).isSome, stN u (vp5 u) devWs, rowL u (vlocs u)⟩
/-- Is a text a version? -/
def okP (l : List UInt8) : Bool := decide (l.length ≤ 64) && decide ((verX (lowL l)).1 = 0)
/-- The order of texts. -/
def cmpT (a b : List UInt8) : Int := if okP a then (if okP b then ordP (pepOf (lowL a)) (pepOf (lowL b)) else 1) else if okP b then -1 else 0
theorem cmpT_cmp3 : Cmp3 cmpT := by
  have := Cmp3.sum zero_cmp3 (ordP_cmp3.pull (fun l => pepOf (lowL l))) (fun l => !okP l)
  have e : cmpT = fun x y => if (!okP x) = true then (if (!okP y) = true then 0 else -1) else if (!okP y) = true then 1 else ordP (pepOf (lowL x)) (pepOf (lowL y)) := funext fun a => funext fun b => by
    unfold cmpT
    cases okP a <;> cases okP b <;> simp
  rw [e]; exact this

end Go.Proofs.YtagnikhkmaplpaaGreat
