/-
  Plain functions of versions' order; no program is named here. · Plain laws of orders: what compares parts in turn is an order; no program is named here.
-/
import Derived.Test.YtaflflelcdcanaaGreatZPlainS
namespace Go.Proofs.YtaflflelcdcanaaGreat

/-- A version's parts. -/
structure SemL where
  maj : List UInt8
  min : List UInt8
  pat : List UInt8
  pre : List (List UInt8)
  bld : List (List UInt8)

/-- The order of two identifiers. -/
def oneO (a b : List UInt8) : Int :=
  if digB a then (if digB b then cmpD a b else -1) else if digB b then 1 else Lib.compareBytes a b
/-- The order of two lists of identifiers, one ahead of what goes on with it. -/
def lexO : List (List UInt8) → List (List UInt8) → Int
  | [], [] => 0
  | [], _ :: _ => -1
  | _ :: _, [] => 1
  | x :: a, y :: b => if oneO x y = 0 then lexO a b else oneO x y
/-- The order of two lists of identifiers: none behind any. -/
def preO (a b : List (List UInt8)) : Int :=
  if a = [] ∨ b = [] then (if b.length < a.length then -1 else if a.length < b.length then 1 else 0) else lexO a b
/-- The first of four that is not nought. -/
def or4 (x y z u : Int) : Int := if x ≠ 0 then x else if y ≠ 0 then y else if z ≠ 0 then z else u
/-- The order of two versions. -/
def ordO (a b : SemL) : Int := or4 (cmpD a.maj b.maj) (cmpD a.min b.min) (cmpD a.pat b.pat) (preO a.pre b.pre)
/-- The version of a text's parts. -/
def semOf (l : List UInt8) (c : Cuts) : SemL := ⟨seg l 0 c.a, seg l c.b c.c, seg l c.d c.e, c.pre.map fun x => seg l x.1 x.2, c.bld.map fun x => seg l x.1 x.2⟩
/-- The order of two texts. -/
def cmpT (a b : List UInt8) : Int :=
  match parseR a, parseR b with
  | .ok x, .ok y => ordO (semOf a x) (semOf b y)
  | .ok _, .error _ => 1
  | .error _, .ok _ => -1
  | .error _, .error _ => Lib.compareBytes a b

theorem lexO_drop (a b : List (List UInt8)) (i : Nat) (ha : i < a.length) (hb : i < b.length) : lexO (a.drop i) (b.drop i) = if oneO a[i] b[i] = 0 then lexO (a.drop (i + 1)) (b.drop (i + 1)) else oneO a[i] b[i] := by
  rw [List.drop_eq_getElem_cons ha, List.drop_eq_getElem_cons hb, lexO]
theorem lexO_endb (a b : List (List UInt8)) (i : Nat) (ha : i < a.length) (hb : b.length ≤ i) : lexO (a.drop i) (b.drop i) = 1 := by
  rw [List.drop_eq_getElem_cons ha, List.drop_eq_nil_of_le hb, lexO]
theorem lexO_enda (a b : List (List UInt8)) (i : Nat) (ha : a.length ≤ i) (hb : i < b.length) : lexO (a.drop i) (b.drop i) = -1 := by
  rw [List.drop_eq_getElem_cons hb, List.drop_eq_nil_of_le ha, lexO]
theorem lexO_end (a b : List (List UInt8)) (i : Nat) (ha : a.length ≤ i) (hb : b.length ≤ i) : lexO (a.drop i) (b.drop i) = 0 := by
  rw [List.drop_eq_nil_of_le ha, List.drop_eq_nil_of_le hb, lexO]

end Go.Proofs.YtaflflelcdcanaaGreat

namespace Go.Proofs.YtaflflelcdcanaaGreat
set_option linter.unusedVariables false

/-- An order by -1, 0 and 1. -/
structure Cmp3 {α : Type} (f : α → α → Int) : Prop where
  rng : ∀ a b, f a b = -1 ∨ f a b = 0 ∨ f a b = 1
  anti : ∀ a b, f b a = - f a b
  trans : ∀ a b c, f a b ≤ 0 → f b c ≤ 0 → f a c ≤ 0
  eqv : ∀ a b c, f a b = 0 → f a c = f b c

namespace Cmp3
variable {α β : Type} {f g : α → α → Int}
theorem self (h : Cmp3 f) (a : α) : f a a = 0 := by have := h.anti a a; omega
theorem lt_le (h : Cmp3 f) {a b c : α} (h1 : f a b < 0) (h2 : f b c ≤ 0) : f a c < 0 := by
  have h3 := h.trans a b c (by omega) h2
  by_cases e : f a c = 0
  · have e1 := h.eqv a c b e
    have e2 := h.anti b c
    omega
  · omega
theorem le_lt (h : Cmp3 f) {a b c : α} (h1 : f a b ≤ 0) (h2 : f b c < 0) : f a c < 0 := by
  have h3 := h.trans a b c h1 (by omega)
  by_cases e : f a c = 0
  · have e0 := h.anti a c
    have e1 := h.eqv c a b (by omega)
    have e2 := h.anti b c
    omega
  · omega
theorem pull (h : Cmp3 f) (p : β → α) : Cmp3 (fun x y => f (p x) (p y)) :=
  ⟨fun a b => h.rng _ _, fun a b => h.anti _ _, fun a b c => h.trans _ _ _, fun a b c => h.eqv _ _ _⟩
theorem lex (hf : Cmp3 f) (hg : Cmp3 g) : Cmp3 (fun x y => if f x y = 0 then g x y else f x y) := by
  refine ⟨fun a b => ?_, fun a b => ?_, fun a b c h1 h2 => ?_, fun a b c h => ?_⟩
  · skip
    split
    · exact hg.rng a b
    · exact hf.rng a b
  · have := hf.anti a b
    have := hg.anti a b
    by_cases h : f a b = 0
    · rw [if_pos h, if_pos (by omega)]; omega
    · rw [if_neg h, if_neg (by omega)]; omega
  · skip
    have f1 : f a b ≤ 0 := by split at h1 <;> omega
    have f2 : f b c ≤ 0 := by split at h2 <;> omega
    have f3 := hf.trans a b c f1 f2
    by_cases h : f a c = 0
    · rw [if_pos h]
      have e1 : f a b = 0 := by
        by_cases e : f a b = 0
        · exact e
        · have := hf.lt_le (a := a) (b := b) (c := c) (by omega) f2; omega
      have e2 : f b c = 0 := by
        by_cases e : f b c = 0
        · exact e
        · have := hf.le_lt (a := a) (b := b) (c := c) f1 (by omega); omega
      rw [if_pos e1] at h1
      rw [if_pos e2] at h2
      exact hg.trans a b c h1 h2
    · rw [if_neg h]; exact f3
  · skip
    have e1 : f a b = 0 := by split at h <;> omega
    rw [if_pos e1] at h
    rw [hf.eqv a b c e1, hg.eqv a b c h]
/-- First those that are t, each part by its own order. -/
theorem sum (hf : Cmp3 f) (hg : Cmp3 g) (t : α → Bool) : Cmp3 (fun x y => if t x then (if t y then f x y else -1) else if t y then 1 else g x y) := by
  refine ⟨fun a b => ?_, fun a b => ?_, fun a b c h1 h2 => ?_, fun a b c h => ?_⟩
  · have := hf.rng a b
    have := hg.rng a b
    cases t a <;> cases t b <;> simp <;> assumption
  · have := hf.anti a b
    have := hg.anti a b
    cases t a <;> cases t b <;> simp <;> assumption
  · have := hf.trans a b c
    have := hg.trans a b c
    cases ha : t a <;> cases hb : t b <;> cases hc : t c <;> simp [ha, hb, hc] at h1 h2 ⊢
    · exact hg.trans a b c h1 h2
    · exact hf.trans a b c h1 h2
  · skip
    cases ha : t a <;> cases hb : t b <;> cases hc : t c <;> simp [ha, hb] at h ⊢
    · exact hg.eqv a b c h
    · exact hf.eqv a b c h
end Cmp3

theorem cmpN_cmp3 : Cmp3 cmpN := by
  refine ⟨fun a b => ?_, fun a b => ?_, fun a b c h1 h2 => ?_, fun a b c h => ?_⟩
  · unfold cmpN; (repeat' split) <;> simp
  · unfold cmpN; (repeat' split) <;> omega
  · unfold cmpN at *; (repeat' split at h1) <;> (repeat' split at h2) <;> (repeat' split) <;> omega
  · unfold cmpN at *; (repeat' split at h) <;> (repeat' split) <;> omega

/-- Lists, one ahead of what goes on with it. -/
def lexG {α : Type} (f : α → α → Int) : List α → List α → Int
  | [], [] => 0
  | [], _ :: _ => -1
  | _ :: _, [] => 1
  | x :: a, y :: b => if f x y = 0 then lexG f a b else f x y

theorem lexG_cmp3 {α : Type} {f : α → α → Int} (h : Cmp3 f) : Cmp3 (lexG f) := by
  refine ⟨fun a => ?_, fun a => ?_, fun a => ?_, fun a => ?_⟩
  · induction a with
    | nil => intro b; cases b <;> simp [lexG]
    | cons x a ih =>
      intro b
      cases b with
      | nil => simp [lexG]
      | cons y b =>
        rw [lexG]
        split
        · exact ih b
        · exact h.rng x y
  · induction a with
    | nil => intro b; cases b <;> simp [lexG]
    | cons x a ih =>
      intro b
      cases b with
      | nil => simp [lexG]
      | cons y b =>
        have e := h.anti x y
        rw [lexG, lexG]
        by_cases h0 : f x y = 0
        · rw [if_pos h0, if_pos (by omega)]; exact ih b
        · rw [if_neg h0, if_neg (by omega)]; exact e
  · induction a with
    | nil => intro b c h1 h2; cases c <;> cases b <;> simp [lexG] at *
    | cons x a ih =>
      intro b c h1 h2
      cases b with
      | nil => simp [lexG] at h1
      | cons y b =>
        cases c with
        | nil => simp [lexG] at h2
        | cons z c =>
          rw [lexG] at h1 h2 ⊢
          have f1 : f x y ≤ 0 := by split at h1 <;> omega
          have f2 : f y z ≤ 0 := by split at h2 <;> omega
          have f3 := h.trans x y z f1 f2
          by_cases h0 : f x z = 0
          · rw [if_pos h0]
            have e1 : f x y = 0 := by
              by_cases e : f x y = 0
              · exact e
              · have := h.lt_le (a := x) (b := y) (c := z) (by omega) f2; omega
            have e2 : f y z = 0 := by
              by_cases e : f y z = 0
              · exact e
              · have := h.le_lt (a := x) (b := y) (c := z) f1 (by omega); omega
            rw [if_pos e1] at h1
            rw [if_pos e2] at h2
            exact ih b c h1 h2
          · rw [if_neg h0]; exact f3
  · induction a with
    | nil => intro b c h1; cases b <;> simp [lexG] at *
    | cons x a ih =>
      intro b c h1
      cases b with
      | nil => simp [lexG] at h1
      | cons y b =>
        rw [lexG] at h1
        have e1 : f x y = 0 := by split at h1 <;> omega
        rw [if_pos e1] at h1
        cases c with
        | nil => simp [lexG]
        | cons z c => rw [lexG, lexG, h.eqv x y z e1, ih b c h1]

theorem lexO_eq : ∀ a b : List (List UInt8), lexO a b = lexG oneO a b
  | [], [] => rfl
  | [], _ :: _ => rfl
  | _ :: _, [] => rfl
  | x :: a, y :: b => by rw [lexO, lexG, lexO_eq a b]
theorem bytes_eq : ∀ a b : List UInt8, Lib.compareBytes a b = lexG (fun x y : UInt8 => cmpN x.toNat y.toNat) a b
  | [], [] => rfl
  | [], _ :: _ => rfl
  | _ :: _, [] => rfl
  | x :: a, y :: b => by
    rw [lexG, Lib.compareBytes, bytes_eq a b]
    have e : ∀ u v : UInt8, (u < v) ↔ u.toNat < v.toNat := fun u v => UInt8.lt_iff_toNat_lt
    unfold cmpN
    by_cases h1 : x < y
    · have h1' := (e x y).1 h1
      simp [h1, h1']
    · have h1' : ¬ x.toNat < y.toNat := fun h => h1 ((e x y).2 h)
      by_cases h2 : y < x
      · have h2' := (e y x).1 h2
        simp [h1, h1', h2, h2']
      · have h2' : ¬ y.toNat < x.toNat := fun h => h2 ((e y x).2 h)
        simp [h1, h1', h2, h2']
theorem bytes_cmp3 : Cmp3 Lib.compareBytes := by
  have := lexG_cmp3 (cmpN_cmp3.pull (fun x : UInt8 => x.toNat))
  have e : Lib.compareBytes = lexG (fun x y : UInt8 => cmpN x.toNat y.toNat) := funext fun a => funext fun b => bytes_eq a b
  rw [e]; exact this
theorem cmpD_cmp3 : Cmp3 cmpD := by
  have := Cmp3.lex (cmpN_cmp3.pull (fun l : List UInt8 => (trimL l).length)) (bytes_cmp3.pull trimL)
  have e : cmpD = fun x y => if cmpN (trimL x).length (trimL y).length = 0 then Lib.compareBytes (trimL x) (trimL y) else cmpN (trimL x).length (trimL y).length := funext fun a => funext fun b => by
    unfold cmpD cmpN
    (repeat' split) <;> first | rfl | omega
  rw [e]; exact this
theorem oneO_cmp3 : Cmp3 oneO := Cmp3.sum cmpD_cmp3 bytes_cmp3 digB
theorem preO_cmp3 : Cmp3 preO := by
  have h0 : Cmp3 (fun _ _ : List (List UInt8) => (0 : Int)) := ⟨fun _ _ => .inr (.inl rfl), fun _ _ => rfl, fun _ _ _ _ _ => Int.le_refl _, fun _ _ _ _ => rfl⟩
  have hl : Cmp3 lexO := by
    have e : lexO = lexG oneO := funext fun a => funext fun b => lexO_eq a b
    rw [e]; exact lexG_cmp3 oneO_cmp3
  have := Cmp3.sum hl h0 (fun l : List (List UInt8) => !l.isEmpty)
  have e : preO = fun x y : List (List UInt8) => if (!x.isEmpty) = true then (if (!y.isEmpty) = true then lexO x y else -1) else if (!y.isEmpty) = true then 1 else 0 := funext fun a => funext fun b => by
    unfold preO
    cases a <;> cases b <;> simp
  rw [e]; exact this
theorem ordO_cmp3 : Cmp3 ordO := by
  have h1 := cmpD_cmp3.pull SemL.maj
  have h2 := cmpD_cmp3.pull SemL.min
  have h3 := cmpD_cmp3.pull SemL.pat
  have h4 := preO_cmp3.pull SemL.pre
  have := Cmp3.lex h1 (Cmp3.lex h2 (Cmp3.lex h3 h4))
  have e : ordO = fun x y : SemL => if cmpD x.maj y.maj = 0 then (if cmpD x.min y.min = 0 then (if cmpD x.pat y.pat = 0 then preO x.pre y.pre else cmpD x.pat y.pat) else cmpD x.min y.min) else cmpD x.maj y.maj := funext fun a => funext fun b => by
    unfold ordO or4
    (repeat' split) <;> first | rfl | (simp_all)
  rw [e]; exact this

/-- The version of a text, or one that is none. -/
def semT (l : List UInt8) : SemL := match parseR l with | .ok c => semOf l c | .error _ => ⟨[], [], [], [], []⟩
def okT (l : List UInt8) : Bool := match parseR l with | .ok _ => true | .error _ => false
theorem cmpT_cmp3 : Cmp3 cmpT := by
  have := Cmp3.sum bytes_cmp3 (ordO_cmp3.pull semT) (fun l => !okT l)
  have e : cmpT = fun x y => if (!okT x) = true then (if (!okT y) = true then Lib.compareBytes x y else -1) else if (!okT y) = true then 1 else ordO (semT x) (semT y) := funext fun a => funext fun b => by
    unfold cmpT okT semT
    cases parseR a <;> cases parseR b <;> simp
  rw [e]; exact this

end Go.Proofs.YtaflflelcdcanaaGreat
