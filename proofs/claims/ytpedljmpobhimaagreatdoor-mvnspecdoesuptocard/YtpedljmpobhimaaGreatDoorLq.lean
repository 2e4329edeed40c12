/-
  Plain laws of orders: Maven's order of tokens and of texts is one; no program is named here.
-/
import Derived.Test.YtpedljmpobhimaaGreatDoorPl
namespace Go.Proofs.YtpedljmpobhimaaGreatDoor
set_option linter.unusedVariables false

/-- The order of two numbers. -/
def cmpN (a b : Nat) : Int := if a < b then -1 else if b < a then 1 else 0

/-- An order by -1, 0 and 1. -/
structure Cmp3 {α : Type} (f : α → α → Int) : Prop where
  rng : ∀ a b, f a b = -1 ∨ f a b = 0 ∨ f a b = 1
  anti : ∀ a b, f b a = - f a b
  trans : ∀ a b c, f a b ≤ 0 → f b c ≤ 0 → f a c ≤ 0
  eqv : ∀ a b c, f a b = 0 → f a c = f b c

namespace Cmp3
variable {α β : Type} {f g : α → α → Int}
theorem self (h : Cmp3 f) (a : α) : f a a = 0 := by have := h.anti a a; omega
theorem lt_le (h : Cmp3 f) {a b c : α} (h1 : f a b < 0) (h2 : f b c ≤ 0) : f a c < 0 := by
  have h3 := h.trans a b c (by omega) h2
  by_cases e : f a c = 0
  · have e1 := h.eqv a c b e
    have e2 := h.anti b c
    omega
  · omega
theorem le_lt (h : Cmp3 f) {a b c : α} (h1 : f a b ≤ 0) (h2 : f b c < 0) : f a c < 0 := by
  have h3 := h.trans a b c h1 (by omega)
  by_cases e : f a c = 0
  · have e0 := h.anti a c
    have e1 := h.eqv c a b (by omega)
    have e2 := h.anti b c
    omega
  · omega
theorem pull (h : Cmp3 f) (p : β → α) : Cmp3 (fun x y => f (p x) (p y)) :=
  ⟨fun a b => h.rng _ _, fun a b => h.anti _ _, fun a b c => h.trans _ _ _, fun a b c => h.eqv _ _ _⟩
theorem lex (hf : Cmp3 f) (hg : Cmp3 g) : Cmp3 (fun x y => if f x y = 0 then g x y else f x y) := by
  refine ⟨fun a b => ?_, fun a b => ?_, fun a b c h1 h2 => ?_, fun a b c h => ?_⟩
  · skip
    split
    · exact hg.rng a b
    · exact hf.rng a b
  · have := hf.anti a b
    have := hg.anti a b
    by_cases h : f a b = 0
    · rw [if_pos h, if_pos (by omega)]; omega
    · rw [if_neg h, if_neg (by omega)]; omega
  · skip
    have f1 : f a b ≤ 0 := by split at h1 <;> omega
    have f2 : f b c ≤ 0 := by split at h2 <;> omega
    have f3 := hf.trans a b c f1 f2
    by_cases h : f a c = 0
    · rw [if_pos h]
      have e1 : f a b = 0 := by
        by_cases e : f a b = 0
        · exact e
        · have := hf.lt_le (a := a) (b := b) (c := c) (by omega) f2; omega
      have e2 : f b c = 0 := by
        by_cases e : f b c = 0
        · exact e
        · have := hf.le_lt (a := a) (b := b) (c := c) f1 (by omega); omega
      rw [if_pos e1] at h1
      rw [if_pos e2] at h2
      exact hg.trans a b c h1 h2
    · rw [if_neg h]; exact f3
  · skip
    have e1 : f a b = 0 := by split at h <;> omega
    rw [if_pos e1] at h
    rw [hf.eqv a b c e1, hg.eqv a b c h]
/-- First those that are t, each part by its own order. -/
theorem sum (hf : Cmp3 f) (hg : Cmp3 g) (t : α → Bool) : Cmp3 (fun x y => if t x then (if t y then f x y else -1) else if t y then 1 else g x y) := by
  refine ⟨fun a b => ?_, fun a b => ?_, fun a b c h1 h2 => ?_, fun a b c h => ?_⟩
  · have := hf.rng a b
    have := hg.rng a b
    cases t a <;> cases t b <;> simp <;> assumption
  · have := hf.anti a b
    have := hg.anti a b
    cases t a <;> cases t b <;> simp <;> assumption
  · have := hf.trans a b c
    have := hg.trans a b c
    cases ha : t a <;> cases hb : t b <;> cases hc : t c <;> simp [ha, hb, hc] at h1 h2 ⊢
    · exact hg.trans a b c h1 h2
    · exact hf.trans a b c h1 h2
  · skip
    cases ha : t a <;> cases hb : t b <;> cases hc : t c <;> simp [ha, hb] at h ⊢
    · exact hg.eqv a b c h
    · exact hf.eqv a b c h
end Cmp3

theorem cmpN_cmp3 : Cmp3 cmpN := by
  refine ⟨fun a b => ?_, fun a b => ?_, fun a b c h1 h2 => ?_, fun a b c h => ?_⟩
  · unfold cmpN; (repeat' split) <;> simp
  · unfold cmpN; (repeat' split) <;> omega
  · unfold cmpN at *; (repeat' split at h1) <;> (repeat' split at h2) <;> (repeat' split) <;> omega
  · unfold cmpN at *; (repeat' split at h) <;> (repeat' split) <;> omega

/-- Lists, one ahead of what goes on with it. -/
def lexG {α : Type} (f : α → α → Int) : List α → List α → Int
  | [], [] => 0
  | [], _ :: _ => -1
  | _ :: _, [] => 1
  | x :: a, y :: b => if f x y = 0 then lexG f a b else f x y

theorem lexG_cmp3 {α : Type} {f : α → α → Int} (h : Cmp3 f) : Cmp3 (lexG f) := by
  refine ⟨fun a => ?_, fun a => ?_, fun a => ?_, fun a => ?_⟩
  · induction a with
    | nil => intro b; cases b <;> simp [lexG]
    | cons x a ih =>
      intro b
      cases b with
      | nil => simp [lexG]
      | cons y b =>
        rw [lexG]
        split
        · exact ih b
        · exact h.rng x y
  · induction a with
    | nil => intro b; cases b <;> simp [lexG]
    | cons x a ih =>
      intro b
      cases b with
      | nil => simp [lexG]
      | cons y b =>
        have e := h.anti x y
        rw [lexG, lexG]
        by_cases h0 : f x y = 0
        · rw [if_pos h0, if_pos (by omega)]; exact ih b
        · rw [if_neg h0, if_neg (by omega)]; exact e
  · induction a with
    | nil => intro b c h1 h2; cases c <;> cases b <;> simp [lexG] at *
    | cons x a ih =>
      intro b c h1 h2
      cases b with
      | nil => simp [lexG] at h1
      | cons y b =>
        cases c with
        | nil => simp [lexG] at h2
        | cons z c =>
          rw [lexG] at h1 h2 ⊢
          have f1 : f x y ≤ 0 := by split at h1 <;> omega
          have f2 : f y z ≤ 0 := by split at h2 <;> omega
          have f3 := h.trans x y z f1 f2
          by_cases h0 : f x z = 0
          · rw [if_pos h0]
            have e1 : f x y = 0 := by
              by_cases e : f x y = 0
              · exact e
              · have := h.lt_le (a := x) (b := y) (c := z) (by omega) f2; omega
            have e2 : f y z = 0 := by
              by_cases e : f y z = 0
              · exact e
              · have := h.le_lt (a := x) (b := y) (c := z) f1 (by omega); omega
            rw [if_pos e1] at h1
            rw [if_pos e2] at h2
            exact ih b c h1 h2
          · rw [if_neg h0]; exact f3
  · induction a with
    | nil => intro b c h1; cases b <;> simp [lexG] at *
    | cons x a ih =>
      intro b c h1
      cases b with
      | nil => simp [lexG] at h1
      | cons y b =>
        rw [lexG] at h1
        have e1 : f x y = 0 := by split at h1 <;> omega
        rw [if_pos e1] at h1
        cases c with
        | nil => simp [lexG]
        | cons z c => rw [lexG, lexG, h.eqv x y z e1, ih b c h1]

theorem bytes_eq : ∀ a b : List UInt8, Lib.compareBytes a b = lexG (fun x y : UInt8 => cmpN x.toNat y.toNat) a b
  | [], [] => rfl
  | [], _ :: _ => rfl
  | _ :: _, [] => rfl
  | x :: a, y :: b => by
    rw [lexG, Lib.compareBytes, bytes_eq a b]
    have e : ∀ u v : UInt8, (u < v) ↔ u.toNat < v.toNat := fun u v => UInt8.lt_iff_toNat_lt
    unfold cmpN
    by_cases h1 : x < y
    · have h1' := (e x y).1 h1
      simp [h1, h1']
    · have h1' : ¬ x.toNat < y.toNat := fun h => h1 ((e x y).2 h)
      by_cases h2 : y < x
      · have h2' := (e y x).1 h2
        simp [h1, h1', h2, h2']
      · have h2' : ¬ y.toNat < x.toNat := fun h => h2 ((e y x).2 h)
        simp [h1, h1', h2, h2']
theorem bytes_cmp3 : Cmp3 Lib.compareBytes := by
  have := lexG_cmp3 (cmpN_cmp3.pull (fun x : UInt8 => x.toNat))
  have e : Lib.compareBytes = lexG (fun x y : UInt8 => cmpN x.toNat y.toNat) := funext fun a => funext fun b => bytes_eq a b
  rw [e]; exact this
theorem cmpD_cmp3 : Cmp3 cmpD := by
  have := Cmp3.lex (cmpN_cmp3.pull (fun l : List UInt8 => (trimL l).length)) (bytes_cmp3.pull trimL)
  have e : cmpD = fun x y => if cmpN (trimL x).length (trimL y).length = 0 then Lib.compareBytes (trimL x) (trimL y) else cmpN (trimL x).length (trimL y).length := funext fun a => funext fun b => by
    unfold cmpD cmpN
    (repeat' split) <;> first | rfl | omega
  rw [e]; exact this

theorem cmpI_cmp3 : Cmp3 cmpI := by
  refine ⟨fun a b => ?_, fun a b => ?_, fun a b c h1 h2 => ?_, fun a b c h => ?_⟩
  · unfold cmpI; (repeat' split) <;> simp
  · unfold cmpI; (repeat' split) <;> omega
  · unfold cmpI at *; (repeat' split at h1) <;> (repeat' split at h2) <;> (repeat' split) <;> omega
  · unfold cmpI at *; (repeat' split at h) <;> (repeat' split) <;> omega
theorem zero_cmp3 {α : Type} : Cmp3 (fun _ _ : α => (0 : Int)) := ⟨fun _ _ => .inr (.inl rfl), fun _ _ => rfl, fun _ _ _ _ _ => Int.le_refl _, fun _ _ _ _ => rfl⟩
/-- What is one order up to every length is one. -/
theorem Cmp3.ofN {α : Type} {f : Nat → α → α → Int} {g : α → α → Int} (sz : α → Nat) (hf : ∀ n, Cmp3 (f n)) (hg : ∀ n a b, sz a ≤ n → sz b ≤ n → g a b = f n a b) : Cmp3 g := by
  refine ⟨fun a b => ?_, fun a b => ?_, fun a b c h1 h2 => ?_, fun a b c h => ?_⟩
  · rw [hg (sz a + sz b) a b (by omega) (by omega)]; exact (hf _).rng a b
  · rw [hg (sz a + sz b) a b (by omega) (by omega), hg (sz a + sz b) b a (by omega) (by omega)]; exact (hf _).anti a b
  · rw [hg (sz a + sz b + sz c) a b (by omega) (by omega)] at h1
    rw [hg (sz a + sz b + sz c) b c (by omega) (by omega)] at h2
    rw [hg (sz a + sz b + sz c) a c (by omega) (by omega)]
    exact (hf _).trans a b c h1 h2
  · rw [hg (sz a + sz b + sz c) a b (by omega) (by omega)] at h
    rw [hg (sz a + sz b + sz c) a c (by omega) (by omega), hg (sz a + sz b + sz c) b c (by omega) (by omega)]
    exact (hf _).eqv a b c h
theorem kind_num {a b : Tok} (h : cmpI (kindT a) (kindT b) = 0) : a.num = b.num := by
  unfold cmpI kindT at h
  cases ha : a.num <;> cases hb : b.num <;> cases hc : a.dash <;> cases hd : b.dash <;> simp [ha, hb, hc, hd] at h ⊢
theorem ordT_cmp3 : Cmp3 ordT := by
  have := Cmp3.lex (cmpI_cmp3.pull kindT) (Cmp3.sum (cmpD_cmp3.pull Tok.text) (Cmp3.lex (cmpI_cmp3.pull (fun t : Tok => rankL t.text)) (bytes_cmp3.pull Tok.text)) Tok.num)
  have e : ordT = fun x y : Tok => if cmpI (kindT x) (kindT y) = 0 then (if x.num = true then (if y.num = true then cmpD x.text y.text else -1) else if y.num = true then 1 else if cmpI (rankL x.text) (rankL y.text) = 0 then Lib.compareBytes x.text y.text else cmpI (rankL x.text) (rankL y.text)) else cmpI (kindT x) (kindT y) := funext fun a => funext fun b => by
    unfold ordT
    by_cases h : cmpI (kindT a) (kindT b) = 0
    · have hn := kind_num h
      rw [if_neg (by simpa using h), if_pos h]
      by_cases h1 : a.num = true
      · rw [if_pos h1, if_pos h1, if_pos (show b.num = true by rw [← hn]; exact h1)]
      · rw [if_neg h1, if_neg h1, if_neg (show ¬ b.num = true by rw [← hn]; exact h1)]
        by_cases h2 : cmpI (rankL a.text) (rankL b.text) = 0
        · rw [if_neg (by simpa using h2), if_pos h2]
        · rw [if_pos h2, if_neg h2]
    · rw [if_pos h, if_neg h]
  rw [e]; exact this
theorem ordN_nil : ∀ n, ordN n [] [] = 0
  | 0 => rfl
  | n + 1 => by
    rw [ordN]
    have : ordT (([] : List Tok).headD nilT) (([] : List Tok).headD nilT) = 0 := ordT_cmp3.self _
    rw [if_pos this]
    exact ordN_nil n
theorem ordN_more : ∀ (n m : Nat) (a b : List Tok), a.length ≤ n → b.length ≤ n → a.length ≤ m → b.length ≤ m → ordN n a b = ordN m a b
  | 0, m, a, b, h1, h2, _, _ => by
    obtain rfl : a = [] := List.length_eq_zero_iff.1 (by omega)
    obtain rfl : b = [] := List.length_eq_zero_iff.1 (by omega)
    rw [ordN_nil, ordN_nil]
  | n + 1, 0, a, b, _, _, h1, h2 => by
    obtain rfl : a = [] := List.length_eq_zero_iff.1 (by omega)
    obtain rfl : b = [] := List.length_eq_zero_iff.1 (by omega)
    rw [ordN_nil, ordN_nil]
  | n + 1, m + 1, a, b, h1, h2, h3, h4 => by
    rw [ordN, ordN, ordN_more n m a.tail b.tail (by rw [List.length_tail]; omega) (by rw [List.length_tail]; omega) (by rw [List.length_tail]; omega) (by rw [List.length_tail]; omega)]
theorem ordN_cmp3 : ∀ n, Cmp3 (ordN n)
  | 0 => zero_cmp3
  | n + 1 => Cmp3.lex (ordT_cmp3.pull (fun l : List Tok => l.headD nilT)) ((ordN_cmp3 n).pull List.tail)
theorem ordL_cmp3 : Cmp3 ordL := Cmp3.ofN (f := ordN) List.length ordN_cmp3 (fun n a b h1 h2 => ordN_more _ n a b (Nat.le_max_left _ _) (Nat.le_max_right _ _) h1 h2)
/-- The tokens of a text, or none. -/
def verT (l : List UInt8) : List Tok := match toksL l with | .ok v => v | .error _ => []
def okT (l : List UInt8) : Bool := match toksL l with | .ok _ => true | .error _ => false
theorem cmpT_cmp3 : Cmp3 cmpT := by
  have := Cmp3.sum bytes_cmp3 (ordL_cmp3.pull verT) (fun l => !okT l)
  have e : cmpT = fun x y => if (!okT x) = true then (if (!okT y) = true then Lib.compareBytes x y else -1) else if (!okT y) = true then 1 else ordL (verT x) (verT y) := funext fun a => funext fun b => by
    unfold cmpT okT verT
    cases toksL a <;> cases toksL b <;> simp
  rw [e]; exact this

/-- The answers that three comparisons can have. -/
theorem three_of {f : List UInt8 → List UInt8 → Int} (h : Cmp3 f) (a b c : List UInt8) : ∃ x y z : Int, f a b = x ∧ f b c = y ∧ f a c = z ∧ f b a = -x ∧ (x = -1 ∨ x = 0 ∨ x = 1) ∧ (y = -1 ∨ y = 0 ∨ y = 1) ∧ (z = -1 ∨ z = 0 ∨ z = 1) ∧
    (x ≤ 0 → y ≤ 0 → z ≤ 0) ∧ (0 ≤ x → 0 ≤ y → 0 ≤ z) ∧ (x = 0 → z = y) := by
  refine ⟨_, _, _, rfl, rfl, rfl, h.anti a b, h.rng a b, h.rng b c, h.rng a c, h.trans a b c, fun h1 h2 => ?_, h.eqv a b c⟩
  have e1 := h.anti a b
  have e2 := h.anti b c
  have e3 := h.anti a c
  have := h.trans c b a (by omega) (by omega)
  omega

end Go.Proofs.YtpedljmpobhimaaGreatDoor
