/-
  Plain laws: texts of digits stand in the order of their numbers.
-/
import Derived.Test.YtagnikhkmaplpaaGreatWd
import Derived.Test.YtagnikhkmaplpaaGreatPlainB
namespace Go.Proofs.YtagnikhkmaplpaaGreat

/-- The number of digits. -/
def val : List UInt8 → Nat
  | [] => 0
  | c :: r => (c.toNat - 48) * 10 ^ r.length + val r

def cmpN (x y : Nat) : Int := if x < y then -1 else if y < x then 1 else 0

theorem allD_tail {c : UInt8} {r : List UInt8} (h : AllD (c :: r)) : AllD r := fun x hx => h x (List.mem_cons_of_mem _ hx)
theorem allD_head {c : UInt8} {r : List UInt8} (h : AllD (c :: r)) : 48 ≤ c.toNat ∧ c.toNat ≤ 57 := h c List.mem_cons_self

theorem val_lt : ∀ l : List UInt8, AllD l → val l < 10 ^ l.length
  | [], _ => by simp [val]
  | c :: r, h => by
    have ih := val_lt r (allD_tail h)
    have hc := allD_head h
    rw [val, List.length_cons, Nat.pow_succ]
    have h9 : (c.toNat - 48) * 10 ^ r.length ≤ 9 * 10 ^ r.length := Nat.mul_le_mul_right _ (by omega)
    omega

theorem val_trim : ∀ l : List UInt8, val (trimL l) = val l
  | [] => by simp [trimL, val]
  | c :: r => by
    unfold trimL
    split
    · rename_i h; rw [val_trim r, val, h]; simp
    · rfl

theorem val_nought (l : List UInt8) : val (48 :: l) = val l := by simp [val]

theorem cmpB_val : ∀ a b : List UInt8, AllD a → AllD b → a.length = b.length → Lib.compareBytes a b = cmpN (val a) (val b)
  | [], [], _, _, _ => by simp [Lib.compareBytes, cmpN, val]
  | [], _ :: _, _, _, h => by simp at h
  | _ :: _, [], _, _, h => by simp at h
  | c :: a, d :: b, ha, hb, h => by
    have hl : a.length = b.length := by simpa using h
    have ih := cmpB_val a b (allD_tail ha) (allD_tail hb) hl
    have va := val_lt a (allD_tail ha)
    have vb := val_lt b (allD_tail hb)
    have hc := allD_head ha
    have hd := allD_head hb
    rw [Lib.compareBytes, val, val, hl]
    rw [hl] at va
    generalize 10 ^ b.length = p at *
    by_cases h1 : c < d
    · have h1' : c.toNat < d.toNat := UInt8.lt_iff_toNat_lt.1 h1
      have hm : (c.toNat - 48 + 1) * p ≤ (d.toNat - 48) * p := Nat.mul_le_mul_right _ (by omega)
      rw [Nat.add_mul, Nat.one_mul] at hm
      rw [if_pos h1, cmpN, if_pos (by omega)]
    · by_cases h2 : d < c
      · have h2' : d.toNat < c.toNat := UInt8.lt_iff_toNat_lt.1 h2
        have hm : (d.toNat - 48 + 1) * p ≤ (c.toNat - 48) * p := Nat.mul_le_mul_right _ (by omega)
        rw [Nat.add_mul, Nat.one_mul] at hm
        rw [if_neg h1, if_pos h2, cmpN, if_neg (by omega), if_pos (by omega)]
      · have he : c = d := UInt8.le_antisymm (UInt8.not_lt.1 h2) (UInt8.not_lt.1 h1)
        subst he
        rw [if_neg h1, if_neg h2, ih]
        unfold cmpN
        simp only [Nat.add_lt_add_iff_left]

/-- A trimmed text that is longer stands behind. -/
theorem val_longer (a b : List UInt8) (ha : AllD a) (hb : AllD b) (h : (trimL a).length < (trimL b).length) : val a < val b := by
  have hA := trimL_allD a ha
  have hB := trimL_allD b hb
  have la := val_lt _ hA
  have pa := trimL_pos a
  rw [← val_trim a, ← val_trim b]
  rcases trim_parts b with ⟨n, c, r, _, hc, ht⟩ | ⟨_, ht⟩
  · rw [ht] at h hB ⊢
    have hh := allD_head hB
    have hne : c.toNat ≠ 48 := fun e => hc (UInt8.toNat_inj.1 e)
    have hle : 10 ^ (trimL a).length ≤ 10 ^ r.length := Nat.pow_le_pow_right (by omega) (by simp at h; omega)
    have hm : 1 * 10 ^ r.length ≤ (c.toNat - 48) * 10 ^ r.length := Nat.mul_le_mul_right _ (by omega)
    rw [val]
    omega
  · rw [ht, List.length_singleton] at h
    omega

theorem cmpD_val (a b : List UInt8) (ha : AllD a) (hb : AllD b) : cmpD a b = cmpN (val a) (val b) := by
  unfold cmpD
  by_cases h1 : (trimL a).length < (trimL b).length
  · rw [if_pos h1, cmpN, if_pos (val_longer a b ha hb h1)]
  · by_cases h2 : (trimL b).length < (trimL a).length
    · have := val_longer b a hb ha h2
      rw [if_neg h1, if_pos h2, cmpN, if_neg (by omega), if_pos this]
    · rw [if_neg h1, if_neg h2, cmpB_val _ _ (trimL_allD a ha) (trimL_allD b hb) (by omega), val_trim, val_trim]

theorem cmpB_eq (a b : List UInt8) (h : Lib.compareBytes a b = 0) : a = b := by
  rcases cmp3 a b with ⟨h1, _⟩ | ⟨_, _, he⟩ | ⟨h1, _⟩
  · omega
  · simpa using he
  · omega

theorem trim_iff (a b : List UInt8) (ha : AllD a) (hb : AllD b) : trimL a = trimL b ↔ val a = val b := by
  constructor
  · intro h
    rw [← val_trim a, ← val_trim b, h]
  · intro h
    have hc := cmpD_val a b ha hb
    rw [h, cmpN, if_neg (by omega), if_neg (by omega)] at hc
    unfold cmpD at hc
    split at hc
    · omega
    · split at hc
      · omega
      · exact cmpB_eq _ _ hc

/-- The number of digits from the last on. -/
def vr : List UInt8 → Nat
  | [] => 0
  | c :: r => (c.toNat - 48) + 10 * vr r
theorem vr_app : ∀ (l : List UInt8) (c : UInt8), vr (l ++ [c]) = vr l + (c.toNat - 48) * 10 ^ l.length
  | [], c => by simp [vr]
  | d :: r, c => by
    rw [List.cons_append, vr, vr, vr_app r c, List.length_cons, Nat.pow_succ, Nat.mul_add, Nat.mul_left_comm]
    have : (c.toNat - 48) * (10 ^ r.length * 10) = (c.toNat - 48) * (10 * 10 ^ r.length) := by rw [Nat.mul_comm (10 ^ r.length) 10]
    omega
theorem val_vr : ∀ l : List UInt8, val l = vr l.reverse
  | [] => rfl
  | c :: r => by
    rw [val, List.reverse_cons, vr_app, val_vr r, List.length_reverse]
    omega
theorem vr_inc : ∀ l : List UInt8, AllD l → vr (incR l) = vr l + 1
  | [], _ => rfl
  | c :: r, h => by
    have hc := allD_head h
    unfold incR
    split
    · rename_i e
      rw [vr, vr_inc r (allD_tail h), vr, e]
      show 48 - 48 + 10 * (vr r + 1) = 57 - 48 + 10 * vr r + 1
      omega
    · rename_i e
      have hne : c.toNat ≠ 57 := fun e' => e (UInt8.toNat_inj.1 e')
      have e1 : (c + 1).toNat = (c.toNat + 1) % 256 := UInt8.toNat_add c 1
      rw [vr, vr, e1]
      omega
theorem allD_inc : ∀ l : List UInt8, AllD l → AllD (incR l)
  | [], _ => by intro x hx; simp [incR] at hx; subst hx; decide
  | c :: r, h => by
    have hc := allD_head h
    unfold incR
    split
    · intro x hx
      rcases List.mem_cons.1 hx with rfl | hx
      · decide
      · exact allD_inc r (allD_tail h) x hx
    · rename_i e
      have hne : c.toNat ≠ 57 := fun e' => e (UInt8.toNat_inj.1 e')
      have e1 : (c + 1).toNat = (c.toNat + 1) % 256 := UInt8.toNat_add c 1
      intro x hx
      rcases List.mem_cons.1 hx with rfl | hx
      · omega
      · exact allD_tail h x hx
theorem allD_rev (l : List UInt8) (h : AllD l) : AllD l.reverse := fun x hx => h x (List.mem_reverse.1 hx)
theorem incL_val (l : List UInt8) (h : AllD l) : val (incL l) = val l + 1 ∧ AllD (incL l) := by
  unfold incL
  refine ⟨?_, allD_rev _ (allD_inc _ (allD_rev _ h))⟩
  rw [val_vr, List.reverse_reverse, vr_inc _ (allD_rev _ h), ← val_vr]
theorem incR_len : ∀ l : List UInt8, (incR l).length ≤ l.length + 1
  | [] => by simp [incR]
  | c :: r => by
    have := incR_len r
    unfold incR
    split <;> simp <;> omega
theorem nextL_val (l : List UInt8) (h : AllD l) : val (nextL l) = val l + 1 ∧ AllD (nextL l) := by
  unfold nextL
  rw [if_pos (run_of_allD l h), ← val_trim l]
  exact incL_val _ (trimL_allD l h)
theorem nextL_len (l : List UInt8) : (nextL l).length ≤ l.length + 2 := by
  unfold nextL
  split
  · have h1 := incR_len (trimL l).reverse
    have h2 := trimL_le l
    rw [List.length_reverse] at h1
    unfold incL
    rw [List.length_reverse]
    omega
  · simp
theorem allD_dig (l : List UInt8) : AllD (l.map digC) := by
  intro x hx
  obtain ⟨c, _, rfl⟩ := List.mem_map.1 hx
  have := dig10 c
  omega

end Go.Proofs.YtagnikhkmaplpaaGreat
