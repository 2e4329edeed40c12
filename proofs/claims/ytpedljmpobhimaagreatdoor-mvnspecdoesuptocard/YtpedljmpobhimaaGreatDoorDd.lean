/-
  Walks: the iterator over a text's tokens.
-/
import Derived.Test.YtpedljmpobhimaaGreatDoorDc
import Derived.RangeFuncNested
import Derived.RangeFuncBound
import Derived.RangeFuncCalls
import Derived.RangeFuncLeaves
import Derived.Shelf.Abstract
import Derived.OwnWalkIn
import Derived.TacticsInMore
import Derived.LoopNIn
import Derived.LoopIn
import Derived.Sort.QuietIn
namespace Go.Proofs.YtpedljmpobhimaaGreatDoor
open Go.RowKit Go.Shelf
set_option linter.unusedVariables false

attribute [local go_sem] Oper.semAt_some

theorem below_grown {W W' : World} (h : Below W.heap.size W W') : W.grownBy W' none := ⟨h.os, h.tape, h.output, h.size, fun k hk _ => h.block k hk⟩
theorem grown_drewN (W : World) (m : Nat) : W.grownBy (W.drewN m) none := ⟨rfl, rfl, rfl, Nat.le_refl _, fun _ _ _ => rfl⟩
theorem boxed_drewN {W : World} {B : Nat} {t : TypeId} {v : Value} (h : Boxed W B t v) (m : Nat) : Boxed (W.drewN m) B t v := h.kept (grown_drewN W m) (by simp)

/-- One block lies as it lay. -/
def One (b : Nat) (W W' : World) : Prop := W'.heap[b]? = W.heap[b]?
theorem One.trans {b : Nat} {A B C : World} (h : One b A B) (k : One b B C) : One b A C := Eq.trans k h
theorem one_b {b : Nat} {w : World} (hb : b < w.heap.size) : ∀ (W : World) (l : Nat) (o o' : Obj), w.heap.size ≤ l → W.heap[l]? = some o → o.isCells = false → o.isWalk = false → One b W (W.putObj l o') :=
  fun W l o o' hl _ _ _ => World.putObj_heap_other (by omega)

theorem okM_digit {c : UInt8} (h : okM c = true) (h1 : isC (c.toNat : Int) 1 = false) (h2 : markB c = false) : wordB c = true := by
  unfold okM at h
  rw [h1, h2] at h
  simpa using h
/-- Behind a token that is no mark there is a byte of the other kind: a token is not empty there. -/
theorem tkN_pos (c : UInt8) (r : List UInt8) (h : okM c = true) (h2 : markB c = false) : 0 < tkN (c :: r) := by
  unfold tkN
  cases h1 : isC (c.toNat : Int) 1
  · have hw := okM_digit h h1 h2
    rw [if_neg (by rw [runL, h1]; simp)]
    unfold wdN
    rw [List.takeWhile_cons, if_pos hw]
    simp
  · have : 0 < runL 1 (c :: r) := by rw [runL, if_pos h1]; omega
    rw [if_pos this]; exact this
theorem splitN_more : ∀ (n m : Nat) (d : Bool) (l : List UInt8), (∀ c ∈ l, okM c = true) → l.length < n → l.length < m → splitN n d l = splitN m d l
  | 0, _, _, _, _, h, _ => by omega
  | _ + 1, 0, _, _, _, _, h => by omega
  | n + 1, m + 1, d, l, hok, hn, hm => by
    rw [splitN, splitN]
    have hle := tkN_le l
    have hdl : (l.drop (tkN l)).length = l.length - tkN l := List.length_drop
    have hdm : ∀ c ∈ l.drop (tkN l), okM c = true := fun c hc => hok c (List.mem_of_mem_drop hc)
    cases hd : l.drop (tkN l) with
    | nil => rfl
    | cons c r =>
      rw [hd] at hdl hdm
      simp only [List.length_cons] at hdl
      congr 1
      dsimp only
      cases hm2 : markB c
      · have hp : 0 < tkN l := by
          rcases Nat.eq_zero_or_pos (tkN l) with h0 | h0
          · rw [h0, List.drop_zero] at hd
            have := tkN_pos c r (hdm c List.mem_cons_self) hm2
            rw [← hd, h0] at this
            exact absurd this (by omega)
          · exact h0
        exact splitN_more n m true (c :: r) hdm (by simp only [List.length_cons]; omega) (by simp only [List.length_cons]; omega)
      · exact splitN_more n m (c == 45) r (fun x hx => hdm x (List.mem_cons_of_mem _ hx)) (by omega) (by omega)
/-- What is left to be split. -/
def splitD (d : Bool) (l : List UInt8) : List Tok := splitN (l.length + 1) d l
theorem splitD_end (d : Bool) (l : List UInt8) (h : l.drop (tkN l) = []) : splitD d l = [tokL d (l.take (tkN l)) false] := by
  unfold splitD
  rw [splitN, h]; rfl
theorem splitD_mark (d : Bool) (l : List UInt8) (hok : ∀ c ∈ l, okM c = true) (c : UInt8) (r : List UInt8) (h : l.drop (tkN l) = c :: r) (hm : markB c = true) : splitD d l = tokL d (l.take (tkN l)) false :: splitD (c == 45) r := by
  have hdl : (l.drop (tkN l)).length = l.length - tkN l := List.length_drop
  have hdm : ∀ c ∈ l.drop (tkN l), okM c = true := fun c hc => hok c (List.mem_of_mem_drop hc)
  rw [h] at hdl hdm
  simp only [List.length_cons] at hdl
  unfold splitD
  rw [splitN, h]
  dsimp only
  rw [if_pos hm, splitN_more l.length (r.length + 1) _ r (fun x hx => hdm x (List.mem_cons_of_mem _ hx)) (by omega) (by omega)]
  unfold turnB
  dsimp only
  rw [hm]; rfl
theorem splitD_turn (d : Bool) (l : List UInt8) (hok : ∀ c ∈ l, okM c = true) (c : UInt8) (r : List UInt8) (h : l.drop (tkN l) = c :: r) (hm : markB c = false) : 0 < tkN l ∧ splitD d l = tokL d (l.take (tkN l)) true :: splitD true (c :: r) := by
  have hdl : (l.drop (tkN l)).length = l.length - tkN l := List.length_drop
  have hdm : ∀ c ∈ l.drop (tkN l), okM c = true := fun c hc => hok c (List.mem_of_mem_drop hc)
  rw [h] at hdl hdm
  simp only [List.length_cons] at hdl
  have hp : 0 < tkN l := by
    rcases Nat.eq_zero_or_pos (tkN l) with h0 | h0
    · rw [h0, List.drop_zero] at h
      have := tkN_pos c r (hdm c List.mem_cons_self) hm
      rw [← h, h0] at this
      exact absurd this (by omega)
    · exact h0
  refine ⟨hp, ?_⟩
  unfold splitD
  rw [splitN, h]
  dsimp only
  rw [if_neg (by rw [hm]; decide), splitN_more l.length ((c :: r).length + 1) _ (c :: r) hdm (by simp only [List.length_cons]; omega) (by omega)]
  unfold turnB
  dsimp only
  rw [hm]; rfl
theorem splitL_D (l : List UInt8) : splitL l = splitD false l := rfl
theorem splitN_len : ∀ (n : Nat) (d : Bool) (l : List UInt8), (splitN n d l).length ≤ n
  | 0, _, _ => Nat.le_refl _
  | n + 1, d, l => by
    rw [splitN]
    cases l.drop (tkN l) with
    | nil => simp
    | cons c r =>
      dsimp only
      have := splitN_len n (c == 45) r
      have := splitN_len n true (c :: r)
      split <;> simp only [List.length_cons] <;> omega

set_option maxHeartbeats 400000 in
theorem HasPrefix1_any (s p : ByteArray) (w : World) :
    Calls Tryz.prog 112 #[.string s, .string p] w fun e w' => e = .returned (.bool (decide (p.size ≤ s.size) && (s.extract 0 p.size).toList == p.toList)) ∧ w' = w := by
  by_cases h : p.size ≤ s.size
  · have h' : decide ((p.size : Int) ≤ (s.size : Int)) = true := by simp; omega
    have hd : decide (p.size ≤ s.size) = true := by simp [h]
    rw [hd]
    clear hd
    go_enter Tryz.func112, Tryz.ntmps112
    go_wp2_with fail
    go_ret
    exact ⟨by simp, rfl⟩
  · have h' : ¬ (p.size : Int) ≤ (s.size : Int) := by omega
    have hd : decide (p.size ≤ s.size) = false := by simp [h]
    rw [hd]
    clear hd
    go_enter Tryz.func112, Tryz.ntmps112
    go_wp2_with fail
    go_ret
    exact ⟨by simp, rfl⟩
set_option maxHeartbeats 400000 in
theorem HasPrefix_any (s p : ByteArray) (w : World) :
    Calls Tryz.prog 98 #[.string s, .string p] w fun e w' => e = .returned (.bool (decide (p.size ≤ s.size) && (s.extract 0 p.size).toList == p.toList)) ∧ w' = w := by
  go_enter Tryz.func98, Tryz.ntmps98
  go_wp2_with fail
  refine (HasPrefix1_any _ _ _).mono ?_
  rintro e w' ⟨rfl, rfl⟩
  go_wp2_with fail
  go_ret
  exact ⟨rfl, rfl⟩
theorem dash_any (l : List UInt8) (w : World) :
    Calls Tryz.prog 98 #[.string (ofL l), .string ⟨#[45]⟩] w fun e w' => e = .returned (.bool (l.head? == some 45)) ∧ w' = w := by
  refine (HasPrefix_any _ _ _).mono ?_
  rintro e w' ⟨rfl, rfl⟩
  refine ⟨?_, rfl⟩
  congr 2
  rw [toL, toL, extract_ofL, ofL_data, ofL_data, ofL_size]
  cases l with
  | nil => rfl
  | cons c r =>
    have : (⟨#[45]⟩ : ByteArray).size = 1 := rfl
    rw [this]
    have : (⟨#[45]⟩ : ByteArray).data.toList = [45] := rfl
    rw [this]
    simp

end Go.Proofs.YtpedljmpobhimaaGreatDoor
