/-
  The document's reader: identifiers with dots between.
-/
import Derived.Test.YtkngmgdcnplkgaaRc
import Derived.StillTailTactics
namespace Go.Proofs.Ytkngmgdcnplkgaa
open Go.RowKit Go.Shelf
set_option linter.unusedVariables false

theorem Turn.grown {B : Nat} {w w' : World} (h : Turn B w w') : w.grownBy w' (some B) := ⟨h.os, h.tape, h.output, h.size, fun k hk hn => h.block k hk (fun e => hn (by rw [e]))⟩
theorem Turn.ofGrown {B n : Nat} {w w' : World} {row : Option Nat} (h : w.grownBy w' row) (hn : n ≤ w.heap.size) (hr : ∀ k, row = some k → n ≤ k) : Below n w w' := (Below.refl n w).grown h hn hr
theorem own_turn {B : Nat} {w w' : World} {base : Nat} {e : TypeId} {size : Nat} {v : Value} {n : Nat} {xs : List Value} (h : w.ownsRow base e size v n xs) (ht : Turn B w w') (hB : B < base) : w'.ownsRow base e size v n xs := by
  refine h.kept ht.grown ?_
  cases ho : v.ownBlock with
  | none => exact .inl rfl
  | some k => exact .inr (fun e => by have := (h.lt k ho).1; injection e with e; omega)

/-- What Idents leaves. -/
def IdsPost (s : ByteArray) (p : Bool) (a B : Nat) (w : World) (r : Ending) (w' : World) : Prop :=
  match idsR p s.data.toList a with
  | .ok (xs, q) => ∃ v, r = .returned v ∧ w'.ownsRow w.heap.size 9 1 v xs.length (strs s xs) ∧ RdAt w' B s q 0 ∧ Turn B w w'
  | .error y => r = .returned (.slice none 0 0) ∧ RdAt w' B s y.2 y.1 ∧ Turn B w w'
theorem idsPost_err {s : ByteArray} {p : Bool} {a B : Nat} {w w' : World} {y : Int × Nat} (h : idsR p s.data.toList a = .error y) (h1 : RdAt w' B s y.2 y.1) (h2 : Turn B w w') : IdsPost s p a B w (.returned (.slice none 0 0)) w' := by
  unfold IdsPost; rw [h]; exact ⟨rfl, h1, h2⟩
theorem idsPost_ok {s : ByteArray} {p : Bool} {a B : Nat} {w w' : World} {v : Value} {xs : List (Nat × Nat)} {q : Nat} (h : idsR p s.data.toList a = .ok (xs, q)) (h0 : w'.ownsRow w.heap.size 9 1 v xs.length (strs s xs)) (h1 : RdAt w' B s q 0) (h2 : Turn B w w') : IdsPost s p a B w (.returned v) w' := by
  unfold IdsPost; rw [h]; exact ⟨v, rfl, h0, h1, h2⟩
theorem misL_ne (n a : Nat) : misL n a ≠ 0 := by unfold misL; split <;> decide

theorem atB_iff (l : List UInt8) (a : Nat) (c : UInt8) : atB l a c = true ↔ l[a]? = some c := by unfold atB; simp

/-- An identifier that may not stand: the error. -/
theorem ids_none (p : Bool) (l : List UInt8) (a k : Nat) (done : List (Nat × Nat)) (hd : done ++ segs l k = segs l a) (hb : badOf p l done = none) (he : k + idL (l.drop k) = k) : idsR p l a = .error (misL l.length k, k) := by
  have hw : wrongL p l (seg l (k, k).1 (k, k).2) (k, k).2 = misL l.length k := by
    unfold wrongL; rw [if_pos (seg_self l k)]
  have := idsR_bad p l a done (k, k) hb (by rw [hw]; exact misL_ne _ _) (by
    refine ⟨(segs l k).tail, ?_⟩
    rw [← hd, List.append_assoc]
    congr 1
    by_cases h : l[k]? = some 46
    · rw [segs_dot l k k he h]; rfl
    · rw [segs_last l k k he h]; rfl)
  rw [hw] at this
  exact this
theorem ids_bad (l : List UInt8) (a k j : Nat) (done : List (Nat × Nat)) (hd : done ++ segs l k = segs l a) (hb : badOf true l done = none) (he : k + idL (l.drop k) = j) (hne : seg l k j ≠ []) (hz : zeroB (seg l k j) = true) :
    idsR true l a = .error (if atB l j 46 || atB l j 43 then 14 else misL l.length j, j) := by
  have hw : wrongL true l (seg l (k, j).1 (k, j).2) (k, j).2 = if atB l j 46 || atB l j 43 then 14 else misL l.length j := by
    unfold wrongL
    rw [if_neg hne, if_neg (by simp [hz])]
    simp only [Bool.or_eq_true, atB_iff]
  have := idsR_bad true l a done (k, j) hb (by
    rw [hw]
    split
    · decide
    · exact misL_ne _ _) (by
    refine ⟨(segs l k).tail, ?_⟩
    rw [← hd, List.append_assoc]
    congr 1
    by_cases h : l[j]? = some 46
    · rw [segs_dot l k j he h]; rfl
    · rw [segs_last l k j he h]; rfl)
  rw [hw] at this
  exact this
theorem ids_good (p : Bool) (l : List UInt8) (k j : Nat) (hne : seg l k j ≠ []) (hz : (p && zeroB (seg l k j)) = false) : wrongL p l (seg l k j) j = 0 := by
  unfold wrongL
  rw [if_neg hne, if_pos]
  cases p <;> simp_all
theorem bad_snoc (p : Bool) (l : List UInt8) (k j : Nat) (done : List (Nat × Nat)) (hb : badOf p l done = none) (hw : wrongL p l (seg l k j) j = 0) : badOf p l (done ++ [(k, j)]) = none := by
  rw [badOf_app p l done _ hb, badOf, if_pos hw]; rfl
theorem ids_last (p : Bool) (l : List UInt8) (a k j : Nat) (done : List (Nat × Nat)) (hd : done ++ segs l k = segs l a) (hb : badOf p l (done ++ [(k, j)]) = none) (he : k + idL (l.drop k) = j) (hn : atB l j 46 = false) : idsR p l a = .ok (done ++ [(k, j)], j) := by
  have hn' : ¬ l[j]? = some 46 := fun h => by rw [(atB_iff l j 46).2 h] at hn; cases hn
  rw [segs_last l k j he hn'] at hd
  rw [idsR_ok p l a (by rw [← hd]; exact hb), ← hd, lastE_snoc]
theorem ids_next (l : List UInt8) (a k j : Nat) (done : List (Nat × Nat)) (hd : done ++ segs l k = segs l a) (he : k + idL (l.drop k) = j) (hn : atB l j 46 = true) : (done ++ [(k, j)]) ++ segs l (j + 1) = segs l a := by
  rw [segs_dot l k j he ((atB_iff l j 46).1 hn)] at hd
  rw [← hd]; simp
theorem seg_ne (s : ByteArray) (k j : Nat) (h : k < j) (hj : j ≤ s.size) : seg s.data.toList k j ≠ [] := by
  intro h0
  have := seg_len s.data.toList k j (by rw [len_data]; exact hj)
  rw [h0] at this
  simp at this
  omega

end Go.Proofs.Ytkngmgdcnplkgaa
