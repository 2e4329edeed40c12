/-
  Walks: a row of tokens in one block; slices.Reverse.
-/
import Derived.Test.YtpedljmpobhimaaGreatDoorDf
import Derived.BigRegion
namespace Go.Proofs.YtpedljmpobhimaaGreatDoor
open Go.RowKit Go.Shelf
set_option linter.unusedVariables false

def rowT (t : Tok) : List Value := [.bool t.dash, .bool t.num, .string (ofL t.text)]
/-- Tokens as cells. -/
def flatT (ts : List Tok) : List Value := ts.flatMap rowT
theorem flatT_cons (x : Tok) (xs : List Tok) : flatT (x :: xs) = rowT x ++ flatT xs := rfl
theorem flatT_snoc (x : Tok) (xs : List Tok) : flatT (xs ++ [x]) = flatT xs ++ rowT x := by simp [flatT]
theorem flatT_len : ∀ xs : List Tok, (flatT xs).length = xs.length * 3
  | [] => rfl
  | x :: xs => by rw [flatT_cons, List.length_append, flatT_len xs, List.length_cons]; simp [rowT]; omega
theorem flatT_at : ∀ (xs : List Tok) (i : Nat) (x : Tok), xs[i]? = some x → (flatT xs)[i * 3]? = some (.bool x.dash) ∧ (flatT xs)[i * 3 + 1]? = some (.bool x.num) ∧ (flatT xs)[i * 3 + 2]? = some (.string (ofL x.text))
  | [], i, x, h => by simp at h
  | y :: xs, 0, x, h => by
    simp at h; subst h
    rw [flatT_cons]
    exact ⟨rfl, rfl, rfl⟩
  | y :: xs, i + 1, x, h => by
    have ih := flatT_at xs i x (by simpa using h)
    have hl : (rowT y).length = 3 := rfl
    have e : ∀ j, (flatT (y :: xs))[(i + 1) * 3 + j]? = (flatT xs)[i * 3 + j]? := fun j => by
      rw [flatT_cons, List.getElem?_append_right (by rw [hl]; omega), hl]
      congr 1; omega
    obtain ⟨h0, h1, h2⟩ := ih
    exact ⟨(e 0).trans h0, (e 1).trans h1, (e 2).trans h2⟩
theorem flatT_set : ∀ (xs : List Tok) (sp : List Value) (i : Nat) (y : Tok), i < xs.length → (((flatT xs ++ sp).set (i * 3) (.bool y.dash)).set (i * 3 + 1) (.bool y.num)).set (i * 3 + 2) (.string (ofL y.text)) = flatT (xs.set i y) ++ sp
  | [], sp, i, y, h => by simp at h
  | z :: xs, sp, 0, y, _ => rfl
  | z :: xs, sp, i + 1, y, h => by
    have ih := flatT_set xs sp i y (by simpa using h)
    have hl : (rowT z).length = 3 := rfl
    have e : ∀ (L : List Value) (j : Nat) (v : Value), (rowT z ++ L).set ((i + 1) * 3 + j) v = rowT z ++ L.set (i * 3 + j) v := fun L j v => by
      rw [List.set_append_right _ _ (by rw [hl]; omega), hl]
      congr 2; omega
    rw [List.set_cons_succ, flatT_cons, flatT_cons, List.append_assoc, List.append_assoc, ← ih]
    have e0 := e (flatT xs ++ sp) 0 (.bool y.dash)
    simp only [Nat.add_zero] at e0
    rw [e0, e, e]
theorem set_list {W : World} {B : Nat} {t : TypeId} {L : List Value} {m : Nat × Nat} (o : Nat) (v : Value) (h : W.heap[B]? = some (.cells L.toArray t m)) : (W.setCell ⟨B, o, none⟩ v).heap[B]? = some (.cells (L.set o v).toArray t m) := by
  rw [set_lies o v h]
  simp

/-- The row lies in its block, nothing else old has turned. -/
structure KW (w0 : World) (B : Nat) (sp : List Value) (ts : List Tok) (W : World) : Prop where
  turn : Turn B w0 W
  cells : W.heap[B]? = some (.cells (flatT ts ++ sp).toArray 91 (0, 0))
theorem KW.lt {w0 : World} {B : Nat} {sp : List Value} {ts : List Tok} {W : World} (h : KW w0 B sp ts W) : B < W.heap.size := (Array.getElem?_eq_some_iff.1 h.cells).1
theorem KW.drew {w0 : World} {B : Nat} {sp : List Value} {ts : List Tok} {W : World} (h : KW w0 B sp ts W) : KW w0 B sp ts W.drew := ⟨⟨h.turn.os, h.turn.tape, h.turn.output, h.turn.size, h.turn.block⟩, h.cells⟩
theorem KW.seen {w0 : World} {B : Nat} {sp : List Value} {ts : List Tok} {W : World} (h : KW w0 B sp ts W) (i : Nat) (x : Tok) (hx : ts[i]? = some x) : W.cell? ⟨B, i * 3, none⟩ = some (.bool x.dash) ∧ W.cell? ⟨B, i * 3 + 1, none⟩ = some (.bool x.num) ∧ W.cell? ⟨B, i * 3 + 2, none⟩ = some (.string (ofL x.text)) := by
  obtain ⟨h0, h1, h2⟩ := flatT_at ts i x hx
  have hi := (List.getElem?_eq_some_iff.1 hx).1
  have hl := flatT_len ts
  have k : ∀ j v, j < (flatT ts).length → (flatT ts)[j]? = some v → (flatT ts ++ sp).toArray[j]? = some v := fun j v hj hv => by
    rw [List.getElem?_toArray, List.getElem?_append_left hj]; exact hv
  exact ⟨cell_at _ h.cells (k _ _ (by omega) h0), cell_at _ h.cells (k _ _ (by omega) h1), cell_at _ h.cells (k _ _ (by omega) h2)⟩
theorem KW.free {w0 : World} {B : Nat} {sp : List Value} {ts : List Tok} {W : World} (h : KW w0 B sp ts W) (o : Nat) : W.frozen? ⟨B, o, none⟩ = false := one_free o h.cells
theorem KW.put {w0 : World} {B : Nat} {sp : List Value} {ts : List Tok} {W : World} (h : KW w0 B sp ts W) (i : Nat) (y : Tok) (hi : i < ts.length) :
    KW w0 B sp (ts.set i y) (((W.setCell ⟨B, i * 3, none⟩ (.bool y.dash)).setCell ⟨B, i * 3 + 1, none⟩ (.bool y.num)).setCell ⟨B, i * 3 + 2, none⟩ (.string (ofL y.text))) := by
  refine ⟨(((h.turn).trans (Turn.set B _ _ _)).trans (Turn.set B _ _ _)).trans (Turn.set B _ _ _), ?_⟩
  rw [← flatT_set ts sp i y hi]
  exact set_list _ _ (set_list _ _ (set_list _ _ (h.cells)))
theorem KW.row {w0 : World} {B : Nat} {sp : List Value} {ts : List Tok} {W : World} (h : KW w0 B sp ts W) : TRow W B 0 ts := by
  intro i hi
  have := h.seen i ts[i] (List.getElem?_eq_getElem hi)
  simpa using this

/-- Two elements exchanged. -/
def swp {α : Type} (xs : List α) (i j : Nat) : List α := match xs[i]?, xs[j]? with
  | some x, some y => (xs.set i y).set j x
  | _, _ => xs
theorem swp_at {α : Type} {xs : List α} {i j : Nat} {x y : α} (hx : xs[i]? = some x) (hy : xs[j]? = some y) : swp xs i j = (xs.set i y).set j x := by unfold swp; rw [hx, hy]
theorem swp_len {α : Type} (xs : List α) (i j : Nat) : (swp xs i j).length = xs.length := by
  unfold swp; split <;> simp
theorem some_at {α : Type} (xs : List α) (i : Nat) (h : i < xs.length) : ∃ x, xs[i]? = some x := ⟨xs[i], List.getElem?_eq_getElem h⟩
theorem KW.swap {w0 : World} {B : Nat} {sp : List Value} {xs : List Tok} {W : World} (h : KW w0 B sp xs W) {i j : Nat} {x y : Tok} (hx : xs[i]? = some x) (hy : xs[j]? = some y) :
    KW w0 B sp (swp xs i j) ((((((W.setCell ⟨B, i * 3, none⟩ (.bool y.dash)).setCell ⟨B, i * 3 + 1, none⟩ (.bool y.num)).setCell ⟨B, i * 3 + 2, none⟩ (.string (ofL y.text))).setCell ⟨B, j * 3, none⟩ (.bool x.dash)).setCell ⟨B, j * 3 + 1, none⟩ (.bool x.num)).setCell ⟨B, j * 3 + 2, none⟩ (.string (ofL x.text))) := by
  have hi := (List.getElem?_eq_some_iff.1 hx).1
  have hj := (List.getElem?_eq_some_iff.1 hy).1
  rw [swp_at hx hy]
  exact (h.put i y hi).put j x (by simpa using hj)

/-- The outer ones are exchanged, so far. -/
def RevAt (ts ys : List Tok) (k : Nat) : Prop := ∀ p, p < ts.length → ys[p]? = if p < k ∨ ts.length < p + k + 1 then ts[ts.length - 1 - p]? else ts[p]?
theorem rev_start (ts : List Tok) : RevAt ts ts 0 := by
  intro p hp
  rw [if_neg (by omega)]
theorem rev_step {ts ys : List Tok} {k j : Nat} (hl : ys.length = ts.length) (h : RevAt ts ys k) (hj : k + j + 1 = ts.length) (hkj : k < j) : RevAt ts (swp ys k j) (k + 1) := by
  intro p hp
  obtain ⟨x, hx⟩ := some_at ys k (by omega)
  obtain ⟨y, hy⟩ := some_at ys j (by omega)
  have ex := h k (by omega)
  have ey := h j (by omega)
  rw [if_neg (by omega)] at ex ey
  rw [swp_at hx hy, List.getElem?_set, List.getElem?_set]
  by_cases h1 : j = p
  · subst h1
    rw [if_pos rfl, if_pos (by rw [List.length_set]; omega), if_pos (by omega), ← hx, ex]
    congr 1; omega
  · rw [if_neg h1]
    by_cases h2 : k = p
    · subst h2
      rw [if_pos rfl, if_pos (by omega), if_pos (by omega), ← hy, ey]
      congr 1; omega
    · rw [if_neg h2, h p hp]
      by_cases h3 : p < k ∨ ts.length < p + k + 1
      · rw [if_pos h3, if_pos (by omega)]
      · rw [if_neg h3, if_neg (by omega)]
theorem rev_end {ts ys : List Tok} {k : Nat} (hl : ys.length = ts.length) (h : RevAt ts ys k) (hk : ts.length ≤ 2 * k + 1) : ys = ts.reverse := by
  apply List.ext_getElem?
  intro p
  by_cases hp : p < ts.length
  · rw [h p hp, List.getElem?_reverse hp]
    by_cases h3 : p < k ∨ ts.length < p + k + 1
    · rw [if_pos h3]
    · rw [if_neg h3]
      congr 1; omega
  · rw [List.getElem?_eq_none (by omega), List.getElem?_eq_none (by rw [List.length_reverse]; omega)]

set_option maxRecDepth 100000 in
set_option maxHeartbeats 2000000 in
theorem Reverse_any (w0 : World) (B cap : Nat) (sp : List Value) (ts : List Tok) (w : World) (hd : KW w0 B sp ts w) (h0 : 0 < ts.length) (hl : ts.length ≤ 1000000000000) :
    Calls Tryz.prog 101 #[.slice (some ⟨B, 0, none⟩) ts.length cap] w fun e w' => e = .returned (.tuple #[]) ∧ KW w0 B sp ts.reverse w' := by
  obtain ⟨N, hN⟩ : ∃ N, ts.length = N := ⟨_, rfl⟩
  have HN := hide hN
  rw [hN] at h0 hl ⊢
  clear hN
  go_enter Tryz.func101, Tryz.ntmps101
  go_wp2_with fail
  go_loopw [2, 3] (fun x y wr => ∃ (k : Nat) (ys : List Tok), 2 * k ≤ N ∧ x = .int .i64 k ∧ y = .int .i64 ((N : Int) - 1 - (k : Int)) ∧ Hid (ys.length = ts.length) ∧ KW w0 B sp ys wr ∧ Hid (RevAt ts ys k)) (fun x _ _ => N - (intOf x).toNat)
  case atStart => exact ⟨0, ts, by omega, rfl, by simp, rfl, hd, rev_start ts⟩
  case round =>
    clear hd
    obtain ⟨k, ys, hk, rfl, rfl, HL, hD, HR⟩ := hrel
    by_cases hlt : 2 * k + 1 < N
    · obtain ⟨j, hj⟩ : ∃ j : Nat, k + j + 1 = N := ⟨N - 1 - k, by omega⟩
      have ej : (N : Int) - 1 - (k : Int) = (j : Int) := by omega
      rw [ej]
      have hkj : k < j := by omega
      have hkj' : (k : Int) < (j : Int) := by omega
      obtain ⟨x, hx⟩ := some_at ys k (by rw [HL.out, HN.out]; omega)
      obtain ⟨y, hy⟩ := some_at ys j (by rw [HL.out, HN.out]; omega)
      have HS := hide (rev_step HL.out HR.out (by rw [HN.out]; exact hj) hkj)
      have HX := hide hx
      have HY := hide hy
      have l1 : (k : Int) < (N : Int) := by omega
      have l2 : (j : Int) < (N : Int) := by omega
      have HJ := hide hj
      have hj1 : 1 ≤ j := by omega
      have hjN : j < N := by omega
      clear hx hy hj ej
      obtain ⟨p0, p1, p2⟩ := hD.seen k x HX.out
      obtain ⟨q0, q1, q2⟩ := hD.seen j y HY.out
      have z0 := hD.free (k * 3)
      have z1 := hD.free (k * 3 + 1)
      have z2 := hD.free (k * 3 + 2)
      have y0 := hD.free (j * 3)
      have y1 := hD.free (j * 3 + 1)
      have y2 := hD.free (j * 3 + 2)
      go_wp2_with fail
      go_big_region
      all_goals go_wp2_with fail
      go_roundw
      case rel => exact ⟨k + 1, swp ys k j, by omega, by go_num, by have := HJ.out; congr 1; push_cast; omega, by show _ = _; rw [swp_len]; exact HL.out, (hD.swap HX.out HY.out).drew, HS.out⟩
      case measure => simp [intOf]; omega
    · have hlt' : ¬ (k : Int) < (N : Int) - 1 - (k : Int) := by omega
      go_wp2_with fail
      go_end0
      have := rev_end HL.out HR.out (by rw [HN.out]; omega)
      exact ⟨rfl, by rw [← this]; exact hD⟩

end Go.Proofs.YtpedljmpobhimaaGreatDoor
