/-
  Merging as a fold; what is kept, by closures over both sets.
-/
import Derived.Test.YtmpegkcleajhhaaDoorDi
namespace Go.Proofs.YtmpegkcleajhhaaDoor
open Go.RowKit Go.Shelf
set_option linter.unusedVariables false

/-- What a round of merging does. -/
def stepM (keep : Int → Bool) (s : List Sp × Bool) (r : Int) : List Sp × Bool :=
  if keep r = s.2 then s else if s.2 then (s.1.dropLast ++ [((s.1.getLastD (0, 0)).1, r)], false) else (s.1 ++ [(r, 0)], true)
def foldM (keep : Int → Bool) (es : List Int) : List Sp × Bool := es.foldl (stepM keep) ([], false)
theorem foldM_snoc (keep : Int → Bool) (es : List Int) (x : Int) : foldM keep (es ++ [x]) = stepM keep (foldM keep es) x := by simp [foldM]
theorem fold_mg (keep : Int → Bool) : ∀ (es : List Int) (S : List Sp), (es.foldl (stepM keep) (S, false)).1 = S ++ mgL keep es none ∧ ∀ lo, (es.foldl (stepM keep) (S ++ [(lo, 0)], true)).1 = S ++ mgL keep es (some lo)
  | [], S => ⟨by simp [mgL], fun lo => by simp [mgL]⟩
  | e :: es, S => by
    refine ⟨?_, fun lo => ?_⟩
    · rw [List.foldl_cons, mgL]
      cases hk : keep e
      · rw [show stepM keep (S, false) e = (S, false) by simp [stepM, hk]]
        simpa using (fold_mg keep es S).1
      · rw [show stepM keep (S, false) e = (S ++ [(e, 0)], true) by simp [stepM, hk]]
        simpa using (fold_mg keep es S).2 e
    · rw [List.foldl_cons, mgL]
      cases hk : keep e
      · rw [show stepM keep (S ++ [(lo, 0)], true) e = (S ++ [(lo, e)], false) by simp [stepM, hk]]
        have := (fold_mg keep es (S ++ [(lo, e)])).1
        simpa using this
      · rw [show stepM keep (S ++ [(lo, 0)], true) e = (S ++ [(lo, 0)], true) by simp [stepM, hk]]
        simpa using (fold_mg keep es S).2 lo
theorem foldM_mg (keep : Int → Bool) (es : List Int) : (foldM keep es).1 = mgL keep es none := by
  have := (fold_mg keep es []).1
  simpa [foldM] using this
theorem foldM_inv (keep : Int → Bool) : ∀ (n : Nat) (es : List Int), es.length = n → (foldM keep es).1.length ≤ es.length ∧ ((foldM keep es).2 = true → ∃ T lo, (foldM keep es).1 = T ++ [(lo, 0)])
  | 0, es, h => by
    obtain rfl : es = [] := List.length_eq_zero_iff.1 h
    exact ⟨Nat.le_refl _, fun h => by cases h⟩
  | n + 1, es, h => by
    rcases snoc_or es with rfl | ⟨t, x, rfl⟩
    · simp at h
    · have ih := foldM_inv keep n t (by simpa using h)
      rw [foldM_snoc]
      generalize foldM keep t = s at *
      obtain ⟨S, ins⟩ := s
      unfold stepM
      dsimp only at *
      by_cases hk : keep x = ins
      · rw [if_pos hk]
        exact ⟨by simp; have := ih.1; omega, ih.2⟩
      · rw [if_neg hk]
        cases ins
        · rw [if_neg (by simp)]
          exact ⟨by simpa using ih.1, fun _ => ⟨S, x, rfl⟩⟩
        · rw [if_pos rfl]
          obtain ⟨T, lo, rfl⟩ := ih.2 rfl
          refine ⟨by have := ih.1; simp at this ⊢; omega, fun h => by cases h⟩
theorem edL_len : ∀ xs ys : List Int, (edL xs ys).length ≤ xs.length + ys.length
  | [], ys => by rw [edL_nil]; simp
  | x :: xs, [] => by rw [edL_right]; simp
  | x :: xs, y :: ys => by
    rw [edL]
    have h1 := edL_len xs (y :: ys)
    have h2 := edL_len (x :: xs) ys
    have h3 := edL_len xs ys
    simp only [List.length_cons] at h1 h2 ⊢
    split
    · simp only [List.length_cons]; omega
    · split
      · simp only [List.length_cons]; omega
      · simp only [List.length_cons]; omega
termination_by xs ys => xs.length + ys.length
theorem step_stay {keep : Int → Bool} {s : List Sp × Bool} {r : Int} (h : keep r = s.2) : stepM keep s r = s := by unfold stepM; rw [if_pos h]
theorem step_open {keep : Int → Bool} {S : List Sp} {r : Int} (h : keep r = true) : stepM keep (S, false) r = (S ++ [(r, 0)], true) := by simp [stepM, h]
theorem step_shut {keep : Int → Bool} {T : List Sp} {lo r : Int} (h : keep r = false) : stepM keep (T ++ [(lo, 0)], true) r = (T ++ [(lo, r)], false) := by simp [stepM, h]

set_option maxRecDepth 100000 in
theorem UnionK_any (n : Int) (aa ab : Option Addr) (na nb ca cb : Nat) (a b : List Sp) (w : World) (hA : Spans w (.slice aa na ca) a) (hB : Spans w (.slice ab nb cb) b) (fa : fitL n a = true) (fb : fitL n b = true) (hla : a.length ≤ 1000000000000) (hlb : b.length ≤ 1000000000000)
    (X Y : Nat) (r : Int) (W : World) (hLow : Low w W) (bX : Boxed W X 22 (.slice aa na ca)) (bY : Boxed W Y 22 (.slice ab nb cb)) :
    Calls Tryd.prog 44 #[.int .i64 r, .pointer (some ⟨X, 0, none⟩), .pointer (some ⟨Y, 0, none⟩)] W fun e w' => e = .returned (.bool (hasL a r || hasL b r)) ∧ Below W.heap.size W w' := by
  have CA := hide (fun Z (hZ : Below W.heap.size W Z) => Has_any n _ a r Z ((hLow.below hZ).spans hA) fa hla)
  have CB := hide (fun Z (hZ : Below W.heap.size W Z) => Has_any n _ b r Z ((hLow.below hZ).spans hB) fb hlb)
  clear hA hB fa fb hla hlb hLow
  have cX := bX.cell
  have cY := bY.cell
  generalize hasL a r = p at *
  generalize hasL b r = q at *
  go_enter Tryd.func44, Tryd.ntmps44
  go_wp2_with fail
  refine (CA.out _ (Below.refl _ _)).mono ?_
  rintro e w1 ⟨rfl, b1⟩
  have cY1 := (boxed_below bY b1).cell
  cases p
  · go_wp2_with fail
    refine (CB.out _ b1).mono ?_
    rintro e w2 ⟨rfl, b2⟩
    cases q
    · go_wp2_with fail
      go_ret
      exact ⟨rfl, b1.trans (b2.mono b1.size)⟩
    · go_wp2_with fail
      go_ret
      exact ⟨rfl, b1.trans (b2.mono b1.size)⟩
  · go_wp2_with fail
    go_ret
    exact ⟨rfl, b1⟩

set_option maxRecDepth 100000 in
theorem MeetK_any (n : Int) (aa ab : Option Addr) (na nb ca cb : Nat) (a b : List Sp) (w : World) (hA : Spans w (.slice aa na ca) a) (hB : Spans w (.slice ab nb cb) b) (fa : fitL n a = true) (fb : fitL n b = true) (hla : a.length ≤ 1000000000000) (hlb : b.length ≤ 1000000000000)
    (X Y : Nat) (r : Int) (W : World) (hLow : Low w W) (bX : Boxed W X 22 (.slice aa na ca)) (bY : Boxed W Y 22 (.slice ab nb cb)) :
    Calls Tryd.prog 46 #[.int .i64 r, .pointer (some ⟨X, 0, none⟩), .pointer (some ⟨Y, 0, none⟩)] W fun e w' => e = .returned (.bool (hasL a r && hasL b r)) ∧ Below W.heap.size W w' := by
  have CA := hide (fun Z (hZ : Below W.heap.size W Z) => Has_any n _ a r Z ((hLow.below hZ).spans hA) fa hla)
  have CB := hide (fun Z (hZ : Below W.heap.size W Z) => Has_any n _ b r Z ((hLow.below hZ).spans hB) fb hlb)
  clear hA hB fa fb hla hlb hLow
  have cX := bX.cell
  have cY := bY.cell
  generalize hasL a r = p at *
  generalize hasL b r = q at *
  go_enter Tryd.func46, Tryd.ntmps46
  go_wp2_with fail
  refine (CA.out _ (Below.refl _ _)).mono ?_
  rintro e w1 ⟨rfl, b1⟩
  have cY1 := (boxed_below bY b1).cell
  cases p
  · go_wp2_with fail
    go_ret
    exact ⟨rfl, b1⟩
  · go_wp2_with fail
    refine (CB.out _ b1).mono ?_
    rintro e w2 ⟨rfl, b2⟩
    cases q
    · go_wp2_with fail
      go_ret
      exact ⟨rfl, b1.trans (b2.mono b1.size)⟩
    · go_wp2_with fail
      go_ret
      exact ⟨rfl, b1.trans (b2.mono b1.size)⟩

set_option maxRecDepth 100000 in
theorem MinusK_any (n : Int) (aa ab : Option Addr) (na nb ca cb : Nat) (a b : List Sp) (w : World) (hA : Spans w (.slice aa na ca) a) (hB : Spans w (.slice ab nb cb) b) (fa : fitL n a = true) (fb : fitL n b = true) (hla : a.length ≤ 1000000000000) (hlb : b.length ≤ 1000000000000)
    (X Y : Nat) (r : Int) (W : World) (hLow : Low w W) (bX : Boxed W X 22 (.slice aa na ca)) (bY : Boxed W Y 22 (.slice ab nb cb)) :
    Calls Tryd.prog 47 #[.int .i64 r, .pointer (some ⟨X, 0, none⟩), .pointer (some ⟨Y, 0, none⟩)] W fun e w' => e = .returned (.bool (hasL a r && !hasL b r)) ∧ Below W.heap.size W w' := by
  have CA := hide (fun Z (hZ : Below W.heap.size W Z) => Has_any n _ a r Z ((hLow.below hZ).spans hA) fa hla)
  have CB := hide (fun Z (hZ : Below W.heap.size W Z) => Has_any n _ b r Z ((hLow.below hZ).spans hB) fb hlb)
  clear hA hB fa fb hla hlb hLow
  have cX := bX.cell
  have cY := bY.cell
  generalize hasL a r = p at *
  generalize hasL b r = q at *
  go_enter Tryd.func47, Tryd.ntmps47
  go_wp2_with fail
  refine (CA.out _ (Below.refl _ _)).mono ?_
  rintro e w1 ⟨rfl, b1⟩
  have cY1 := (boxed_below bY b1).cell
  cases p
  · go_wp2_with fail
    go_ret
    exact ⟨rfl, b1⟩
  · go_wp2_with fail
    refine (CB.out _ b1).mono ?_
    rintro e w2 ⟨rfl, b2⟩
    cases q
    · go_wp2_with fail
      go_ret
      exact ⟨rfl, b1.trans (b2.mono b1.size)⟩
    · go_wp2_with fail
      go_ret
      exact ⟨rfl, b1.trans (b2.mono b1.size)⟩

end Go.Proofs.YtmpegkcleajhhaaDoor
