/-
  Walks: whether a token is one, at any token; two rows of tokens compared.
-/
import Derived.Test.YtobcoppbphfcaaaDoorDs
import Derived.Test.YtobcoppbphfcaaaDoorLc
import Derived.Test.YtobcoppbphfcaaaDoorDu
namespace Go.Proofs.YtobcoppbphfcaaaDoor
open Go.RowKit Go.Shelf
set_option linter.unusedVariables false

set_option maxRecDepth 100000 in
set_option maxHeartbeats 1000000 in
theorem token_gen (s : ByteArray) (turns : Bool) (w : World) (hs : s.size ≤ maxLen) :
    Calls Tryd.prog 51 #[.string s, .bool turns] w fun e w' => e = .returned (tokV (tokL false s.data.toList turns)) ∧ Below w.heap.size w w' := by
  have eR := World.alloc_heap_new w (.cells #[.bool false, .bool false, .string ⟨#[]⟩] 48)
  have b0 : Below w.heap.size w (w.alloc (.cells #[.bool false, .bool false, .string ⟨#[]⟩] 48)) := (Below.refl _ w).alloc (Nat.le_refl _) _
  by_cases h0 : 0 < s.size
  · have hne := eqE s h0
    have hne' : s.toList.isEmpty = false := by rw [toL]; exact emp s h0
    have HN : Hid (numB s.data.toList = isC (s[0].toNat : Int) 1) := by
      show _ = _
      have := drop_at s 0 h0
      rw [List.drop_zero] at this
      rw [this]; rfl
    cases h1 : isC (s[0].toNat : Int) 1
    · have HV : Hid (tokV (tokL false s.data.toList turns) = .agg #[.bool false, .bool false, .string (ofL (qualL (s.data.toList.map lowC) turns))]) := by
        show _ = _
        unfold tokL tokV
        rw [HN.out, h1]; rfl
      have CL := hide (fun w => Lower_any s w hs)
      have CQ := fun w => qualifier_any (ofL (s.data.toList.map lowC)) turns w
      rw [ofL_data] at CQ
      have CQ := hide CQ
      generalize tokV (tokL false s.data.toList turns) = TV at *
      generalize ofL (qualL (s.data.toList.map lowC) turns) = Q at *
      generalize ofL (s.data.toList.map lowC) = L at *
      go_enter Tryd.func51, Tryd.ntmps51
      go_wp2_with fail
      refine (Is_any _ _ _).mono ?_
      rintro e w' ⟨rfl, hw'⟩
      rw [hw']; clear hw' w'
      go_wp2_with fail
      refine (CL.out _).mono ?_
      rintro e w1 ⟨rfl, b1⟩
      have eR1 := (b1.block w.heap.size (by simp)).trans eR
      have bw := b0.trans (b1.mono (by simp))
      clear b1
      go_wp2_with fail
      refine (CQ.out _).mono ?_
      rintro e w' ⟨rfl, hw'⟩
      rw [hw']; clear hw' w'
      have z0 := one_free 0 eR1
      have z1 := one_free 1 eR1
      have z2 := one_free 2 eR1
      have r0 := cell_at 0 eR1 rfl
      have r1 := cell_at 1 eR1 rfl
      have r2 := cell_at 2 eR1 rfl
      go_wp2_with fail
      exact fin51 _ _ w.heap.size _ _ _ rfl (three_lies _ _ _ eR1) ⟨by rw [HV.out], bw.trans (three_below _ (Nat.le_refl _) _ _ _)⟩
    · have HV : Hid (tokV (tokL false s.data.toList turns) = .agg #[.bool false, .bool true, .string (ofL (trimL s.data.toList))]) := by
        show _ = _
        unfold tokL tokV
        rw [HN.out, h1]; rfl
      have CT := hide (fun w => Trim_any s w hs)
      generalize tokV (tokL false s.data.toList turns) = TV at *
      generalize ofL (trimL s.data.toList) = L at *
      go_enter Tryd.func51, Tryd.ntmps51
      go_wp2_with fail
      refine (Is_any _ _ _).mono ?_
      rintro e w' ⟨rfl, hw'⟩
      rw [hw']; clear hw' w'
      go_wp2_with fail
      refine (CT.out _).mono ?_
      rintro e w' ⟨rfl, hw'⟩
      rw [hw']; clear hw' w'
      go_wp2_with fail
      exact fin51 _ _ w.heap.size _ _ _ rfl (World.alloc_heap_new w _) ⟨by rw [HV.out], (Below.refl _ w).alloc (Nat.le_refl _) _⟩
  · obtain rfl := size0 s h0
    have CT := hide (fun w => Trim_any ⟨#[]⟩ w (by unfold maxLen; simp [ByteArray.size]))
    have HV : Hid (tokV (tokL false (⟨#[]⟩ : ByteArray).data.toList turns) = .agg #[.bool false, .bool true, .string (ofL (trimL (⟨#[]⟩ : ByteArray).data.toList))]) := rfl
    generalize tokV (tokL false (⟨#[]⟩ : ByteArray).data.toList turns) = TV at *
    generalize ofL (trimL (⟨#[]⟩ : ByteArray).data.toList) = L at *
    clear h0 hs
    go_enter Tryd.func51, Tryd.ntmps51
    go_wp2_with fail
    refine (CT.out _).mono ?_
    rintro e w' ⟨rfl, hw'⟩
    rw [hw']; clear hw' w'
    go_wp2_with fail
    exact fin51 _ _ w.heap.size _ _ _ rfl (World.alloc_heap_new w _) ⟨by rw [HV.out], (Below.refl _ w).alloc (Nat.le_refl _) _⟩


/-- Is a token as its text would be read again? -/
def isTokB (t : Tok) : Bool := (!t.num && (t.text == [])) || ((((tkN t.text : Int) == (t.text.length : Int)) && ((tokL false t.text false).num == t.num)) && ((tokL false t.text false).text == t.text))

set_option maxRecDepth 100000 in
set_option maxHeartbeats 4000000 in
theorem isToken_any (t : Tok) (w : World) (hl : t.text.length ≤ 1048576) :
    Calls Tryd.prog 36 #[tokV t] w fun e w' => e = .returned (.bool (isTokB t)) ∧ Below w.heap.size w w' := by
  obtain ⟨d, n, x⟩ := t
  unfold tokV
  dsimp only at hl ⊢
  by_cases h0 : n = false ∧ x = []
  · obtain ⟨rfl, rfl⟩ := h0
    have hem : (ofL []).toList.isEmpty = true := by rw [toL, ofL_data]; rfl
    go_enter Tryd.func36, Tryd.ntmps36
    go_wp2_with fail
    go_ret
    exact ⟨rfl, (Below.refl _ w).alloc (Nat.le_refl _) _⟩
  · have CT := fun w => token_gen (ofL x) false w (by rw [ofL_size]; unfold maxLen; omega)
    have HV : Hid (isTokB ⟨d, n, x⟩ = ((((tkN x : Int) == ((ofL x).size : Int)) && ((tokL false x false).num == n)) && ((ofL (tokL false x false).text).toList == (ofL x).toList))) := by
      show _ = _
      unfold isTokB
      have : (!n && (x == [])) = false := by
        cases n
        · cases x with
          | nil => exact absurd ⟨rfl, rfl⟩ h0
          | cons c r => rfl
        · rfl
      dsimp only
      rw [this, ofL_size, toL, toL, ofL_data, ofL_data, Bool.false_or]
    rw [ofL_data] at CT
    unfold tokV at CT
    have CT := hide CT
    have CE : ∀ w, Calls Tryd.prog 50 #[.string (ofL x), .int .i64 0] w fun e w' => e = .returned (.int .i64 (tkN x : Int)) ∧ w' = w := fun w => by
      have h := tokenEnd_any (ofL x) 0 w (by rw [ofL_size]; unfold maxLen; omega) (Nat.zero_le _)
      rw [ofL_data, List.drop_zero, Nat.zero_add] at h
      exact h
    have CE := hide CE
    have hem : n = false → (ofL x).toList.isEmpty = false := fun hn => by
      rw [toL, ofL_data]; cases x with
      | nil => exact absurd ⟨hn, rfl⟩ h0
      | cons c r => rfl
    clear h0
    generalize isTokB ⟨d, n, x⟩ = R at *
    generalize tokL false x false = Q at *
    obtain ⟨rd, rn, rx⟩ := Q
    dsimp only at CT HV
    generalize tkN x = K at *
    have fin : ∀ (w1 : World), Below (w.alloc (.cells #[.bool d, .bool n, .string (ofL x)] 48)).heap.size (w.alloc (.cells #[.bool d, .bool n, .string (ofL x)] 48)) w1 →
        ((w1.alloc (.cells #[.bool rd, .bool rn, .string (ofL rx)] 48)).heap[w.heap.size]? = some (.cells #[.bool d, .bool n, .string (ofL x)] 48 (0, 0)) ∧ (w1.alloc (.cells #[.bool rd, .bool rn, .string (ofL rx)] 48)).heap[w1.heap.size]? = some (.cells #[.bool rd, .bool rn, .string (ofL rx)] 48 (0, 0)) ∧ Below w.heap.size w (w1.alloc (.cells #[.bool rd, .bool rn, .string (ofL rx)] 48))) := fun w1 b1 => by
      have s1 := b1.size
      simp only [World.size_alloc] at s1
      refine ⟨(Below.heap_alloc _ _ _ (by omega)).trans ((b1.block _ (by simp)).trans (World.alloc_heap_new w _)), World.alloc_heap_new w1 _, ?_⟩
      have b0 : Below w.heap.size w (w.alloc (.cells #[.bool d, .bool n, .string (ofL x)] 48)) := (Below.refl _ w).alloc (Nat.le_refl _) _
      exact (b0.trans (b1.mono b0.size)).alloc (by omega) _
    have FIN := hide fin
    clear fin hl
    cases n
    · have hem := hem rfl
      cases hE : ((K : Int) == ((ofL x).size : Int))
      · cases rn
        · skip
          go_enter Tryd.func36, Tryd.ntmps36
          go_wp2_with fail
          refine (CT.out _).mono ?_
          rintro e w1 ⟨rfl, b1⟩
          obtain ⟨e1, e2, b2⟩ := FIN.out w1 b1
          have l1 := (Array.getElem?_eq_some_iff.1 e1).1
          have c0 := cell_at 0 e1 rfl
          have c1 := cell_at 1 e1 rfl
          have c2 := cell_at 2 e1 rfl
          have d0 := cell_at 0 e2 rfl
          have d1 := cell_at 1 e2 rfl
          have d2 := cell_at 2 e2 rfl
          have cW : w1.cell? ⟨w.heap.size, 2, none⟩ = some (.string (ofL x)) := cell_at 2 ((b1.block _ (by simp)).trans (World.alloc_heap_new w _)) rfl
          go_wp2_with fail
          clear cW b1
          generalize w1.alloc (.cells #[.bool rd, .bool false, .string (ofL rx)] 48) = W2 at *
          go_quiet (first | (go_at_call 50; exact Calls.quiet_of_same (CE.out _)) | fail)
          go_wp2_with fail
          go_ret
          exact ⟨by rw [HV.out]; simp only [hE, Bool.false_and]; rfl, b2.trans (below_drewN _ _ _)⟩
        · skip
          go_enter Tryd.func36, Tryd.ntmps36
          go_wp2_with fail
          refine (CT.out _).mono ?_
          rintro e w1 ⟨rfl, b1⟩
          obtain ⟨e1, e2, b2⟩ := FIN.out w1 b1
          have l1 := (Array.getElem?_eq_some_iff.1 e1).1
          have c0 := cell_at 0 e1 rfl
          have c1 := cell_at 1 e1 rfl
          have c2 := cell_at 2 e1 rfl
          have d0 := cell_at 0 e2 rfl
          have d1 := cell_at 1 e2 rfl
          have d2 := cell_at 2 e2 rfl
          have cW : w1.cell? ⟨w.heap.size, 2, none⟩ = some (.string (ofL x)) := cell_at 2 ((b1.block _ (by simp)).trans (World.alloc_heap_new w _)) rfl
          go_wp2_with fail
          clear cW b1
          generalize w1.alloc (.cells #[.bool rd, .bool true, .string (ofL rx)] 48) = W2 at *
          go_quiet (first | (go_at_call 50; exact Calls.quiet_of_same (CE.out _)) | fail)
          go_wp2_with fail
          go_ret
          exact ⟨by rw [HV.out]; simp only [hE, Bool.false_and]; rfl, b2.trans (below_drewN _ _ _)⟩
      · cases rn
        · cases hT : ((ofL rx).toList == (ofL x).toList)
          · skip
            go_enter Tryd.func36, Tryd.ntmps36
            go_wp2_with fail
            refine (CT.out _).mono ?_
            rintro e w1 ⟨rfl, b1⟩
            obtain ⟨e1, e2, b2⟩ := FIN.out w1 b1
            have l1 := (Array.getElem?_eq_some_iff.1 e1).1
            have c0 := cell_at 0 e1 rfl
            have c1 := cell_at 1 e1 rfl
            have c2 := cell_at 2 e1 rfl
            have d0 := cell_at 0 e2 rfl
            have d1 := cell_at 1 e2 rfl
            have d2 := cell_at 2 e2 rfl
            have cW : w1.cell? ⟨w.heap.size, 2, none⟩ = some (.string (ofL x)) := cell_at 2 ((b1.block _ (by simp)).trans (World.alloc_heap_new w _)) rfl
            go_wp2_with fail
            clear cW b1
            generalize w1.alloc (.cells #[.bool rd, .bool false, .string (ofL rx)] 48) = W2 at *
            go_quiet (first | (go_at_call 50; exact Calls.quiet_of_same (CE.out _)) | fail)
            go_wp2_with fail
            go_ret
            exact ⟨by rw [HV.out]; simp only [hE, hT, Bool.true_and]; rfl, b2.trans (below_drewN _ _ _)⟩
          · skip
            go_enter Tryd.func36, Tryd.ntmps36
            go_wp2_with fail
            refine (CT.out _).mono ?_
            rintro e w1 ⟨rfl, b1⟩
            obtain ⟨e1, e2, b2⟩ := FIN.out w1 b1
            have l1 := (Array.getElem?_eq_some_iff.1 e1).1
            have c0 := cell_at 0 e1 rfl
            have c1 := cell_at 1 e1 rfl
            have c2 := cell_at 2 e1 rfl
            have d0 := cell_at 0 e2 rfl
            have d1 := cell_at 1 e2 rfl
            have d2 := cell_at 2 e2 rfl
            have cW : w1.cell? ⟨w.heap.size, 2, none⟩ = some (.string (ofL x)) := cell_at 2 ((b1.block _ (by simp)).trans (World.alloc_heap_new w _)) rfl
            go_wp2_with fail
            clear cW b1
            generalize w1.alloc (.cells #[.bool rd, .bool false, .string (ofL rx)] 48) = W2 at *
            go_quiet (first | (go_at_call 50; exact Calls.quiet_of_same (CE.out _)) | fail)
            go_wp2_with fail
            go_ret
            exact ⟨by rw [HV.out]; simp only [hE, hT, Bool.true_and]; rfl, b2.trans (below_drewN _ _ _)⟩
        · skip
          go_enter Tryd.func36, Tryd.ntmps36
          go_wp2_with fail
          refine (CT.out _).mono ?_
          rintro e w1 ⟨rfl, b1⟩
          obtain ⟨e1, e2, b2⟩ := FIN.out w1 b1
          have l1 := (Array.getElem?_eq_some_iff.1 e1).1
          have c0 := cell_at 0 e1 rfl
          have c1 := cell_at 1 e1 rfl
          have c2 := cell_at 2 e1 rfl
          have d0 := cell_at 0 e2 rfl
          have d1 := cell_at 1 e2 rfl
          have d2 := cell_at 2 e2 rfl
          have cW : w1.cell? ⟨w.heap.size, 2, none⟩ = some (.string (ofL x)) := cell_at 2 ((b1.block _ (by simp)).trans (World.alloc_heap_new w _)) rfl
          go_wp2_with fail
          clear cW b1
          generalize w1.alloc (.cells #[.bool rd, .bool true, .string (ofL rx)] 48) = W2 at *
          go_quiet (first | (go_at_call 50; exact Calls.quiet_of_same (CE.out _)) | fail)
          go_wp2_with fail
          go_ret
          exact ⟨by rw [HV.out]; simp only [hE, Bool.true_and]; rfl, b2.trans (below_drewN _ _ _)⟩
    · clear hem
      cases hE : ((K : Int) == ((ofL x).size : Int))
      · cases rn
        · skip
          go_enter Tryd.func36, Tryd.ntmps36
          go_wp2_with fail
          refine (CT.out _).mono ?_
          rintro e w1 ⟨rfl, b1⟩
          obtain ⟨e1, e2, b2⟩ := FIN.out w1 b1
          have l1 := (Array.getElem?_eq_some_iff.1 e1).1
          have c0 := cell_at 0 e1 rfl
          have c1 := cell_at 1 e1 rfl
          have c2 := cell_at 2 e1 rfl
          have d0 := cell_at 0 e2 rfl
          have d1 := cell_at 1 e2 rfl
          have d2 := cell_at 2 e2 rfl
          have cW : w1.cell? ⟨w.heap.size, 2, none⟩ = some (.string (ofL x)) := cell_at 2 ((b1.block _ (by simp)).trans (World.alloc_heap_new w _)) rfl
          go_wp2_with fail
          clear cW b1
          generalize w1.alloc (.cells #[.bool rd, .bool false, .string (ofL rx)] 48) = W2 at *
          go_quiet (first | (go_at_call 50; exact Calls.quiet_of_same (CE.out _)) | fail)
          go_wp2_with fail
          go_ret
          exact ⟨by rw [HV.out]; simp only [hE, Bool.false_and]; rfl, b2.trans (below_drewN _ _ _)⟩
        · skip
          go_enter Tryd.func36, Tryd.ntmps36
          go_wp2_with fail
          refine (CT.out _).mono ?_
          rintro e w1 ⟨rfl, b1⟩
          obtain ⟨e1, e2, b2⟩ := FIN.out w1 b1
          have l1 := (Array.getElem?_eq_some_iff.1 e1).1
          have c0 := cell_at 0 e1 rfl
          have c1 := cell_at 1 e1 rfl
          have c2 := cell_at 2 e1 rfl
          have d0 := cell_at 0 e2 rfl
          have d1 := cell_at 1 e2 rfl
          have d2 := cell_at 2 e2 rfl
          have cW : w1.cell? ⟨w.heap.size, 2, none⟩ = some (.string (ofL x)) := cell_at 2 ((b1.block _ (by simp)).trans (World.alloc_heap_new w _)) rfl
          go_wp2_with fail
          clear cW b1
          generalize w1.alloc (.cells #[.bool rd, .bool true, .string (ofL rx)] 48) = W2 at *
          go_quiet (first | (go_at_call 50; exact Calls.quiet_of_same (CE.out _)) | fail)
          go_wp2_with fail
          go_ret
          exact ⟨by rw [HV.out]; simp only [hE, Bool.false_and]; rfl, b2.trans (below_drewN _ _ _)⟩
      · cases rn
        · skip
          go_enter Tryd.func36, Tryd.ntmps36
          go_wp2_with fail
          refine (CT.out _).mono ?_
          rintro e w1 ⟨rfl, b1⟩
          obtain ⟨e1, e2, b2⟩ := FIN.out w1 b1
          have l1 := (Array.getElem?_eq_some_iff.1 e1).1
          have c0 := cell_at 0 e1 rfl
          have c1 := cell_at 1 e1 rfl
          have c2 := cell_at 2 e1 rfl
          have d0 := cell_at 0 e2 rfl
          have d1 := cell_at 1 e2 rfl
          have d2 := cell_at 2 e2 rfl
          have cW : w1.cell? ⟨w.heap.size, 2, none⟩ = some (.string (ofL x)) := cell_at 2 ((b1.block _ (by simp)).trans (World.alloc_heap_new w _)) rfl
          go_wp2_with fail
          clear cW b1
          generalize w1.alloc (.cells #[.bool rd, .bool false, .string (ofL rx)] 48) = W2 at *
          go_quiet (first | (go_at_call 50; exact Calls.quiet_of_same (CE.out _)) | fail)
          go_wp2_with fail
          go_ret
          exact ⟨by rw [HV.out]; simp only [hE, Bool.true_and]; rfl, b2.trans (below_drewN _ _ _)⟩
        · cases hT : ((ofL rx).toList == (ofL x).toList)
          · skip
            go_enter Tryd.func36, Tryd.ntmps36
            go_wp2_with fail
            refine (CT.out _).mono ?_
            rintro e w1 ⟨rfl, b1⟩
            obtain ⟨e1, e2, b2⟩ := FIN.out w1 b1
            have l1 := (Array.getElem?_eq_some_iff.1 e1).1
            have c0 := cell_at 0 e1 rfl
            have c1 := cell_at 1 e1 rfl
            have c2 := cell_at 2 e1 rfl
            have d0 := cell_at 0 e2 rfl
            have d1 := cell_at 1 e2 rfl
            have d2 := cell_at 2 e2 rfl
            have cW : w1.cell? ⟨w.heap.size, 2, none⟩ = some (.string (ofL x)) := cell_at 2 ((b1.block _ (by simp)).trans (World.alloc_heap_new w _)) rfl
            go_wp2_with fail
            clear cW b1
            generalize w1.alloc (.cells #[.bool rd, .bool true, .string (ofL rx)] 48) = W2 at *
            go_quiet (first | (go_at_call 50; exact Calls.quiet_of_same (CE.out _)) | fail)
            go_wp2_with fail
            go_ret
            exact ⟨by rw [HV.out]; simp only [hE, hT, Bool.true_and]; rfl, b2.trans (below_drewN _ _ _)⟩
          · skip
            go_enter Tryd.func36, Tryd.ntmps36
            go_wp2_with fail
            refine (CT.out _).mono ?_
            rintro e w1 ⟨rfl, b1⟩
            obtain ⟨e1, e2, b2⟩ := FIN.out w1 b1
            have l1 := (Array.getElem?_eq_some_iff.1 e1).1
            have c0 := cell_at 0 e1 rfl
            have c1 := cell_at 1 e1 rfl
            have c2 := cell_at 2 e1 rfl
            have d0 := cell_at 0 e2 rfl
            have d1 := cell_at 1 e2 rfl
            have d2 := cell_at 2 e2 rfl
            have cW : w1.cell? ⟨w.heap.size, 2, none⟩ = some (.string (ofL x)) := cell_at 2 ((b1.block _ (by simp)).trans (World.alloc_heap_new w _)) rfl
            go_wp2_with fail
            clear cW b1
            generalize w1.alloc (.cells #[.bool rd, .bool true, .string (ofL rx)] 48) = W2 at *
            go_quiet (first | (go_at_call 50; exact Calls.quiet_of_same (CE.out _)) | fail)
            go_wp2_with fail
            go_ret
            exact ⟨by rw [HV.out]; simp only [hE, hT, Bool.true_and]; rfl, b2.trans (below_drewN _ _ _)⟩

end Go.Proofs.YtobcoppbphfcaaaDoor

/-
  Walks: two rows of tokens compared; whether tokens are a version's; their order.
-/
namespace Go.Proofs.YtobcoppbphfcaaaDoor
open Go.RowKit Go.Shelf
set_option linter.unusedVariables false

theorem toks_at {W : World} {a : Option Addr} {n cap : Nat} {ts : List Tok} (h : Toks W (.slice a n cap) ts) (hne : 0 < ts.length) : ∃ b off, a = some ⟨b, off, none⟩ ∧ b < W.heap.size ∧ TRow W b off ts := by
  obtain ⟨a', cap', hv, h0 | ⟨b, off, ha, hlt, hc⟩⟩ := h
  · subst h0; simp at hne
  · cases hv
    exact ⟨b, off, ha, hlt, hc⟩
theorem toks_n {W : World} {a : Option Addr} {n cap : Nat} {ts : List Tok} (h : Toks W (.slice a n cap) ts) : ts.length = n := by
  obtain ⟨a', cap', hv, _⟩ := h
  cases hv; rfl

set_option maxRecDepth 100000 in
set_option maxHeartbeats 4000000 in
theorem Equal_any (a1 a2 : Option Addr) (n1 n2 c1 c2 : Nat) (ts1 ts2 : List Tok) (hn : n1 ≤ 1048577) (w : World) (hT1 : Toks w (.slice a1 n1 c1) ts1) (hT2 : Toks w (.slice a2 n2 c2) ts2) :
    Calls Tryd.prog 37 #[.slice a1 n1 c1, .slice a2 n2 c2] w fun e w' => e = .returned (.bool (decide (ts1 = ts2))) ∧ Below w.heap.size w w' := by
  have HL1 := hide (toks_n hT1)
  have HL2 := hide (toks_n hT2)
  have HT1 := hide hT1
  have HT2 := hide hT2
  clear hT1 hT2
  by_cases hne : n1 = n2
  · subst hne
    have hb : ((n1 : Int) != (n1 : Int)) = false := by simp
    go_enter Tryd.func37, Tryd.ntmps37
    go_wp2_with fail
    go_loopw [13] (fun x wr => ∃ i : Nat, i ≤ n1 ∧ x = .int .i64 i ∧ Below w.heap.size w wr ∧ Hid (ts1.take i = ts2.take i)) (fun x _ => n1 - (intOf x).toNat)
    case atStart => exact ⟨0, by omega, rfl, Below.refl _ _, rfl⟩
    case round =>
      obtain ⟨i, hi, rfl, hB, hE⟩ := hrel
      by_cases hlt : i < n1
      · have hlt' : (i : Int) < (n1 : Int) := by omega
        have i1 : i < ts1.length := by rw [HL1.out]; exact hlt
        have i2 : i < ts2.length := by rw [HL2.out]; exact hlt
        obtain ⟨b1, o1, rfl, q1, d1⟩ := toks_at (HT1.out.below hB) (by omega)
        obtain ⟨b2, o2, rfl, q2, d2⟩ := toks_at (HT2.out.below hB) (by omega)
        obtain ⟨e0, e1, e2⟩ := d1 i i1
        obtain ⟨f0, f1, f2⟩ := d2 i i2
        clear d1 d2
        by_cases hst : ts1[i] = ts2[i]
        · rw [hst] at e0 e1 e2
          have HE : Hid (ts1.take (i + 1) = ts2.take (i + 1)) := by
            show _ = _
            rw [List.take_succ_eq_append_getElem i1, List.take_succ_eq_append_getElem i2, hE.out, hst]
          generalize ts2[i] = x at *
          clear hst i1 i2
          go_wp2_with fail
          go_quiet (fail)
          go_wp2_with fail
          go_roundw
          case rel => exact ⟨i + 1, by omega, by go_num, hB.trans (below_drewN _ _ _), HE⟩
          case measure => simp [intOf]; omega
        · have HN : Hid (¬ ts1 = ts2) := fun e => hst (by subst e; rfl)
          generalize ts1[i] = x at *
          generalize ts2[i] = y at *
          obtain ⟨xd, xn, xt⟩ := x
          obtain ⟨yd, yn, yt⟩ := y
          dsimp only at e0 e1 e2 f0 f1 f2
          clear i1 i2
          by_cases hd : xd = yd
          · subst hd
            by_cases hm : xn = yn
            · subst hm
              have hx : ((ofL xt).toList == (ofL yt).toList) = false := by simp only [beq_eq_false_iff_ne, ne_eq]; intro e; rw [toL, toL, ofL_data, ofL_data] at e; exact hst (by rw [e])
              clear hst
              go_wp2_with fail
              go_quiet (fail)
              go_wp2_with fail
              go_ret
              exact ⟨by rw [decide_eq_false HN.out]; rfl, hB.trans (below_drewN _ _ _)⟩
            · clear hst
              cases xn <;> cases yn
              · exact absurd rfl hm
              · clear hm
                go_wp2_with fail
                go_quiet (fail)
                go_wp2_with fail
                go_ret
                exact ⟨by rw [decide_eq_false HN.out]; rfl, hB.trans (below_drewN _ _ _)⟩
              · clear hm
                go_wp2_with fail
                go_quiet (fail)
                go_wp2_with fail
                go_ret
                exact ⟨by rw [decide_eq_false HN.out]; rfl, hB.trans (below_drewN _ _ _)⟩
              · exact absurd rfl hm
          · clear hst
            cases xd <;> cases yd
            · exact absurd rfl hd
            · clear hd
              go_wp2_with fail
              go_quiet (fail)
              go_wp2_with fail
              go_ret
              exact ⟨by rw [decide_eq_false HN.out]; rfl, hB.trans (below_drewN _ _ _)⟩
            · clear hd
              go_wp2_with fail
              go_quiet (fail)
              go_wp2_with fail
              go_ret
              exact ⟨by rw [decide_eq_false HN.out]; rfl, hB.trans (below_drewN _ _ _)⟩
            · exact absurd rfl hd
      · have hlt' : ¬ (i : Int) < (n1 : Int) := by omega
        have HY : Hid (ts1 = ts2) := by
          have h := hE.out
          rw [List.take_of_length_le (by rw [HL1.out]; omega), List.take_of_length_le (by rw [HL2.out]; omega)] at h
          exact h
        go_wp2_with fail
        go_ret
        exact ⟨by rw [decide_eq_true HY.out]; rfl, hB⟩
  · have hb : ((n1 : Int) != (n2 : Int)) = true := by simp; omega
    have HN : Hid (¬ ts1 = ts2) := fun e => hne (by rw [← HL1.out, ← HL2.out, e])
    clear hne
    go_enter Tryd.func37, Tryd.ntmps37
    go_wp2_with fail
    go_ret
    exact ⟨by rw [decide_eq_false HN.out]; rfl, Below.refl _ _⟩

/-- Are tokens a version's? -/
def fitB (ts : List Tok) : Bool := ts.all isTokB && decide (trimT ts = ts)

set_option maxRecDepth 100000 in
set_option maxHeartbeats 2000000 in
theorem Fit_any (a : Option Addr) (n cap : Nat) (ts : List Tok) (w : World) (h0 : 0 < w.heap.size) (hT : Toks w (.slice a n cap) ts) (hl : n ≤ 1048576) (hf : ∀ t ∈ ts, t.text.length ≤ 1048576) :
    Calls Tryd.prog 18 #[.slice a n cap] w fun e w' => e = .returned (.bool (fitB ts)) ∧ Below w.heap.size w w' := by
  have HL := hide (toks_n hT)
  have HT := hide hT
  have HF := hide hf
  clear hf hT
  go_enter Tryd.func18, Tryd.ntmps18
  go_wp2_with fail
  go_loopw [7] (fun i wr => ∃ k : Nat, k ≤ n ∧ i = .int .i64 k ∧ Below w.heap.size w wr ∧ Hid ((ts.take k).all isTokB = true)) (fun i _ => n - (intOf i).toNat)
  case atStart => exact ⟨0, by omega, rfl, Below.refl _ _, rfl⟩
  case round =>
    obtain ⟨k, hk, rfl, hBw, HA⟩ := hrel
    by_cases hlt : k < n
    · have hlt' : (k : Int) < (n : Int) := by omega
      have hkt : k < ts.length := by rw [HL.out]; exact hlt
      obtain ⟨b, off, rfl, hlb, hc⟩ := toks_at HT.out (by omega)
      obtain ⟨c0, c1, c2⟩ := (hc.of_block (hBw.block b hlb)) k hkt
      have IT := fun w => isToken_any ts[k] w (HF.out _ (List.getElem_mem hkt))
      unfold tokV at IT
      have IT := hide IT
      have hsz := hBw.size
      have hbne : b ≠ wr.heap.size := by omega
      have HS : Hid ((ts.take (k + 1)).all isTokB = isTokB ts[k]) := by
        show _ = _
        rw [List.take_succ_eq_append_getElem hkt, List.all_append, HA.out]
        simp
      have HN : Hid (isTokB ts[k] = false → ts.all isTokB = false) := fun h => by
        rw [List.all_eq_false]
        exact ⟨_, List.getElem_mem hkt, by rw [h]; simp⟩
      clear hc
      generalize ts[k] = t at *
      clear hkt
      generalize isTokB t = r at *
      have bA : Below wr.heap.size wr (wr.alloc (.cells #[.bool t.dash, .bool t.num, .string (ofL t.text)] 48)) := (Below.refl _ wr).alloc (Nat.le_refl _) _
      cases r
      · go_wp2_with fail
        refine (IT.out _).mono ?_
        rintro e w2 ⟨rfl, b2⟩
        have hB2 := hBw.trans ((bA.trans (b2.mono bA.size)).mono hsz)
        go_wp2_with fail
        go_ret
        exact ⟨by unfold fitB; rw [HN.out (by simp)]; rfl, hB2⟩
      · go_wp2_with fail
        refine (IT.out _).mono ?_
        rintro e w2 ⟨rfl, b2⟩
        have hB2 := hBw.trans ((bA.trans (b2.mono bA.size)).mono hsz)
        go_wp2_with fail
        go_roundw
        case rel => exact ⟨k + 1, by omega, by go_num, hB2, HS⟩
        case measure => simp [intOf]; omega
    · have hlt' : ¬ (k : Int) < (n : Int) := by omega
      have hTw := HT.out.below hBw
      have HV : Hid (fitB ts = decide (trimT ts = ts)) := by
        have h := HA.out
        rw [List.take_of_length_le (by rw [HL.out]; omega)] at h
        show _ = _
        unfold fitB
        rw [h, Bool.true_and]
      have htl : (trimT ts).length ≤ 1048577 := by
        have h1 := head_len (trimR ts)
        have h2 := trimR_len ts
        have h3 := HL.out
        unfold trimT
        omega
      have CT := hide (trimmed_any _ ts wr hTw (by rw [HL.out]; omega) (Nat.lt_of_lt_of_le h0 hBw.size))

      go_wp2_with fail
      refine CT.out.mono ?_
      rintro e w4 ⟨v4, rfl, ht4, b4⟩
      have HT4 := hide ht4.toks
      obtain ⟨g4, cap4, sp4, rfl, _⟩ := ht4
      have EQ := hide (Equal_any _ _ _ _ _ _ _ ts htl w4 HT4.out (hTw.below b4))
      go_wp2_with fail
      refine EQ.out.mono ?_
      rintro e w5 ⟨rfl, b5⟩
      go_wp2_with fail
      go_ret
      exact ⟨ret_b HV.out.symm, hBw.trans ((b4.trans (b5.mono b4.size)).mono hBw.size)⟩

/-- The order of tokens, nought where one of the rows is no version's. -/
def ordF (xs ys : List Tok) : Int := if fitB xs && fitB ys then ordL xs ys else 0

set_option maxRecDepth 100000 in
set_option maxHeartbeats 2000000 in
theorem Order_any (a1 a2 : Option Addr) (n1 n2 c1 c2 : Nat) (xs ys : List Tok) (w : World) (hk : Kn w) (hX : Toks w (.slice a1 n1 c1) xs) (hY : Toks w (.slice a2 n2 c2) ys) (h1 : n1 ≤ 1048576) (h2 : n2 ≤ 1048576) (f1 : ∀ t ∈ xs, t.text.length ≤ 1048576) (f2 : ∀ t ∈ ys, t.text.length ≤ 1048576) :
    Calls Tryd.prog 20 #[.slice a1 n1 c1, .slice a2 n2 c2] w fun e w' => e = .returned (.int .i64 (ordF xs ys)) ∧ Below w.heap.size w w' := by
  have FX := hide (fun w h0 hT => Fit_any a1 n1 c1 xs w h0 hT h1 f1)
  have FY := hide (fun w h0 hT => Fit_any a2 n2 c2 ys w h0 hT h2 f2)
  have sx : ShT xs := ⟨by rw [toks_n hX]; omega, fun t ht => by have := f1 t ht; omega⟩
  have sy : ShT ys := ⟨by rw [toks_n hY]; omega, fun t ht => by have := f2 t ht; omega⟩
  have OO := hide (fun w hk hX hY => order_any (.slice a1 n1 c1) (.slice a2 n2 c2) xs ys w hk hX hY sx sy)
  have HX := hide hX
  have HY := hide hY
  have HK := hide hk
  have HV : Hid (ordF xs ys = if fitB xs && fitB ys then ordL xs ys else 0) := rfl
  clear hX hY f1 f2 sx sy
  have hp := hk.pos
  clear hk
  generalize ordF xs ys = R at *
  generalize fitB xs = p at *
  generalize fitB ys = q at *
  generalize ordL xs ys = r at *
  cases p
  · go_enter Tryd.func20, Tryd.ntmps20
    go_wp2_with fail
    refine (FX.out _ hp HX.out).mono ?_
    rintro e w1 ⟨rfl, b1⟩
    go_wp2_with fail
    go_ret
    exact ⟨ret_i HV.out.symm, b1⟩
  · cases q
    · go_enter Tryd.func20, Tryd.ntmps20
      go_wp2_with fail
      refine (FX.out _ hp HX.out).mono ?_
      rintro e w1 ⟨rfl, b1⟩
      go_wp2_with fail
      refine (FY.out _ (HK.out.below hp b1).pos (HY.out.below b1)).mono ?_
      rintro e w2 ⟨rfl, b2⟩
      go_wp2_with fail
      go_ret
      exact ⟨ret_i HV.out.symm, b1.trans (b2.mono b1.size)⟩
    · go_enter Tryd.func20, Tryd.ntmps20
      go_wp2_with fail
      refine (FX.out _ hp HX.out).mono ?_
      rintro e w1 ⟨rfl, b1⟩
      go_wp2_with fail
      refine (FY.out _ (HK.out.below hp b1).pos (HY.out.below b1)).mono ?_
      rintro e w2 ⟨rfl, b2⟩
      have b12 := b1.trans (b2.mono b1.size)
      go_wp2_with fail
      refine (OO.out _ (HK.out.below hp b12) (HX.out.below b12) (HY.out.below b12)).mono ?_
      rintro e w3 ⟨rfl, b3⟩
      go_wp2_with fail
      go_ret
      exact ⟨ret_i HV.out.symm, b12.trans (b3.mono b12.size)⟩

end Go.Proofs.YtobcoppbphfcaaaDoor
