/-
  Walks: which versions are fit by the document, and their texts.
-/
import Derived.Test.YthojcidbhojlhaaDw
namespace Go.Proofs.Ythojcidbhojlhaa
open Go.RowKit Go.Shelf
set_option linter.unusedVariables false

theorem not_fit {v : DebL} (h : FitC v → False) : fitB v = false := by
  cases hf : fitB v
  · rfl
  · exact absurd ((fit_doc v).1 hf).1 h
theorem fit_len {v : DebL} (h : FitC v) : fitB v = decide ((writeL v).length ≤ 64) := by
  rw [Bool.eq_iff_iff, fit_doc, decide_eq_true_eq]
  exact ⟨fun h => h.2, fun h2 => ⟨h, h2⟩⟩
/-- A byte of an upstream version. -/
def okU (v : DebL) (c : UInt8) : Prop := partB c = true ∨ c = 58 ∨ (c = 45 ∧ v.rev ≠ [])
theorem up_next (v : DebL) (j : Nat) (h : j < v.up.length) (hj : ∀ c ∈ v.up.take j, okU v c) (hc : okU v ((ofL v.up)[j]'(by rw [ofL_size]; exact h))) : ∀ c ∈ v.up.take (j + 1), okU v c := by
  intro c hm
  rw [List.take_succ_eq_append_getElem h] at hm
  rcases List.mem_append.1 hm with hm | hm
  · exact hj c hm
  · rw [List.mem_singleton.1 hm]; exact hc
theorem rv_next (v : DebL) (j : Nat) (h : j < v.rev.length) (hj : ∀ c ∈ v.rev.take j, partB c = true) (hc : partB ((ofL v.rev)[j]'(by rw [ofL_size]; exact h)) = true) : ∀ c ∈ v.rev.take (j + 1), partB c = true := by
  intro c hm
  rw [List.take_succ_eq_append_getElem h] at hm
  rcases List.mem_append.1 hm with hm | hm
  · exact hj c hm
  · rw [List.mem_singleton.1 hm]; exact hc
theorem at_mem (l : List UInt8) (j : Nat) (h : j < l.length) : (ofL l)[j]'(by rw [ofL_size]; exact h) ∈ l := List.getElem_mem h

set_option maxRecDepth 100000 in
set_option maxHeartbeats 1000000 in
theorem RFit_a (v : DebL) (w : World) (hs : Sz v) (h1 : digB v.ep = false) :
    Calls Try.prog 13 #[verV v] w fun e w' => e = .returned (.bool (fitB v)) ∧ Below w.heap.size w w' := by
  obtain ⟨l1, l2, l3⟩ := hs
  have q1 := ofL_size v.ep
  have q2 := ofL_size v.up
  have AD := fun w => Ralldigits_any (ofL v.ep) w (by rw [ofL_size]; omega)
  have TR := fun w => RTrim_any (ofL v.ep) w (by rw [ofL_size]; unfold maxLen; omega)
  rw [ofL_data] at AD TR
  have HF := hide (not_fit (v := v) (fun h => by rw [h.ep1] at h1; cases h1))
  rw [h1] at AD
  have AD := hide AD
  have TR := hide TR
  have DG := hide (fun w => Rdigit_any 48 w)
  clear h1
  unfold verV
  go_enter Try.func13, Try.ntmps13
  go_wp2_with fail
  go_quiet (first
    | (go_at_call 34; exact Calls.quiet_of_same (AD.out _))
    | (go_at_call 35; exact Calls.quiet_of_same (TR.out _))
    | (go_at_call 36; exact Calls.quiet_of_same (DG.out _))
    | fail)
  go_wp2_with fail
  go_ret
  exact ⟨ret_b HF.out.symm, ((Below.refl _ w).alloc (Nat.le_refl _) _).trans (below_drewN _ _ _)⟩

set_option maxRecDepth 100000 in
set_option maxHeartbeats 1000000 in
theorem RFit_b (v : DebL) (w : World) (hs : Sz v) (h1 : digB v.ep = true) (h2 : trimL v.ep ≠ v.ep) :
    Calls Try.prog 13 #[verV v] w fun e w' => e = .returned (.bool (fitB v)) ∧ Below w.heap.size w w' := by
  obtain ⟨l1, l2, l3⟩ := hs
  have q1 := ofL_size v.ep
  have q2 := ofL_size v.up
  have AD := fun w => Ralldigits_any (ofL v.ep) w (by rw [ofL_size]; omega)
  have TR := fun w => RTrim_any (ofL v.ep) w (by rw [ofL_size]; unfold maxLen; omega)
  rw [ofL_data] at AD TR
  have HF := hide (not_fit (v := v) (fun h => h2 h.ep2))
  have hb : ((ofL (trimL v.ep)).toList == (ofL v.ep).toList) = false := eqL _ _ _ (by simpa using h2)
  rw [h1] at AD
  have AD := hide AD
  have TR := hide TR
  have DG := hide (fun w => Rdigit_any 48 w)
  clear h1 h2
  unfold verV
  go_enter Try.func13, Try.ntmps13
  go_wp2_with fail
  go_quiet (first
    | (go_at_call 34; exact Calls.quiet_of_same (AD.out _))
    | (go_at_call 35; exact Calls.quiet_of_same (TR.out _))
    | (go_at_call 36; exact Calls.quiet_of_same (DG.out _))
    | fail)
  go_wp2_with fail
  go_ret
  exact ⟨ret_b HF.out.symm, ((Below.refl _ w).alloc (Nat.le_refl _) _).trans (below_drewN _ _ _)⟩

set_option maxRecDepth 100000 in
set_option maxHeartbeats 1000000 in
theorem RFit_c (v : DebL) (w : World) (hs : Sz v) (h1 : digB v.ep = true) (h2 : trimL v.ep = v.ep) (h3 : v.up = []) :
    Calls Try.prog 13 #[verV v] w fun e w' => e = .returned (.bool (fitB v)) ∧ Below w.heap.size w w' := by
  obtain ⟨l1, l2, l3⟩ := hs
  have q1 := ofL_size v.ep
  have q2 := ofL_size v.up
  have AD := fun w => Ralldigits_any (ofL v.ep) w (by rw [ofL_size]; omega)
  have TR := fun w => RTrim_any (ofL v.ep) w (by rw [ofL_size]; unfold maxLen; omega)
  rw [ofL_data] at AD TR
  have HF := hide (not_fit (v := v) (fun h => by obtain ⟨c, r, hc, _⟩ := h.up1; rw [h3] at hc; cases hc))
  rw [h2] at TR
  have hb : ((ofL v.ep).toList == (ofL v.ep).toList) = true := eqL _ _ _ (by simp)
  have hu := eqNil v.up true (by rw [h3]; rfl)
  rw [h1] at AD
  have AD := hide AD
  have TR := hide TR
  have DG := hide (fun w => Rdigit_any 48 w)
  clear h1 h2 h3
  unfold verV
  go_enter Try.func13, Try.ntmps13
  go_wp2_with fail
  go_quiet (first
    | (go_at_call 34; exact Calls.quiet_of_same (AD.out _))
    | (go_at_call 35; exact Calls.quiet_of_same (TR.out _))
    | (go_at_call 36; exact Calls.quiet_of_same (DG.out _))
    | fail)
  go_wp2_with fail
  go_ret
  exact ⟨ret_b HF.out.symm, ((Below.refl _ w).alloc (Nat.le_refl _) _).trans (below_drewN _ _ _)⟩

set_option maxRecDepth 100000 in
set_option maxHeartbeats 1000000 in
theorem RFit_d (v : DebL) (w : World) (hs : Sz v) (h1 : digB v.ep = true) (h2 : trimL v.ep = v.ep) (h3 : v.up ≠ []) (h4 : isC ((v.up.head h3).toNat : Int) 1 = false) :
    Calls Try.prog 13 #[verV v] w fun e w' => e = .returned (.bool (fitB v)) ∧ Below w.heap.size w w' := by
  obtain ⟨l1, l2, l3⟩ := hs
  have q1 := ofL_size v.ep
  have q2 := ofL_size v.up
  have AD := fun w => Ralldigits_any (ofL v.ep) w (by rw [ofL_size]; omega)
  have TR := fun w => RTrim_any (ofL v.ep) w (by rw [ofL_size]; unfold maxLen; omega)
  rw [ofL_data] at AD TR
  have HF := hide (not_fit (v := v) (fun h => by
    obtain ⟨c, r, hc, hd⟩ := h.up1
    have e : v.up.head h3 = c := by simp [hc]
    rw [e, hd] at h4
    cases h4))
  rw [h2] at TR
  have hb : ((ofL v.ep).toList == (ofL v.ep).toList) = true := eqL _ _ _ (by simp)
  have hu := eqNil v.up false (by simpa using h3)
  have hp : 0 < v.up.length := List.length_pos_iff.2 h3
  have hsz : 0 < (ofL v.up).size := by rw [ofL_size]; exact hp
  have hp' : (0 : Int) < (v.up.length : Int) := by omega
  have hx : (ofL v.up)[0] = v.up.head h3 := by rw [List.head_eq_getElem]; rfl
  rw [← hx] at h4
  have DG := fun w => Rdigit_any ((ofL v.up)[0].toNat : Int) w
  rw [h4] at DG
  rw [h1] at AD
  have AD := hide AD
  have TR := hide TR
  have DG := hide DG
  clear h1 h2 h3 h4 hx
  unfold verV
  go_enter Try.func13, Try.ntmps13
  go_wp2_with fail
  go_quiet (first
    | (go_at_call 34; exact Calls.quiet_of_same (AD.out _))
    | (go_at_call 35; exact Calls.quiet_of_same (TR.out _))
    | (go_at_call 36; exact Calls.quiet_of_same (DG.out _))
    | fail)
  go_wp2_with fail
  go_ret
  exact ⟨ret_b HF.out.symm, ((Below.refl _ w).alloc (Nat.le_refl _) _).trans (below_drewN _ _ _)⟩

set_option maxRecDepth 100000 in
set_option maxHeartbeats 4000000 in
theorem RFit_e (v : DebL) (w : World) (hs : Sz v) (h1 : digB v.ep = true) (h2 : trimL v.ep = v.ep) (h3 : v.up ≠ []) (h4 : isC ((v.up.head h3).toNat : Int) 1 = true) :
    Calls Try.prog 13 #[verV v] w fun e w' => e = .returned (.bool (fitB v)) ∧ Below w.heap.size w w' := by
  have TX := fun w => Rtext_any v w hs
  obtain ⟨l1, l2, l3⟩ := hs
  have q1 := ofL_size v.ep
  have q2 := ofL_size v.up
  have q3 := ofL_size v.rev
  have q4 := ofL_size (writeL v)
  have hwl : (writeL v).length ≤ 500000000000000 := by
    unfold writeL headL
    rw [List.length_append]
    split <;> split <;> simp <;> omega
  have AD := fun w => Ralldigits_any (ofL v.ep) w (by rw [ofL_size]; omega)
  have TR := fun w => RTrim_any (ofL v.ep) w (by rw [ofL_size]; unfold maxLen; omega)
  rw [ofL_data] at AD TR
  have HFIT : Hid ((∀ c ∈ v.up, okU v c) → (∀ c ∈ v.rev, partB c = true) → fitB v = decide ((writeL v).length ≤ 64)) := fun hu hr => fit_len ⟨h1, h2, by
    cases hup : v.up with
    | nil => exact absurd hup h3
    | cons c r => exact ⟨c, r, rfl, by have e : v.up.head h3 = c := by simp [hup]
                                       rw [e] at h4; exact h4⟩, hu, hr⟩
  have HNU : Hid ((∃ c ∈ v.up, ¬ okU v c) → fitB v = false) := fun ⟨c, hc, hn⟩ => not_fit (fun h => hn (h.up2 c hc))
  have HNR : Hid ((∃ c ∈ v.rev, partB c = false) → fitB v = false) := fun ⟨c, hc, hn⟩ => not_fit (fun h => by rw [h.rv c hc] at hn; cases hn)
  rw [h2] at TR
  have hb : ((ofL v.ep).toList == (ofL v.ep).toList) = true := eqL _ _ _ (by simp)
  have hu := eqNil v.up false (by simpa using h3)
  have hp : 0 < v.up.length := List.length_pos_iff.2 h3
  have hsz : 0 < (ofL v.up).size := by rw [ofL_size]; exact hp
  have hp' : (0 : Int) < (v.up.length : Int) := by omega
  have hx : (ofL v.up)[0] = v.up.head h3 := by rw [List.head_eq_getElem]; rfl
  rw [← hx] at h4
  have DG := fun w => Rdigit_any ((ofL v.up)[0].toNat : Int) w
  rw [h4] at DG
  rw [h1] at AD
  have AD := hide AD
  have TR := hide TR
  have DG := hide DG
  unfold verV at TX
  have TX := hide TX
  generalize fitB v = FB at *
  clear h1 h2 h4 hx
  unfold verV
  go_enter Try.func13, Try.ntmps13
  go_wp2_with fail
  go_quiet (first
    | (go_at_call 34; exact Calls.quiet_of_same (AD.out _))
    | (go_at_call 35; exact Calls.quiet_of_same (TR.out _))
    | (go_at_call 36; exact Calls.quiet_of_same (DG.out _))
    | fail)
  have eV : ((w.alloc (.cells #[.string (ofL v.ep), .string (ofL v.up), .string (ofL v.rev)] 23)).drewN nq).heap[w.heap.size]? = some (.cells #[.string (ofL v.ep), .string (ofL v.up), .string (ofL v.rev)] 23 (0, 0)) := by rw [heap_drewN]; exact World.alloc_heap_new w _
  have bW : Below w.heap.size w ((w.alloc (.cells #[.string (ofL v.ep), .string (ofL v.up), .string (ofL v.rev)] 23)).drewN nq) := ((Below.refl _ w).alloc (Nat.le_refl _) _).trans (below_drewN _ _ _)
  clear hb hu
  generalize (w.alloc (.cells #[.string (ofL v.ep), .string (ofL v.up), .string (ofL v.rev)] 23)).drewN nq = W1 at *
  have c0 := cell_at 0 eV rfl
  have c1 := cell_at 1 eV rfl
  have c2 := cell_at 2 eV rfl
  have EV := hide eV
  clear eV
  go_wp2_with fail
  go_loop [3] (fun i => ∃ j : Nat, j ≤ v.up.length ∧ i = .int .i64 j ∧ Hid (∀ c ∈ v.up.take j, okU v c)) (fun i => v.up.length - (intOf i).toNat)
  case atStart => exact ⟨0, by omega, rfl, fun c hc => by simp at hc⟩
  case round =>
    obtain ⟨j, hj, rfl, HU⟩ := hrel
    by_cases hlt : j < v.up.length
    · have hlt' : (j : Int) < (v.up.length : Int) := by omega
      have hsz : j < (ofL v.up).size := by rw [ofL_size]; exact hlt
      have HM := hide (at_mem v.up j hlt)
      have HN : Hid (okU v (ofL v.up)[j] → ∀ c ∈ v.up.take (j + 1), okU v c) := fun h => up_next v j hlt HU.out h
      have PT := fun w => Rpart_any (ofL v.up)[j] w
      have b58 : (((ofL v.up)[j].toNat : Int) == 58) = decide ((ofL v.up)[j] = 58) := by
        rw [Bool.eq_iff_iff]; simp only [beq_iff_eq, decide_eq_true_eq]
        exact ⟨fun h => UInt8.toNat_inj.1 (by show _ = 58; omega), fun h => by rw [h]; rfl⟩
      have b45 : (((ofL v.up)[j].toNat : Int) == 45) = decide ((ofL v.up)[j] = 45) := by
        rw [Bool.eq_iff_iff]; simp only [beq_iff_eq, decide_eq_true_eq]
        exact ⟨fun h => UInt8.toNat_inj.1 (by show _ = 45; omega), fun h => by rw [h]; rfl⟩
      have n58 : (((ofL v.up)[j].toNat : Int) != 58) = !decide ((ofL v.up)[j] = 58) := by rw [bne, b58]
      cases hp : partB (ofL v.up)[j]
      · rw [hp] at PT
        have PT := hide PT
        by_cases h58 : (ofL v.up)[j] = 58
        · rw [decide_eq_true h58] at b58 n58
          have HK : Hid (okU v (ofL v.up)[j]) := .inr (.inl h58)
          clear hp h58 b45
          go_wp2_with fail
          refine (PT.out _).mono ?_
          rintro e' w' ⟨rfl, hw'⟩
          rw [hw']
          clear hw' w'
          go_wp2_with fail
          go_round
          case rel => exact ⟨j + 1, by omega, by go_num, HN.out HK.out⟩
          case measure => simp [intOf]; omega
        · rw [decide_eq_false h58] at b58 n58
          by_cases h45 : (ofL v.up)[j] = 45
          · rw [decide_eq_true h45] at b45
            by_cases hr : v.rev = []
            · have hrb := eqNil v.rev true (by rw [hr]; rfl)
              have HF : Hid (FB = false) := HNU.out ⟨_, HM.out, by rintro (h | h | ⟨_, h⟩); rw [h] at hp; cases hp; exact h58 h; exact h hr⟩
              clear hp h58 h45 hr
              go_wp2_with fail
              refine (PT.out _).mono ?_
              rintro e' w' ⟨rfl, hw'⟩
              rw [hw']
              clear hw' w'
              go_wp2_with fail
              go_ret
              exact ⟨ret_b HF.out.symm, bW⟩
            · have hrb := eqNil v.rev false (by simpa using hr)
              have HK : Hid (okU v (ofL v.up)[j]) := .inr (.inr ⟨h45, hr⟩)
              clear hp h58 h45 hr
              go_wp2_with fail
              refine (PT.out _).mono ?_
              rintro e' w' ⟨rfl, hw'⟩
              rw [hw']
              clear hw' w'
              go_wp2_with fail
              go_round
              case rel => exact ⟨j + 1, by omega, by go_num, HN.out HK.out⟩
              case measure => simp [intOf]; omega
          · rw [decide_eq_false h45] at b45
            have HF : Hid (FB = false) := HNU.out ⟨_, HM.out, by rintro (h | h | ⟨h, _⟩); rw [h] at hp; cases hp; exact h58 h; exact h45 h⟩
            clear hp h58 h45
            go_wp2_with fail
            refine (PT.out _).mono ?_
            rintro e' w' ⟨rfl, hw'⟩
            rw [hw']
            clear hw' w'
            go_wp2_with fail
            go_ret
            exact ⟨ret_b HF.out.symm, bW⟩
      · rw [hp] at PT
        have PT := hide PT
        have HK : Hid (okU v (ofL v.up)[j]) := .inl hp
        clear hp b58 b45 n58
        go_wp2_with fail
        refine (PT.out _).mono ?_
        rintro e' w' ⟨rfl, hw'⟩
        rw [hw']
        clear hw' w'
        go_wp2_with fail
        go_round
        case rel => exact ⟨j + 1, by omega, by go_num, HN.out HK.out⟩
        case measure => simp [intOf]; omega
    · have hlt' : ¬ (j : Int) < (v.up.length : Int) := by omega
      have HUA : Hid (∀ c ∈ v.up, okU v c) := by
        intro c hc
        refine HU.out c ?_
        rw [List.take_of_length_le (by omega)]
        exact hc
      clear HU HNU
      go_wp2_with fail
      go_loop [5] (fun i => ∃ k : Nat, k ≤ v.rev.length ∧ i = .int .i64 k ∧ Hid (∀ c ∈ v.rev.take k, partB c = true)) (fun i => v.rev.length - (intOf i).toNat)
      case atStart => exact ⟨0, by omega, rfl, fun c hc => by simp at hc⟩
      case round =>
        obtain ⟨k, hk, rfl, HR⟩ := hrel
        by_cases hkl : k < v.rev.length
        · have hkl' : (k : Int) < (v.rev.length : Int) := by omega
          have hsz : k < (ofL v.rev).size := by rw [ofL_size]; exact hkl
          have HM := hide (at_mem v.rev k hkl)
          have HN : Hid (partB (ofL v.rev)[k] = true → ∀ c ∈ v.rev.take (k + 1), partB c = true) := fun h => rv_next v k hkl HR.out h
          have PT := fun w => Rpart_any (ofL v.rev)[k] w
          cases hp : partB (ofL v.rev)[k]
          · rw [hp] at PT
            have PT := hide PT
            have HF : Hid (FB = false) := HNR.out ⟨_, HM.out, hp⟩
            clear hp
            go_wp2_with fail
            refine (PT.out _).mono ?_
            rintro e' w' ⟨rfl, hw'⟩
            rw [hw']
            clear hw' w'
            go_wp2_with fail
            go_ret
            exact ⟨ret_b HF.out.symm, bW⟩
          · rw [hp] at PT
            have PT := hide PT
            have HK := hide hp
            clear hp
            go_wp2_with fail
            refine (PT.out _).mono ?_
            rintro e' w' ⟨rfl, hw'⟩
            rw [hw']
            clear hw' w'
            go_wp2_with fail
            go_round
            case rel => exact ⟨k + 1, by omega, by go_num, HN.out HK.out⟩
            case measure => simp [intOf]; omega
        · have hkl' : ¬ (k : Int) < (v.rev.length : Int) := by omega
          have HF : Hid (FB = decide ((writeL v).length ≤ 64)) := HFIT.out HUA.out (fun c hc => by
            refine HR.out c ?_
            rw [List.take_of_length_le (by omega)]
            exact hc)
          go_wp2_with fail
          refine (TX.out _).mono ?_
          rintro e w2 ⟨rfl, b2⟩
          go_wp2_with fail
          go_ret
          exact ⟨ret_b (by rw [HF.out]; first | rfl | (rw [Bool.eq_iff_iff]; simp; try omega)), bW.trans (b2.mono bW.size)⟩

theorem RFit_any (v : DebL) (w : World) (hs : Sz v) :
    Calls Try.prog 13 #[verV v] w fun e w' => e = .returned (.bool (fitB v)) ∧ Below w.heap.size w w' := by
  cases h1 : digB v.ep
  · exact RFit_a v w hs h1
  · by_cases h2 : trimL v.ep = v.ep
    · by_cases h3 : v.up = []
      · exact RFit_c v w hs h1 h2 h3
      · cases h4 : isC ((v.up.head h3).toNat : Int) 1
        · exact RFit_d v w hs h1 h2 h3 h4
        · exact RFit_e v w hs h1 h2 h3 h4
    · exact RFit_b v w hs h1 h2

set_option maxRecDepth 100000 in
set_option maxHeartbeats 1000000 in
theorem RFormat_any (v : DebL) (w : World) (hs : Sz v) :
    Calls Try.prog 15 #[verV v] w fun e w' => e = .returned (.string (ofL (formL v))) ∧ Below w.heap.size w w' := by
  have F1 := fun w => RFit_any v w hs
  have W1 := fun w => Rtext_any v w hs
  cases hf : fitB v
  · have HO : Hid (formL v = []) := by show _ = _; unfold formL; rw [hf]; rfl
    rw [hf] at F1
    unfold verV at F1 ⊢
    have F1 := hide F1
    clear W1 hf
    go_enter Try.func15, Try.ntmps15
    go_wp2_with fail
    refine (F1.out _).mono ?_
    rintro e w1 ⟨rfl, b1⟩
    go_wp2_with fail
    go_ret
    have B0 := (Below.refl _ w).alloc (Nat.le_refl _) (.cells #[.string (ofL v.ep), .string (ofL v.up), .string (ofL v.rev)] 23)
    exact ⟨ret_s (by rw [HO.out]; rfl), B0.trans (b1.mono B0.size)⟩
  · have HO : Hid (formL v = writeL v) := by show _ = _; unfold formL; rw [hf]; rfl
    rw [hf] at F1
    unfold verV at F1 W1 ⊢
    have F1 := hide F1
    have W1 := hide W1
    clear hf
    go_enter Try.func15, Try.ntmps15
    go_wp2_with fail
    refine (F1.out _).mono ?_
    rintro e w1 ⟨rfl, b1⟩
    have k1 := box_kept b1
    have q0 := cell_at 0 k1 rfl
    have q1 := cell_at 1 k1 rfl
    have q2 := cell_at 2 k1 rfl
    go_wp2_with fail
    refine (W1.out _).mono ?_
    rintro e w2 ⟨rfl, b2⟩
    go_wp2_with fail
    go_ret
    have B0 := (Below.refl _ w).alloc (Nat.le_refl _) (.cells #[.string (ofL v.ep), .string (ofL v.up), .string (ofL v.rev)] 23)
    have B1 := B0.trans (b1.mono B0.size)
    exact ⟨ret_s (by rw [HO.out]), B1.trans (b2.mono B1.size)⟩


end Go.Proofs.Ythojcidbhojlhaa
