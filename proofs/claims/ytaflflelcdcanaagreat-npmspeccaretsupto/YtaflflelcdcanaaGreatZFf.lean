/-
  The document's answer: which versions are fit.
-/
import Derived.Test.YtaflflelcdcanaaGreatZRh
import Derived.Test.YtaflflelcdcanaaGreatZPlainV
namespace Go.Proofs.YtaflflelcdcanaaGreat
open Go.RowKit Go.Shelf
set_option linter.unusedVariables false

/-- An identifier that may stand. -/
def mayB (p : Bool) (t : List UInt8) : Bool := idB t && !(p && zeroB t)
theorem mayB_pre (ts : List (List UInt8)) : ts.all (mayB true) = ts.all preB := by
  congr 1
theorem mayB_bld (ts : List (List UInt8)) : ts.all (mayB false) = ts.all idB := by
  congr 1
  funext t
  simp [mayB]
theorem all_take (P : List UInt8 → Bool) (ts : List (List UInt8)) (k : Nat) (h : k < ts.length) (h1 : (ts.take k).all P = true) (h2 : P ts[k] = true) : (ts.take (k + 1)).all P = true := by
  rw [List.take_succ_eq_append_getElem h, List.all_append, h1]
  simpa using h2
theorem all_not (P : List UInt8 → Bool) (ts : List (List UInt8)) (k : Nat) (h : k < ts.length) (h2 : P ts[k] = false) : ts.all P = false := by
  rw [List.all_eq_false]
  exact ⟨ts[k], List.getElem_mem h, by simp [h2]⟩

set_option maxHeartbeats 1000000 in
theorem ridents_any (p : Bool) (v : Value) (ts : List (List UInt8)) (w : World) (hv : Txt w v ts) (hs : Short ts) :
    Calls Tryz.prog 47 #[v, .bool p] w fun e w' => e = .returned (.bool (ts.all (mayB p))) ∧ w' = w := by
  obtain ⟨a1, c1, rfl, _⟩ := id hv
  have HA := hide hv
  have hs1 := hs.1
  have HS := hide hs.2
  clear hv hs
  have HF := hide (all_not (mayB p) ts)
  have HE : Hid ((ts.take ts.length).all (mayB p) = true → ts.all (mayB p) = true) := by show _ → _; rw [List.take_length]; exact id
  generalize ts.all (mayB p) = D at *
  go_enter Tryz.func47, Tryz.ntmps47
  go_wp2_with fail
  go_loop [5] (fun i => ∃ k : Nat, k ≤ ts.length ∧ i = .int .i64 k ∧ Hid ((ts.take k).all (mayB p) = true)) (fun i => ts.length - (intOf i).toNat)
  case atStart => exact ⟨0, by omega, rfl, rfl⟩
  case round =>
    obtain ⟨k, hk, rfl, HK⟩ := hrel
    by_cases hlt : k < ts.length
    · obtain ⟨b1, o1, rfl, h1⟩ := HA.out.some (by omega)
      have g1 := h1 k hlt
      have hlt' : (k : Int) < (ts.length : Int) := by omega
      have hk0 : (0 : Int) ≤ (k : Int) := by omega
      have hsz := HS.out ts[k] (List.getElem_mem hlt)
      have HN := hide (all_take (mayB p) ts k hlt HK.out)
      have HG := hide (HF.out k hlt)
      generalize ht : ts[k] = t at *
      clear h1 ht
      obtain ⟨s, rfl⟩ : ∃ s : ByteArray, t = s.data.toList := ⟨ofL t, (ofL_data t).symm⟩
      rw [ofL_self] at g1
      rw [len_data] at hsz
      by_cases ht0 : s.size = 0
      · have hs0 := size0 s (by omega)
        have hD := HG.out (by rw [hs0]; rfl)
        subst hs0
        subst hD
        go_wp2_with fail
        go_ret
        exact ⟨rfl, rfl⟩
      · have htl : 0 < s.size := by omega
        have hl0 : ((s.size : Int) == 0) = false := by rw [beq_eq_false_iff_ne]; omega
        have hB := rbad_any s w (by unfold maxLen; omega)
        clear ht0
        cases hz : (p && zeroB s.data.toList)
        · have HM : Hid (mayB p s.data.toList = idB s.data.toList) := by show _ = _; unfold mayB; rw [hz]; simp
          cases p
          · clear hB hz
            go_wp2_with fail
            go_loop [6] (fun j => ∃ m : Nat, m ≤ s.size ∧ j = .int .i64 m ∧ Hid (idL s.data.toList = m + idL (s.data.toList.drop m))) (fun j => s.size - (intOf j).toNat)
            case atStart => exact ⟨0, by omega, rfl, by show _ = _; simp⟩
            case round =>
              obtain ⟨m, hm, rfl, HI⟩ := hrel
              by_cases hml : m < s.size
              · cases hcc : isId s[m]
                · have HC := hide (rident_any s[m] w)
                  rw [hcc] at HC
                  have hmiss := idL_miss s m hml hcc
                  have hD := HG.out (by rw [HM.out]; unfold idB; rw [HI.out, hmiss, len_data]; simp; omega)
                  subst hD
                  clear hcc hmiss
                  go_wp2_with fail
                  refine HC.out.mono ?_
                  rintro e w' ⟨rfl, rfl⟩
                  go_wp2_with fail
                  go_ret
                  exact ⟨rfl, rfl⟩
                · have HC := hide (rident_any s[m] w)
                  rw [hcc] at HC
                  have HH := hide (idL_hit s m hml hcc)
                  clear hcc
                  go_wp2_with fail
                  refine HC.out.mono ?_
                  rintro e w' ⟨rfl, rfl⟩
                  go_wp2_with fail
                  go_round
                  case rel => exact ⟨m + 1, by omega, by go_num, by show _ = _; have := HI.out; have := HH.out; omega⟩
                  case measure => simp [intOf]; omega
              · obtain rfl : m = s.size := by omega
                have hall := hide (HN.out (by rw [HM.out]; unfold idB; rw [HI.out, idL_end s s.size (Nat.le_refl _), len_data, emp s htl]; simp))
                go_wp2_with fail
                go_round
                case rel => exact ⟨k + 1, by omega, by go_num, hall⟩
                case measure => simp [intOf]; omega

          · rw [show zeroB s.data.toList = false by simpa using hz] at hB
            have HB := hide hB
            clear hB hz
            go_wp2_with fail
            refine HB.out.mono ?_
            rintro e w' ⟨rfl, hw⟩
            rw [hw]
            clear hw w'
            go_wp2_with fail
            go_loop [6] (fun j => ∃ m : Nat, m ≤ s.size ∧ j = .int .i64 m ∧ Hid (idL s.data.toList = m + idL (s.data.toList.drop m))) (fun j => s.size - (intOf j).toNat)
            case atStart => exact ⟨0, by omega, rfl, by show _ = _; simp⟩
            case round =>
              obtain ⟨m, hm, rfl, HI⟩ := hrel
              by_cases hml : m < s.size
              · cases hcc : isId s[m]
                · have HC := hide (rident_any s[m] w)
                  rw [hcc] at HC
                  have hmiss := idL_miss s m hml hcc
                  have hD := HG.out (by rw [HM.out]; unfold idB; rw [HI.out, hmiss, len_data]; simp; omega)
                  subst hD
                  clear hcc hmiss
                  go_wp2_with fail
                  refine HC.out.mono ?_
                  rintro e w' ⟨rfl, rfl⟩
                  go_wp2_with fail
                  go_ret
                  exact ⟨rfl, rfl⟩
                · have HC := hide (rident_any s[m] w)
                  rw [hcc] at HC
                  have HH := hide (idL_hit s m hml hcc)
                  clear hcc
                  go_wp2_with fail
                  refine HC.out.mono ?_
                  rintro e w' ⟨rfl, rfl⟩
                  go_wp2_with fail
                  go_round
                  case rel => exact ⟨m + 1, by omega, by go_num, by show _ = _; have := HI.out; have := HH.out; omega⟩
                  case measure => simp [intOf]; omega
              · obtain rfl : m = s.size := by omega
                have hall := hide (HN.out (by rw [HM.out]; unfold idB; rw [HI.out, idL_end s s.size (Nat.le_refl _), len_data, emp s htl]; simp))
                go_wp2_with fail
                go_round
                case rel => exact ⟨k + 1, by omega, by go_num, hall⟩
                case measure => simp [intOf]; omega

        · have hD := HG.out (by unfold mayB; rw [hz]; simp)
          subst hD
          have hp : p = true := by cases p <;> simp_all
          have hz' : zeroB s.data.toList = true := by cases p <;> simp_all
          subst hp
          rw [hz'] at hB
          have HB := hide hB
          clear hB hz hz'
          go_wp2_with fail
          refine HB.out.mono ?_
          rintro e w' ⟨rfl, rfl⟩
          go_wp2_with fail
          go_ret
          exact ⟨rfl, rfl⟩
    · obtain rfl : k = ts.length := by omega
      have hD := HE.out HK.out
      subst hD
      go_wp2_with fail
      go_ret
      exact ⟨rfl, rfl⟩

theorem rnum_ofL (a : List UInt8) (w : World) (ha : a.length ≤ 9223372036854775806) :
    Calls Tryz.prog 46 #[.string (ofL a)] w fun e w' => e = .returned (.bool (numB a)) ∧ w' = w := by
  have := rnumber_any (ofL a) w (by rw [ofL_size]; unfold maxLen; omega)
  rw [ofL_data] at this
  exact this
theorem fitW_eq (x : SemL) (hl : lenS x ≤ 1048576) : fitW x = (numB x.maj && numB x.min && numB x.pat && x.pre.all (mayB true) && x.bld.all (mayB false) && decide ((textL x).length ≤ 64)) := by
  rw [mayB_pre, mayB_bld, textL_length]
  unfold fitW
  rw [len_wrap x hl]
  have e : decide ((lenS x : Int) ≤ 64) = decide (lenS x ≤ 64) := by rw [decide_eq_decide]; omega
  rw [e]
  cases numB x.maj <;> cases numB x.min <;> cases numB x.pat <;> cases x.pre.all preB <;> cases x.bld.all idB <;> simp

set_option maxRecDepth 100000 in
set_option maxHeartbeats 2000000 in
theorem rFit_any (v : Value) (x : SemL) (w : World) (hv : SemAt w v x) (hl : lenS x ≤ 1048576) :
    Calls Tryz.prog 25 #[v] w fun e w' => e = .returned (.bool (fitW x)) ∧ Below w.heap.size w w' := by
  rw [fitW_eq x hl]
  have sx := short_of x hl
  have T1 := hide (fun W (hW : Below w.heap.size w W) => rtext_any v x W (hv.below hW) hl)
  obtain ⟨p1, q1, rfl, t1, u1⟩ := hv
  have I1 := hide (fun W (hW : Below w.heap.size w W) => ridents_any true p1 x.pre W (t1.below hW) sx.2.2.2.1)
  have I2 := hide (fun W (hW : Below w.heap.size w W) => ridents_any false q1 x.bld W (u1.below hW) sx.2.2.2.2)
  have N1 := hide (fun W => rnum_ofL x.maj W sx.1)
  have N2 := hide (fun W => rnum_ofL x.min W sx.2.1)
  have N3 := hide (fun W => rnum_ofL x.pat W sx.2.2.1)
  obtain ⟨a1, c1, rfl, _⟩ := t1
  obtain ⟨a2, c2, rfl, _⟩ := u1
  have b0 := (Below.refl w.heap.size w).alloc (Nat.le_refl _) (.cells #[.string (ofL x.maj), .string (ofL x.min), .string (ofL x.pat), .slice a1 x.pre.length c1, .slice a2 x.bld.length c2] 33)
  have st := ofL_size (textL x)
  clear sx
  generalize ofL (textL x) = T at *
  generalize (textL x).length = L at *
  generalize numB x.maj = n1 at *
  generalize numB x.min = n2 at *
  generalize numB x.pat = n3 at *
  generalize x.pre.all (mayB true) = n4 at *
  generalize x.bld.all (mayB false) = n5 at *
  cases n1
  · simp only [Bool.false_and]
    go_enter Tryz.func25, Tryz.ntmps25
    go_wp2_with fail
    refine (N1.out _).mono ?_
    rintro e w' ⟨rfl, hw⟩
    rw [hw]
    clear hw w'
    go_wp2_with fail
    go_ret
    exact ⟨rfl, b0⟩
  · cases n2
    · simp only [Bool.false_and, Bool.and_false]
      go_enter Tryz.func25, Tryz.ntmps25
      go_wp2_with fail
      refine (N1.out _).mono ?_
      rintro e w' ⟨rfl, hw⟩
      rw [hw]
      clear hw w'
      go_wp2_with fail
      refine (N2.out _).mono ?_
      rintro e w' ⟨rfl, hw⟩
      rw [hw]
      clear hw w'
      go_wp2_with fail
      go_ret
      exact ⟨rfl, b0⟩
    · cases n3
      · simp only [Bool.false_and, Bool.and_false]
        go_enter Tryz.func25, Tryz.ntmps25
        go_wp2_with fail
        refine (N1.out _).mono ?_
        rintro e w' ⟨rfl, hw⟩
        rw [hw]
        clear hw w'
        go_wp2_with fail
        refine (N2.out _).mono ?_
        rintro e w' ⟨rfl, hw⟩
        rw [hw]
        clear hw w'
        go_wp2_with fail
        refine (N3.out _).mono ?_
        rintro e w' ⟨rfl, hw⟩
        rw [hw]
        clear hw w'
        go_wp2_with fail
        go_ret
        exact ⟨rfl, b0⟩
      · cases n4
        · simp only [Bool.false_and, Bool.and_false]
          go_enter Tryz.func25, Tryz.ntmps25
          go_wp2_with fail
          refine (N1.out _).mono ?_
          rintro e w' ⟨rfl, hw⟩
          rw [hw]
          clear hw w'
          go_wp2_with fail
          refine (N2.out _).mono ?_
          rintro e w' ⟨rfl, hw⟩
          rw [hw]
          clear hw w'
          go_wp2_with fail
          refine (N3.out _).mono ?_
          rintro e w' ⟨rfl, hw⟩
          rw [hw]
          clear hw w'
          go_wp2_with fail
          refine (I1.out _ b0).mono ?_
          rintro e w' ⟨rfl, hw⟩
          rw [hw]
          clear hw w'
          go_wp2_with fail
          go_ret
          exact ⟨rfl, b0⟩
        · cases n5
          · simp only [Bool.false_and, Bool.and_false]
            go_enter Tryz.func25, Tryz.ntmps25
            go_wp2_with fail
            refine (N1.out _).mono ?_
            rintro e w' ⟨rfl, hw⟩
            rw [hw]
            clear hw w'
            go_wp2_with fail
            refine (N2.out _).mono ?_
            rintro e w' ⟨rfl, hw⟩
            rw [hw]
            clear hw w'
            go_wp2_with fail
            refine (N3.out _).mono ?_
            rintro e w' ⟨rfl, hw⟩
            rw [hw]
            clear hw w'
            go_wp2_with fail
            refine (I1.out _ b0).mono ?_
            rintro e w' ⟨rfl, hw⟩
            rw [hw]
            clear hw w'
            go_wp2_with fail
            refine (I2.out _ b0).mono ?_
            rintro e w' ⟨rfl, hw⟩
            rw [hw]
            clear hw w'
            go_wp2_with fail
            go_ret
            exact ⟨rfl, b0⟩
          · simp only [Bool.true_and]
            by_cases hL : L ≤ 64
            all_goals
              simp only [hL, decide_true, decide_false]
              go_enter Tryz.func25, Tryz.ntmps25
              go_wp2_with fail
              refine (N1.out _).mono ?_
              rintro e w' ⟨rfl, hw⟩
              rw [hw]
              clear hw w'
              go_wp2_with fail
              refine (N2.out _).mono ?_
              rintro e w' ⟨rfl, hw⟩
              rw [hw]
              clear hw w'
              go_wp2_with fail
              refine (N3.out _).mono ?_
              rintro e w' ⟨rfl, hw⟩
              rw [hw]
              clear hw w'
              go_wp2_with fail
              refine (I1.out _ b0).mono ?_
              rintro e w' ⟨rfl, hw⟩
              rw [hw]
              clear hw w'
              go_wp2_with fail
              refine (I2.out _ b0).mono ?_
              rintro e w' ⟨rfl, hw⟩
              rw [hw]
              clear hw w'
              go_wp2_with fail
              refine (T1.out _ b0).mono ?_
              rintro e w2 ⟨rfl, b2⟩
              go_wp2_with fail
              go_ret
              exact ⟨ret_b (by simp; omega), b0.trans (b2.mono b0.size)⟩

theorem rFormat_any (v : Value) (x : SemL) (w : World) (hv : SemAt w v x) (hl : lenS x ≤ 1048576) :
    Calls Tryz.prog 24 #[v] w fun e w' => e = .returned (.string (ofL (if fitW x then textL x else []))) ∧ Below w.heap.size w w' := by
  have F1 := hide (fun W (hW : Below w.heap.size w W) => rFit_any v x W (hv.below hW) hl)
  have T1 := hide (fun W (hW : Below w.heap.size w W) => rtext_any v x W (hv.below hW) hl)
  obtain ⟨p1, q1, rfl, ⟨a1, c1, rfl, _⟩, ⟨a2, c2, rfl, _⟩⟩ := hv
  have b0 := (Below.refl w.heap.size w).alloc (Nat.le_refl _) (.cells #[.string (ofL x.maj), .string (ofL x.min), .string (ofL x.pat), .slice a1 x.pre.length c1, .slice a2 x.bld.length c2] 33)
  have kk := hide (World.alloc_heap_new w (.cells #[.string (ofL x.maj), .string (ofL x.min), .string (ofL x.pat), .slice a1 x.pre.length c1, .slice a2 x.bld.length c2] 33))
  cases hf : fitW x
  · rw [hf] at F1
    rw [if_neg (by simp)]
    clear hf
    go_enter Tryz.func24, Tryz.ntmps24
    go_wp2_with fail
    refine (F1.out _ b0).mono ?_
    rintro e w1 ⟨rfl, b1⟩
    go_wp2_with fail
    go_ret
    exact ⟨rfl, b0.trans (b1.mono b0.size)⟩
  · rw [hf] at F1
    rw [if_pos rfl]
    clear hf
    go_enter Tryz.func24, Tryz.ntmps24
    go_wp2_with fail
    refine (F1.out _ b0).mono ?_
    rintro e w1 ⟨rfl, b1⟩
    simp only [World.size_alloc] at b1
    have B1 := b0.trans (b1.mono (by omega))
    obtain ⟨m0, m1, m2, m3, m4⟩ := seen5 ((b1.block w.heap.size (by omega)).trans kk.out)
    go_wp2_with fail
    refine (T1.out _ B1).mono ?_
    rintro e w2 ⟨rfl, b2⟩
    go_wp2_with fail
    go_ret
    exact ⟨rfl, B1.trans (b2.mono B1.size)⟩

end Go.Proofs.YtaflflelcdcanaaGreat
