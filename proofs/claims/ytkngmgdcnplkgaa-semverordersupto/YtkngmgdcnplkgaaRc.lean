/-
  The document's reader: a byte that must stand, a number.
-/
import Derived.Test.YtkngmgdcnplkgaaRb
namespace Go.Proofs.Ytkngmgdcnplkgaa
open Go.RowKit Go.Shelf
set_option linter.unusedVariables false

/-- The reader behind a byte that must stand: its place and its error. -/
def byteS (l : List UInt8) (c : UInt8) (x : Nat × Int) : Nat × Int := if x.2 = 0 then (if atB l x.1 c then (x.1 + 1, 0) else (x.1, misL l.length x.1)) else x
/-- The reader behind a number. -/
def numS (l : List UInt8) (x : Nat × Int) : Nat × Int := if x.2 = 0 then (match numR l x.1 with | .ok a => (a, 0) | .error y => (y.2, y.1)) else x
/-- The number that is read. -/
def numT (l : List UInt8) (x : Nat × Int) : List UInt8 := if x.2 = 0 then (match numR l x.1 with | .ok a => seg l x.1 a | .error _ => []) else []

theorem RdAt.step {W : World} {B : Nat} {s : ByteArray} {a : Nat} {e : Int} (h : RdAt W B s a e) : RdAt (W.setCell ⟨B, 1, none⟩ (.int .i64 ((a : Int) + 1))) B s (a + 1) e := h.place (a + 1)

theorem rByte_any (B : Nat) (s : ByteArray) (a : Nat) (e : Int) (c : UInt8) (w : World) (h : RdAt w B s a e) (ha : a ≤ s.size) (hs : s.size ≤ 64) :
    Calls Try.prog 58 #[.pointer (some ⟨B, 0, none⟩), .int .u8 (c.toNat : Int)] w fun r w' => r = .returned (.tuple #[]) ∧ RdAt w' B s (byteS s.data.toList c (a, e)).1 (byteS s.data.toList c (a, e)).2 ∧ Turn B w w' := by
  obtain ⟨c0, c1, c2, f1, f2⟩ := h.seen
  have H := hide h
  have N1 := hide (fun n => rnone_any B s a e (w.drewN n) (h.drewN n) ha)
  clear h
  have HL := hide (len_data s)
  by_cases he : e = 0
  · subst he
    by_cases hl : a < s.size
    · have hB := atB_in s a c hl
      have hb : ((s[a].toNat : Int) == (c.toNat : Int)) = decide ((s[a].toNat : Int) = (c.toNat : Int)) := by by_cases h : (s[a].toNat : Int) = (c.toNat : Int) <;> simp [h]
      have HX := hide (show byteS s.data.toList c (a, 0) = if atB s.data.toList a c then (a + 1, 0) else (a, misL s.size a) from by unfold byteS; rw [if_pos rfl, HL.out])
      generalize byteS s.data.toList c (a, 0) = X at *
      rw [hB] at HX
      clear hB
      generalize decide ((s[a].toNat : Int) = (c.toNat : Int)) = D at *
      cases D
      · obtain rfl : X = (a, misL s.size a) := HX.out.trans (if_neg (by simp))
        rw [rerr_0] at N1
        go_enter Try.func58, Try.ntmps58
        go_wp2_with fail
        go_quiet (fail)
        go_wp2_with fail
        refine (N1.out _).mono ?_
        rintro r w1 ⟨rfl, h1, t1⟩
        go_wp2_with fail
        go_end0
        exact ⟨rfl, h1, (Turn.drewN _ _ _).trans t1⟩
      · obtain rfl : X = (a + 1, 0) := HX.out.trans (if_pos rfl)
        go_enter Try.func58, Try.ntmps58
        go_wp2_with fail
        go_quiet (fail)
        go_wp2_with fail
        refine bodyPost_ret (results_none rfl _ _ _) rfl ?_
        exact ⟨rfl, (H.out.drewN _).step, (Turn.drewN _ _ _).trans (Turn.set _ _ _ _)⟩
    · have HX := hide (show byteS s.data.toList c (a, 0) = (a, misL s.size a) from by unfold byteS; rw [if_pos rfl, HL.out, atB_out s a c hl]; rfl)
      generalize byteS s.data.toList c (a, 0) = X at *
      obtain rfl : X = (a, misL s.size a) := HX.out
      rw [rerr_0] at N1
      go_enter Try.func58, Try.ntmps58
      go_wp2_with fail
      go_quiet (fail)
      go_wp2_with fail
      refine (N1.out _).mono ?_
      rintro r w1 ⟨rfl, h1, t1⟩
      go_wp2_with fail
      go_end0
      exact ⟨rfl, h1, (Turn.drewN _ _ _).trans t1⟩
  · have hb : (e == 0) = false := by simpa using he
    have HX := hide (show byteS s.data.toList c (a, e) = (a, e) from by unfold byteS; rw [if_neg he])
    generalize byteS s.data.toList c (a, e) = X at *
    obtain rfl : X = (a, e) := HX.out
    rw [rerr_n _ he] at N1
    clear he
    go_enter Try.func58, Try.ntmps58
    go_wp2_with fail
    go_quiet (fail)
    go_wp2_with fail
    refine (N1.out _).mono ?_
    rintro r w1 ⟨rfl, h1, t1⟩
    go_wp2_with fail
    go_end0
    exact ⟨rfl, h1, (Turn.drewN _ _ _).trans t1⟩

theorem run_take (k : Int) : ∀ m : List UInt8, runL k (m.take (runL k m)) = runL k m
  | [] => rfl
  | c :: r => by
    by_cases hc : isC (c.toNat : Int) k = true
    · have e : runL k (c :: r) = runL k r + 1 := by rw [runL, if_pos hc]
      rw [e, List.take_succ_cons, runL, if_pos hc, run_take k r]
    · have e : runL k (c :: r) = 0 := by rw [runL, if_neg hc]
      rw [e, List.take_zero]; rfl
theorem seg_run (l : List UInt8) (a d : Nat) : seg l a (a + d) = (l.drop a).take d := by
  unfold seg
  rw [List.drop_take]
  congr 1
  omega
theorem zero_run (l : List UInt8) (a : Nat) (h1 : 0 < runL 1 (l.drop a)) : zeroB (seg l a (a + runL 1 (l.drop a))) = (decide (1 < runL 1 (l.drop a)) && (l[a]? == some 48)) := by
  have hle := runL_le 1 (l.drop a)
  have hr := run_take 1 (l.drop a)
  rw [seg_run]
  have hlen : ((l.drop a).take (runL 1 (l.drop a))).length = runL 1 (l.drop a) := by rw [List.length_take]; omega
  have hd : digB ((l.drop a).take (runL 1 (l.drop a))) = true := by
    unfold digB
    rw [hr, hlen]
    cases hx : (l.drop a).take (runL 1 (l.drop a)) with
    | nil => rw [hx] at hlen; simp at hlen; omega
    | cons _ _ => simp
  have hh : ((l.drop a).take (runL 1 (l.drop a))).head? = l[a]? := by
    rw [List.head?_take, if_neg (by omega), List.head?_drop]
  unfold zeroB
  rw [hd, hlen, hh, Bool.and_true]
theorem numR_none (l : List UInt8) (a : Nat) (h : runL 1 (l.drop a) = 0) : numR l a = .error (misL l.length a, a) := by unfold numR; rw [if_pos h]
theorem numR_zero (l : List UInt8) (a : Nat) (h2 : 2 ≤ runL 1 (l.drop a)) (h0 : l[a]? = some 48) : numR l a = .error (14, a + 1) := by
  unfold numR
  rw [if_neg (by omega), zero_run l a (by omega), if_pos (by simp [h0]; omega)]
theorem numR_ok (l : List UInt8) (a : Nat) (h1 : 0 < runL 1 (l.drop a)) (h : 2 ≤ runL 1 (l.drop a) → ¬ l[a]? = some 48) : numR l a = .ok (a + runL 1 (l.drop a)) := by
  unfold numR
  rw [if_neg (by omega), zero_run l a h1, if_neg]
  intro hc
  simp only [Bool.and_eq_true, decide_eq_true_eq, beq_iff_eq] at hc
  exact h hc.1 hc.2
theorem byte_48 (s : ByteArray) (a : Nat) (h : a < s.size) : (s.data.toList[a]? = some 48) ↔ (s[a].toNat : Int) = 48 := by
  have hg : s.data.toList[a]? = some s[a] := by rw [List.getElem?_eq_getElem (by rw [len_data]; exact h)]; rfl
  rw [hg, Option.some.injEq]
  exact ⟨fun h => by rw [h]; rfl, fun h => UInt8.toNat_inj.1 (by have : s[a].toNat = 48 := by omega
                                                                 rw [this]; rfl)⟩

theorem seg_self (l : List UInt8) (a : Nat) : seg l a a = [] := by unfold seg; rw [List.drop_eq_nil_iff, List.length_take]; omega

/-- The place, as a measure. -/
def rplace (W : World) (B : Nat) : Nat := (intOf ((W.cell? ⟨B, 1, none⟩).getD (.int .i64 0))).toNat
theorem RdAt.rplace {W : World} {B : Nat} {s : ByteArray} {a : Nat} {e : Int} (h : RdAt W B s a e) : rplace W B = a := by
  unfold Ytkngmgdcnplkgaa.rplace
  rw [h.seen.2.1]
  simp [intOf]

set_option maxHeartbeats 1000000 in
theorem rNumber_ok (B : Nat) (s : ByteArray) (a : Nat) (w : World) (h : RdAt w B s a 0) (ha : a ≤ s.size) (hs : s.size ≤ 64) :
    Calls Try.prog 57 #[.pointer (some ⟨B, 0, none⟩)] w fun r w' => r = .returned (.string (ofL (numT s.data.toList (a, 0)))) ∧ RdAt w' B s (numS s.data.toList (a, 0)).1 (numS s.data.toList (a, 0)).2 ∧ Turn B w w' := by
  obtain ⟨c0, c1, c2, f1, f2⟩ := h.seen
  have H := hide h
  clear h
  have HS := hide (show numS s.data.toList (a, 0) = match numR s.data.toList a with | .ok a => (a, 0) | .error y => (y.2, y.1) from if_pos rfl)
  have HT := hide (show numT s.data.toList (a, 0) = match numR s.data.toList a with | .ok x => seg s.data.toList a x | .error _ => [] from if_pos rfl)
  generalize numS s.data.toList (a, 0) = S at *
  generalize numT s.data.toList (a, 0) = T at *
  go_enter Try.func57, Try.ntmps57
  go_wp2_with fail
  clear c0 c1 c2 f1 f2
  go_loopw [44] (fun _ wr => ∃ k : Nat, a ≤ k ∧ k ≤ s.size ∧ RdAt wr B s k 0 ∧ Turn B w wr ∧ Hid (runL 1 (s.data.toList.drop a) + a = k + runL 1 (s.data.toList.drop k)) ∧ Hid (a + 2 ≤ k → ¬ s.data.toList[a]? = some 48)) (fun _ wr => s.size - rplace wr B)
  case atStart => exact ⟨a, by omega, by omega, H.out, Turn.refl _ _, by show _ = _; omega, by intro h; omega⟩
  case round =>
    obtain ⟨k, hak, hk, R, HTu, HR, HZ⟩ := hrel
    obtain ⟨c0, c1, c2, f1, f2⟩ := R.seen
    have HRd := hide R
    have HM := hide (fun n => rmore_any B s k 0 (wr.drewN n) (R.drewN n))
    clear R
    have hend : ∀ w3 : World, runL 1 (s.data.toList.drop k) = 0 → a < k → S = (k, 0) ∧ T = seg s.data.toList a k := by
      intro _ h0 hlt
      have h1 := HR.out
      have := numR_ok s.data.toList a (by omega) (fun h => HZ.out (by omega))
      rw [show a + runL 1 (s.data.toList.drop a) = k by omega] at this
      rw [HS.out, HT.out, this]
      exact ⟨rfl, rfl⟩
    have hnone : runL 1 (s.data.toList.drop k) = 0 → a = k → S = (a, misL s.size a) ∧ T = [] := by
      intro h0 hlt
      subst hlt
      have := numR_none s.data.toList a h0
      rw [HS.out, HT.out, this, len_data]
      exact ⟨rfl, rfl⟩
    by_cases hl : k < s.size
    · rw [show (decide ((0 : Int) = 0) && decide (k < s.size)) = true by simp [hl]] at HM
      have HC := hide (fun n => rdigit_any s[k] (wr.drewN n))
      cases hc : isC (s[k].toNat : Int) 1
      · rw [hc] at HC
        have h0 := runL_miss 1 s k hl hc
        by_cases hak' : a = k
        · have hE := hide (hnone h0 hak')
          subst hak'
          clear hend hnone h0 hc
          go_wp2_with fail
          go_quiet ((first | (go_at_call 61; exact Calls.quiet_of (HM.out _)) | (go_at_call 84; exact Calls.quiet_of_same (HC.out _))))
          go_wp2_with fail
          refine (rnone_any B s a 0 _ (HRd.out.drewN _) ha).mono ?_
          rintro r w1 ⟨rfl, h1, t1⟩
          rw [rerr_0] at h1
          have H1 := hide h1
          clear c0 c1 c2 f1 f2
          obtain ⟨c0, c1, c2, f1, f2⟩ := h1.seen
          clear h1
          go_wp2_with fail
          go_quiet (fail)
          go_wp2_with fail
          go_ret
          rw [hE.out.1, hE.out.2]
          refine ⟨?_, H1.out.drewN _, HTu.trans ((Turn.drewN _ _ _).trans (t1.trans (Turn.drewN _ _ _)))⟩
          exact ret_s rfl
        · have hE := hide (hend wr h0 (by omega))
          clear hend hnone h0 hc
          have hb : ((k : Int) == (a : Int)) = false := by simp; omega
          go_wp2_with fail
          go_quiet ((first | (go_at_call 61; exact Calls.quiet_of (HM.out _)) | (go_at_call 84; exact Calls.quiet_of_same (HC.out _))))
          go_wp2_with fail
          go_quiet (fail)
          go_wp2_with fail
          go_ret
          rw [hE.out.1, hE.out.2]
          refine ⟨?_, (HRd.out.drewN _).drewN _, HTu.trans ((Turn.drewN _ _ _).trans (Turn.drewN _ _ _))⟩
          exact ret_s (by rw [extract_seg])
      · rw [hc] at HC
        have HH := hide (runL_hit 1 s k hl hc)
        clear hc hend hnone
        have hal : a < s.size := by omega
        have H48 := hide (byte_48 s a hal)
        by_cases hz : k = a + 1
        · by_cases h48 : (s[a].toNat : Int) = 48
          · have hE : Hid (S = (k, 14) ∧ T = []) := by
              have h1 := HR.out
              have h2 := HH.out
              have := numR_zero s.data.toList a (by omega) (H48.out.2 h48)
              rw [HS.out, HT.out, this, hz]
              exact ⟨rfl, rfl⟩
            have hb : ((k : Int) == (a : Int) + 1) = true := by simp; omega
            have hb' : ((s[a].toNat : Int) == 48) = true := by simpa using h48
            clear hz h48
            go_wp2_with fail
            go_quiet ((first | (go_at_call 61; exact Calls.quiet_of (HM.out _)) | (go_at_call 84; exact Calls.quiet_of_same (HC.out _))))
            go_wp2_with fail
            refine (rwrong_any B s k 0 14 _ (HRd.out.drewN _)).mono ?_
            rintro r w1 ⟨rfl, h1, t1⟩
            go_wp2_with fail
            go_ret
            rw [hE.out.1, hE.out.2]
            rw [rerr_0] at h1
            exact ⟨rfl, h1, HTu.trans ((Turn.drewN _ _ _).trans t1)⟩
          · have hb : ((k : Int) == (a : Int) + 1) = true := by simp; omega
            have hb' : ((s[a].toNat : Int) == 48) = false := by simpa using h48
            have HN := hide (fun h => h48 (H48.out.1 h))
            clear hz h48
            go_wp2_with fail
            go_quiet ((first | (go_at_call 61; exact Calls.quiet_of (HM.out _)) | (go_at_call 84; exact Calls.quiet_of_same (HC.out _))))
            go_wp2_with fail
            go_roundw
            case rel => exact ⟨k + 1, by omega, by omega, (HRd.out.drewN _).step, HTu.trans ((Turn.drewN _ _ _).trans (Turn.set _ _ _ _)), by show _ = _; have := HR.out; have := HH.out; omega, fun _ => HN.out⟩
            case measure => rw [(HRd.out.drewN _).step.rplace, HRd.out.rplace]; omega
        · have hb : ((k : Int) == (a : Int) + 1) = false := by simp; omega
          have HN := hide (show a + 2 ≤ k + 1 → ¬ s.data.toList[a]? = some 48 from fun h => HZ.out (by omega))
          clear hz
          go_wp2_with fail
          go_quiet ((first | (go_at_call 61; exact Calls.quiet_of (HM.out _)) | (go_at_call 84; exact Calls.quiet_of_same (HC.out _))))
          go_wp2_with fail
          go_roundw
          case rel => exact ⟨k + 1, by omega, by omega, (HRd.out.drewN _).step, HTu.trans ((Turn.drewN _ _ _).trans (Turn.set _ _ _ _)), by show _ = _; have := HR.out; have := HH.out; omega, HN.out⟩
          case measure => rw [(HRd.out.drewN _).step.rplace, HRd.out.rplace]; omega
    · rw [show (decide ((0 : Int) = 0) && decide (k < s.size)) = false by simp [hl]] at HM
      have h0 := runL_end 1 s k (by omega)
      by_cases hak' : a = k
      · have hE := hide (hnone h0 hak')
        subst hak'
        clear hend hnone h0
        go_wp2_with fail
        go_quiet ((go_at_call 61; exact Calls.quiet_of (HM.out _)))
        go_wp2_with fail
        refine (rnone_any B s a 0 _ (HRd.out.drewN _) ha).mono ?_
        rintro r w1 ⟨rfl, h1, t1⟩
        rw [rerr_0] at h1
        have H1 := hide h1
        clear c0 c1 c2 f1 f2
        obtain ⟨c0, c1, c2, f1, f2⟩ := h1.seen
        clear h1
        go_wp2_with fail
        go_quiet (fail)
        go_wp2_with fail
        go_ret
        rw [hE.out.1, hE.out.2]
        refine ⟨?_, H1.out.drewN _, HTu.trans ((Turn.drewN _ _ _).trans (t1.trans (Turn.drewN _ _ _)))⟩
        exact ret_s rfl
      · have hE := hide (hend wr h0 (by omega))
        clear hend hnone h0
        have hb : ((k : Int) == (a : Int)) = false := by simp; omega
        go_wp2_with fail
        go_quiet ((go_at_call 61; exact Calls.quiet_of (HM.out _)))
        go_wp2_with fail
        go_quiet (fail)
        go_wp2_with fail
        go_ret
        rw [hE.out.1, hE.out.2]
        refine ⟨?_, (HRd.out.drewN _).drewN _, HTu.trans ((Turn.drewN _ _ _).trans (Turn.drewN _ _ _))⟩
        exact ret_s (by rw [extract_seg])

theorem rNumber_any (B : Nat) (s : ByteArray) (a : Nat) (e : Int) (w : World) (h : RdAt w B s a e) (ha : a ≤ s.size) (hs : s.size ≤ 64) :
    Calls Try.prog 57 #[.pointer (some ⟨B, 0, none⟩)] w fun r w' => r = .returned (.string (ofL (numT s.data.toList (a, e)))) ∧ RdAt w' B s (numS s.data.toList (a, e)).1 (numS s.data.toList (a, e)).2 ∧ Turn B w w' := by
  by_cases he : e = 0
  · subst he
    exact rNumber_ok B s a w h ha hs
  · have HS := hide (show numS s.data.toList (a, e) = (a, e) from if_neg he)
    have HT := hide (show numT s.data.toList (a, e) = [] from if_neg he)
    generalize numS s.data.toList (a, e) = S at *
    generalize numT s.data.toList (a, e) = T at *
    obtain ⟨c0, c1, c2, f1, f2⟩ := h.seen
    have H := hide h
    clear h
    have hb : (e == 0) = false := by simpa using he
    have HM := hide (fun n => rmore_any B s a e (w.drewN n) (H.out.drewN n))
    rw [show (decide (e = 0) && decide (a < s.size)) = false by simp [he]] at HM
    clear he
    go_enter Try.func57, Try.ntmps57
    go_wp2_with fail
    go_loopw [44] (fun _ wr => wr = w) (fun _ wr => 0)
    case atStart => rfl
    case round =>
      subst hrel
      go_wp2_with fail
      go_quiet ((go_at_call 61; exact Calls.quiet_of (HM.out _)))
      go_wp2_with fail
      go_quiet (fail)
      go_wp2_with fail
      go_ret
      rw [HS.out, HT.out]
      refine ⟨?_, (H.out.drewN _).drewN _, ((Turn.drewN _ _ _).trans (Turn.drewN _ _ _))⟩
      exact ret_s rfl

end Go.Proofs.Ytkngmgdcnplkgaa
