/-
  Walks: a sign that is skipped, the epoch.
-/
import Derived.Test.YtagnikhkmaplpaaGreatPb
namespace Go.Proofs.YtagnikhkmaplpaaGreat
open Go.RowKit Go.Shelf
set_option linter.unusedVariables false

/-- The place behind a sign, if it stands. -/
def skipP (l : List UInt8) (a : Nat) (p : List UInt8) : Nat := if pfxB (l.drop a) p then a + p.length else a
theorem skip_le (l : List UInt8) (a : Nat) (p : List UInt8) (h : a ≤ l.length) : a ≤ skipP l a p ∧ skipP l a p ≤ l.length := by
  unfold skipP
  split
  · rename_i hp
    have := (List.isPrefixOf_iff_prefix.1 hp).length_le
    rw [List.length_drop] at this
    omega
  · omega

set_option maxHeartbeats 1000000 in
theorem skip_any (B : Nat) (s p : ByteArray) (a : Nat) (w : World) (h : RdAt w B s a) (ha : a ≤ s.size) (hs : s.size ≤ 64) (hp : p.size ≤ 64) :
    Calls Tryz.prog 54 #[.pointer (some ⟨B, 0, none⟩), .string p] w fun r w' => r = .returned (.bool (pfxB (s.data.toList.drop a) p.data.toList)) ∧ RdAt w' B s (skipP s.data.toList a p.data.toList) ∧ Turn B w w' := by
  have R1 := hide (rest_any B s a w h ha)
  have H := hide h
  have P1 := hide (fun W => HasPrefix_any (ofL (s.data.toList.drop a)) p W (by rw [ofL_size, List.length_drop, len_data]; unfold maxLen; omega) (by unfold maxLen; omega))
  rw [ofL_data] at P1
  have HS : Hid (skipP s.data.toList a p.data.toList = if pfxB (s.data.toList.drop a) p.data.toList then a + p.size else a) := by show _ = _; unfold skipP; rw [len_data]
  generalize skipP s.data.toList a p.data.toList = X at *
  generalize pfxB (s.data.toList.drop a) p.data.toList = D at *
  generalize ofL (s.data.toList.drop a) = T at *
  obtain ⟨c0, c1, f1⟩ := h.seen
  clear h
  cases D
  · have hX := HS.out.trans (if_neg (by simp))
    subst hX
    go_enter Tryz.func54, Tryz.ntmps54
    go_wp2_with fail
    refine R1.out.mono ?_
    rintro r w1 ⟨rfl, n1, rfl⟩
    go_wp2_with fail
    refine (P1.out _).mono ?_
    rintro r w2 ⟨rfl, rfl⟩
    go_wp2_with fail
    go_ret
    exact ⟨rfl, H.out.drewN _, Turn.drewN _ _ _⟩
  · have hX := HS.out.trans (if_pos rfl)
    subst hX
    go_enter Tryz.func54, Tryz.ntmps54
    go_wp2_with fail
    refine R1.out.mono ?_
    rintro r w1 ⟨rfl, n1, rfl⟩
    go_wp2_with fail
    refine (P1.out _).mono ?_
    rintro r w2 ⟨rfl, rfl⟩
    go_wp2_with fail
    go_ret
    exact ⟨rfl, (H.out.drewN _).place (a + p.size), (Turn.drewN _ _ _).trans (Turn.set _ _ _ _)⟩

/-- Does an epoch stand there? -/
def epoB (l : List UInt8) (a : Nat) : Bool := hasB (l.drop a) && digB (cutB (l.drop a))
/-- The epoch. -/
def epoT (l : List UInt8) (a : Nat) : List UInt8 := if epoB l a then trimL (cutB (l.drop a)) else [48]
/-- The place behind it. -/
def epoP (l : List UInt8) (a : Nat) : Nat := if epoB l a then a + ((cutB (l.drop a)).length + 1) else a
theorem epo_le (l : List UInt8) (a : Nat) (h : a ≤ l.length) : a ≤ epoP l a ∧ epoP l a ≤ l.length := by
  unfold epoP
  split
  · rename_i he
    unfold epoB hasB at he
    simp only [Bool.and_eq_true, decide_eq_true_eq] at he
    have hge := Lib.indexByte_ge (l.drop a) 33
    obtain ⟨i, hi⟩ := Int.eq_ofNat_of_zero_le (show 0 ≤ Lib.indexByte (l.drop a) 33 by have := he.1; omega)
    obtain ⟨h1, h2⟩ := cutB_some _ i hi
    rw [h1, List.length_take]
    rw [List.length_drop] at h2 ⊢
    omega
  · omega
theorem cutB_len (l : List UInt8) : (cutB l).length ≤ l.length := (List.takeWhile_prefix _).length_le

set_option maxHeartbeats 1000000 in
theorem epoch_any (B : Nat) (s : ByteArray) (a : Nat) (w : World) (h : RdAt w B s a) (ha : a ≤ s.size) (hs : s.size ≤ 64) :
    Calls Tryz.prog 55 #[.pointer (some ⟨B, 0, none⟩)] w fun r w' => r = .returned (.string (ofL (epoT s.data.toList a))) ∧ RdAt w' B s (epoP s.data.toList a) ∧ Turn B w w' := by
  have hB := h.lt
  have R1 := hide (rest_any B s a w h ha)
  have H := hide h
  have hcl := cutB_len (s.data.toList.drop a)
  rw [List.length_drop, len_data] at hcl
  have C1 := hide (fun W => CutS_bang (ofL (s.data.toList.drop a)) W (by rw [ofL_size, List.length_drop, len_data]; omega))
  rw [ofL_data] at C1
  have D1 := hide (fun W => isDigits_any (ofL (cutB (s.data.toList.drop a))) W (by rw [ofL_size]; unfold maxLen; omega))
  rw [ofL_data] at D1
  have T1 := hide (fun W => Trim_any (ofL (cutB (s.data.toList.drop a))) W (by rw [ofL_size]; unfold maxLen; omega))
  rw [ofL_data] at T1
  have HB : Hid (epoB s.data.toList a = (hasB (s.data.toList.drop a) && digB (cutB (s.data.toList.drop a)))) := rfl
  have HT : Hid (epoT s.data.toList a = if epoB s.data.toList a then trimL (cutB (s.data.toList.drop a)) else [48]) := rfl
  have HP : Hid (epoP s.data.toList a = if epoB s.data.toList a then a + ((cutB (s.data.toList.drop a)).length + 1) else a) := rfl
  have hsz := ofL_size (cutB (s.data.toList.drop a))
  generalize epoT s.data.toList a = ET at *
  generalize epoP s.data.toList a = EP at *
  generalize epoB s.data.toList a = EB at *
  generalize hasB (s.data.toList.drop a) = hb at *
  generalize digB (cutB (s.data.toList.drop a)) = db at *
  generalize trimL (cutB (s.data.toList.drop a)) = TT at *
  generalize ofL (cutB (s.data.toList.drop a)) = CC at *
  generalize (cutB (s.data.toList.drop a)).length = cl at *
  generalize ofL (s.data.toList.drop a) = RR at *
  clear h
  cases hb
  · have he : EB = false := HB.out
    have hT := HT.out
    have hP := HP.out
    rw [he, if_neg (by simp)] at hT hP
    subst hT
    subst hP
    go_enter Tryz.func55, Tryz.ntmps55
    go_wp2_with fail
    refine R1.out.mono ?_
    rintro r w1 ⟨rfl, n1, hw1⟩
    have H1 := hide (H.out.drewN n1)
    have t1 := Turn.drewN B w n1
    rw [← hw1] at H1 t1
    clear hw1
    go_wp2_with fail
    refine (C1.out _).mono ?_
    rintro r w2 ⟨⟨u, rfl⟩, b2⟩
    have H2 := hide (H1.out.below b2)
    have t2 := t1.trans (Turn.ofBelow b2)
    obtain ⟨c0, c1, f1⟩ := H2.out.seen

    go_wp2_with fail
    go_ret
    exact ⟨rfl, H2.out, t2⟩
  · cases db
    · have he : EB = false := HB.out
      have hT := HT.out
      have hP := HP.out
      rw [he, if_neg (by simp)] at hT hP
      subst hT
      subst hP
      go_enter Tryz.func55, Tryz.ntmps55
      go_wp2_with fail
      refine R1.out.mono ?_
      rintro r w1 ⟨rfl, n1, hw1⟩
      have H1 := hide (H.out.drewN n1)
      have t1 := Turn.drewN B w n1
      rw [← hw1] at H1 t1
      clear hw1
      go_wp2_with fail
      refine (C1.out _).mono ?_
      rintro r w2 ⟨⟨u, rfl⟩, b2⟩
      have H2 := hide (H1.out.below b2)
      have t2 := t1.trans (Turn.ofBelow b2)
      obtain ⟨c0, c1, f1⟩ := H2.out.seen

      go_wp2_with fail
      refine (D1.out _).mono ?_
      rintro r w3 ⟨rfl, hw3⟩
      rw [hw3]
      clear hw3 w3
      go_wp2_with fail
      go_ret
      exact ⟨rfl, H2.out, t2⟩
    · have he : EB = true := HB.out
      have hT := HT.out
      have hP := HP.out
      rw [he, if_pos rfl] at hT hP
      subst hP
      go_enter Tryz.func55, Tryz.ntmps55
      go_wp2_with fail
      refine R1.out.mono ?_
      rintro r w1 ⟨rfl, n1, hw1⟩
      have H1 := hide (H.out.drewN n1)
      have t1 := Turn.drewN B w n1
      rw [← hw1] at H1 t1
      clear hw1
      go_wp2_with fail
      refine (C1.out _).mono ?_
      rintro r w2 ⟨⟨u, rfl⟩, b2⟩
      have H2 := hide (H1.out.below b2)
      have t2 := t1.trans (Turn.ofBelow b2)
      obtain ⟨c0, c1, f1⟩ := H2.out.seen

      go_wp2_with fail
      refine (D1.out _).mono ?_
      rintro r w3 ⟨rfl, hw3⟩
      rw [hw3]
      clear hw3 w3
      go_wp2_with fail
      refine (T1.out _).mono ?_
      rintro r w4 ⟨rfl, hw4⟩
      rw [hw4]
      clear hw4 w4
      go_wp2_with fail
      go_ret
      exact ⟨by rw [hT]; rfl, H2.out.place (a + (cl + 1)), t2.trans (Turn.set _ _ _ _)⟩

end Go.Proofs.YtagnikhkmaplpaaGreat
