/-
  Walks: strings.Cut at "!", strings.IndexByte, strings.HasPrefix; marks, digits, an epoch.
-/
import Derived.Test.YtagnikhkmaplpaaGreatPa
import Derived.WalkSmall
namespace Go.Proofs.YtagnikhkmaplpaaGreat
open Go.RowKit Go.Shelf
set_option linter.unusedVariables false

/-- Does a "!" stand there? -/
def hasB (l : List UInt8) : Bool := decide (Lib.indexByte l 33 ≠ -1)
/-- What stands ahead of the first "!". -/
def cutB (l : List UInt8) : List UInt8 := l.takeWhile (fun c => c != 33)
theorem cutB_none : ∀ l : List UInt8, Lib.indexByte l 33 = -1 → cutB l = l
  | [], _ => rfl
  | c :: r, h => by
    unfold Lib.indexByte at h
    by_cases hc : (c == 33) = true
    · rw [if_pos hc] at h; cases h
    · rw [if_neg hc] at h
      by_cases hi : (Lib.indexByte r 33 == -1) = true
      · have := cutB_none r (by simpa using hi)
        unfold cutB at *
        rw [List.takeWhile_cons, if_pos (by simpa [bne] using hc), this]
      · rw [if_neg hi] at h
        have := Lib.indexByte_ge r 33
        have hi' : ¬ Lib.indexByte r 33 = -1 := by simpa using hi
        omega
theorem cutB_some : ∀ (l : List UInt8) (i : Nat), Lib.indexByte l 33 = i → cutB l = l.take i ∧ i < l.length
  | [], i, h => by have h' : (-1 : Int) = i := h; omega
  | c :: r, i, h => by
    unfold Lib.indexByte at h
    by_cases hc : (c == 33) = true
    · rw [if_pos hc] at h
      have : i = 0 := by omega
      subst this
      refine ⟨?_, by simp⟩
      unfold cutB
      rw [List.takeWhile_cons, if_neg (by simpa [bne] using hc)]
      rfl
    · rw [if_neg hc] at h
      by_cases hi : (Lib.indexByte r 33 == -1) = true
      · rw [if_pos hi] at h; omega
      · rw [if_neg hi] at h
        have hi' : ¬ Lib.indexByte r 33 = -1 := by simpa using hi
        have hge := Lib.indexByte_ge r 33
        obtain ⟨j, hj⟩ := Int.eq_ofNat_of_zero_le (show 0 ≤ Lib.indexByte r 33 by omega)
        obtain ⟨h1, h2⟩ := cutB_some r j hj
        have : i = j + 1 := by omega
        subst this
        refine ⟨?_, by simp; omega⟩
        unfold cutB at *
        rw [List.takeWhile_cons, if_pos (by simpa [bne] using hc), h1]
        rfl

set_option maxRecDepth 100000 in
set_option maxHeartbeats 400000 in
theorem IndexByte_any (s : ByteArray) (c : Int) (w : World) :
    Calls Tryz.prog 116 #[.string s, .int .u8 c] w fun e w' => e = .returned (.int .i64 (Lib.indexByte s.data.toList c.toNat.toUInt8)) ∧ w' = w := by
  go_enter Tryz.func116, Tryz.ntmps116
  go_wp2
  rw [run_callFunc_extern Tryz.func122 (by kernel_rfl) (by kernel_rfl) (by kernel_rfl) (e := Extern.BytealgIndexByte.indexByte) (by kernel_rfl), Lib.run_indexByteString]
  simp only [Result.andThen]
  rw [Oper.upon_value]
  go_wp2
  go_ret
  exact ⟨rfl, rfl⟩

set_option maxRecDepth 100000 in
set_option maxHeartbeats 400000 in
theorem Index_bang (s : ByteArray) (w : World) :
    Calls Tryz.prog 115 #[.string s, .string ⟨#[33]⟩] w fun e w' => e = .returned (.int .i64 (Lib.indexByte s.data.toList 33)) ∧ w' = w := by
  cases h : ([33] == s.toList)
  · go_enter Tryz.func115, Tryz.ntmps115
    go_wp2_with fail
    refine (IndexByte_any _ _ _).mono ?_
    rintro e w' ⟨rfl, rfl⟩
    go_wp2_with fail
    go_ret
    exact ⟨rfl, rfl⟩
  · have e : s.data.toList = [33] := by rw [← toL]; exact (by simpa using h : [33] = s.toList).symm
    have HE := hide e
    clear e
    go_enter Tryz.func115, Tryz.ntmps115
    go_wp2_with fail
    go_ret
    exact ⟨ret_i (by rw [HE.out]; rfl), rfl⟩

set_option maxRecDepth 100000 in
set_option maxHeartbeats 400000 in
theorem Cut_bang (s : ByteArray) (w : World) (hs : s.size ≤ 64) :
    Calls Tryz.prog 105 #[.string s, .string ⟨#[33]⟩] w fun e w' => (∃ u, e = .returned (.tuple #[.string (ofL (cutB s.data.toList)), u, .bool (hasB s.data.toList)])) ∧ Below w.heap.size w w' := by
  by_cases h : Lib.indexByte s.data.toList 33 = -1
  · have HC := hide (cutB_none _ h)
    have HF : Hid (hasB s.data.toList = false) := by show _ = _; unfold hasB; rw [h]; rfl
    have HI := hide (show ∀ w, _ from fun w => Index_bang s w)
    go_enter Tryz.func105, Tryz.ntmps105
    go_wp2_with fail
    refine (HI.out _).mono ?_
    rintro e w' ⟨rfl, rfl⟩
    rw [h]
    go_wp2_with fail
    go_ret3
    exact ⟨⟨_, by rw [HC.out, ofL_self, HF.out]; rfl⟩, Below.refl _ _⟩
  · have hge := Lib.indexByte_ge s.data.toList 33
    obtain ⟨i, hi⟩ := Int.eq_ofNat_of_zero_le (show 0 ≤ Lib.indexByte s.data.toList 33 by omega)
    obtain ⟨hc, hlt⟩ := cutB_some _ i hi
    rw [len_data] at hlt
    have HC : Hid (ofL (cutB s.data.toList) = s.extract 0 i) := by show _ = _; rw [hc, extract_ofL]; simp
    have HI := hide (show ∀ w, _ from fun w => Index_bang s w)
    have HF : Hid (hasB s.data.toList = true) := by show _ = _; unfold hasB; simpa using h
    clear h hge hc
    have hlt' : (i : Int) < (s.size : Int) := by omega
    have h0 : (0 : Int) ≤ (i : Int) := by omega
    go_enter Tryz.func105, Tryz.ntmps105
    go_wp2_with fail
    refine (HI.out _).mono ?_
    rintro e w' ⟨rfl, rfl⟩
    rw [hi]
    go_wp2_with fail
    go_quiet (fail)
    go_wp2_with fail
    go_ret3
    exact ⟨⟨_, by rw [HC.out, HF.out]; rfl⟩, below_drewN _ _ _⟩

set_option maxHeartbeats 400000 in
theorem CutS_bang (s : ByteArray) (w : World) (hs : s.size ≤ 64) :
    Calls Tryz.prog 88 #[.string s, .string ⟨#[33]⟩] w fun e w' => (∃ u, e = .returned (.tuple #[.string (ofL (cutB s.data.toList)), u, .bool (hasB s.data.toList)])) ∧ Below w.heap.size w w' := by
  go_enter Tryz.func88, Tryz.ntmps88
  go_wp2_with fail
  refine (Cut_bang s _ hs).mono ?_
  rintro e w1 ⟨⟨u, rfl⟩, b1⟩
  go_wp2_with fail
  go_ret3
  exact ⟨⟨u, rfl⟩, b1⟩


theorem IndexByteS_any (s : ByteArray) (c : Int) (w : World) :
    Calls Tryz.prog 107 #[.string s, .int .u8 c] w fun e w' => e = .returned (.int .i64 (Lib.indexByte s.data.toList c.toNat.toUInt8)) ∧ w' = w := by
  go_enter Tryz.func107, Tryz.ntmps107
  go_wp2_with fail
  refine (IndexByte_any _ _ _).mono ?_
  rintro e w' ⟨rfl, rfl⟩
  go_wp2_with fail
  go_ret
  exact ⟨rfl, rfl⟩

/-- Does a text begin so? -/
def pfxB (s p : List UInt8) : Bool := p.isPrefixOf s
theorem pfx_take (s p : List UInt8) (h : p.length ≤ s.length) : pfxB s p = decide (s.take p.length = p) := by
  unfold pfxB
  rw [Bool.eq_iff_iff, List.isPrefixOf_iff_prefix, decide_eq_true_eq]
  exact ⟨fun h => (List.prefix_iff_eq_take.1 h).symm, fun h => List.prefix_iff_eq_take.2 h.symm⟩
theorem pfx_long (s p : List UInt8) (h : ¬ p.length ≤ s.length) : pfxB s p = false := by
  unfold pfxB
  rw [Bool.eq_false_iff]
  intro h'
  exact h (List.isPrefixOf_iff_prefix.1 h').length_le
set_option maxHeartbeats 400000 in
theorem HasPrefixL_any (s p : ByteArray) (w : World) (hs : s.size ≤ maxLen) (hp : p.size ≤ maxLen) :
    Calls Tryz.prog 104 #[.string s, .string p] w fun e w' => e = .returned (.bool (pfxB s.data.toList p.data.toList)) ∧ w' = w := by
  unfold maxLen at hs hp
  by_cases hl : p.size ≤ s.size
  · have HP := hide (pfx_take s.data.toList p.data.toList (by rw [len_data, len_data]; exact hl))
    have h1 : (p.size : Int) ≤ (s.size : Int) := by omega
    have h0 : (0 : Int) ≤ (p.size : Int) := by omega
    generalize pfxB s.data.toList p.data.toList = D at *
    have HE : Hid (s.extract 0 p.size = p ↔ D = true) := by
      show _ ↔ _
      rw [HP.out, decide_eq_true_eq, len_data]
      constructor
      · intro h
        have := congrArg (fun b : ByteArray => b.data.toList) h
        rw [extract_ofL] at this
        simpa [ofL] using this
      · intro h
        apply ba_ext
        rw [extract_ofL, ofL_data]
        simpa using h
    by_cases he : s.extract 0 p.size = p
    · have hD := HE.out.1 he
      subst hD
      go_enter Tryz.func104, Tryz.ntmps104
      go_wp2_with fail
      go_ret
      exact ⟨ret_b (by simp), rfl⟩
    · have hD : D = false := by
        cases hd : D
        · rfl
        · exact absurd (HE.out.2 hd) he
      subst hD
      go_enter Tryz.func104, Tryz.ntmps104
      go_wp2_with fail
      go_ret
      refine ⟨ret_b ?_, rfl⟩
      rw [toL, toL, beq_eq_false_iff_ne]
      exact fun h => he (ba_ext h)
  · have HP := hide (pfx_long s.data.toList p.data.toList (by rw [len_data, len_data]; exact hl))
    have h1 : ¬ (p.size : Int) ≤ (s.size : Int) := by omega
    go_enter Tryz.func104, Tryz.ntmps104
    go_wp2_with fail
    go_ret
    exact ⟨by rw [HP.out]; rfl, rfl⟩

theorem HasPrefix_any (s p : ByteArray) (w : World) (hs : s.size ≤ maxLen) (hp : p.size ≤ maxLen) :
    Calls Tryz.prog 86 #[.string s, .string p] w fun e w' => e = .returned (.bool (pfxB s.data.toList p.data.toList)) ∧ w' = w := by
  go_enter Tryz.func86, Tryz.ntmps86
  go_wp2_with fail
  refine (HasPrefixL_any _ _ _ hs hp).mono ?_
  rintro e w' ⟨rfl, rfl⟩
  go_wp2_with fail
  go_ret
  exact ⟨rfl, rfl⟩

theorem mark_at (s : ByteArray) (a : Nat) (h : a < s.size) : markL s.data.toList a = if isMark s[a] then a + 1 else a := by
  unfold markL
  rw [List.getElem?_eq_getElem (by rw [len_data]; exact h)]
  rfl
theorem mark_end (s : ByteArray) (a : Nat) (h : ¬ a < s.size) : markL s.data.toList a = a := by
  unfold markL
  rw [List.getElem?_eq_none (by rw [len_data]; omega)]
  rfl
theorem mark_le (l : List UInt8) (a : Nat) (h : a ≤ l.length) : a ≤ markL l a ∧ markL l a ≤ l.length ∧ markL l a ≤ a + 1 := by
  unfold markL
  by_cases hl : a < l.length
  · split <;> omega
  · rw [List.getElem?_eq_none (by omega)]
    simp
    omega
theorem mark_byte (c : UInt8) : (0 ≤ Lib.indexByte [45, 95, 46] c) ↔ isMark c = true := by
  unfold isMark Lib.indexByte
  by_cases h1 : (45 == c) = true
  · obtain rfl : 45 = c := by simpa using h1
    simp
  · rw [if_neg h1]
    unfold Lib.indexByte
    by_cases h2 : (95 == c) = true
    · obtain rfl : 95 = c := by simpa using h2
      simp
    · rw [if_neg h2]
      unfold Lib.indexByte
      by_cases h3 : (46 == c) = true
      · obtain rfl : 46 = c := by simpa using h3
        simp
      · rw [if_neg h3]
        have e1 : (c == 45) = false := by rw [beq_eq_false_iff_ne]; rintro rfl; exact h1 rfl
        have e2 : (c == 95) = false := by rw [beq_eq_false_iff_ne]; rintro rfl; exact h2 rfl
        have e3 : (c == 46) = false := by rw [beq_eq_false_iff_ne]; rintro rfl; exact h3 rfl
        rw [e1, e2, e3]
        simp [Lib.indexByte]

set_option maxHeartbeats 1000000 in
theorem behindMark_any (B : Nat) (s : ByteArray) (a : Nat) (w : World) (h : RdAt w B s a) (hs : s.size ≤ 64) :
    Calls Tryz.prog 108 #[.pointer (some ⟨B, 0, none⟩)] w fun r w' => r = .returned (.int .i64 (markL s.data.toList a : Int)) ∧ ∃ n, w' = w.drewN n := by
  obtain ⟨c0, c1, f1⟩ := h.seen
  clear h
  by_cases hl : a < s.size
  · have hI := fun n => IndexByteS_any ⟨#[45, 95, 46]⟩ (s[a].toNat : Int) (w.drewN n)
    have hc : ((s[a].toNat : Int)).toNat.toUInt8 = s[a] := by simp
    rw [hc] at hI
    have HM := hide (mark_at s a hl)
    have hB : (0 ≤ Lib.indexByte (⟨#[45, 95, 46]⟩ : ByteArray).data.toList s[a]) ↔ isMark s[a] = true := mark_byte s[a]
    have HI := hide hI
    clear hI hc
    generalize Lib.indexByte (⟨#[45, 95, 46]⟩ : ByteArray).data.toList s[a] = x at *
    cases hm : isMark s[a]
    · rw [hm] at hB HM
      have hn : ¬ 0 ≤ x := fun h => by have := hB.1 h; cases this
      clear hB hm
      go_enter Tryz.func108, Tryz.ntmps108
      go_wp2_with fail
      go_quiet ((go_at_call 107; exact Calls.quiet_of_same (HI.out _)))
      go_wp2_with fail
      go_ret
      exact ⟨by rw [HM.out, if_neg (by simp)]; rfl, _, rfl⟩
    · rw [hm] at hB HM
      have hn : 0 ≤ x := hB.2 rfl
      clear hB hm
      go_enter Tryz.func108, Tryz.ntmps108
      go_wp2_with fail
      go_quiet ((go_at_call 107; exact Calls.quiet_of_same (HI.out _)))
      go_wp2_with fail
      go_ret
      exact ⟨ret_i (by rw [HM.out]; simp), _, rfl⟩
  · have HM := hide (mark_end s a hl)
    go_enter Tryz.func108, Tryz.ntmps108
    go_wp2_with fail
    go_quiet (fail)
    go_wp2_with fail
    go_ret
    exact ⟨by rw [HM.out]; rfl, _, rfl⟩

/-- Digits, perhaps behind a mark: where they begin and end. -/
def digE (l : List UInt8) (a : Nat) : Nat := markL l a + runL 1 (l.drop (markL l a))
/-- The digits. -/
def digT (l : List UInt8) (a : Nat) : List UInt8 := seg l (markL l a) (digE l a)
/-- The place behind them; the mark stays, where there are none. -/
def digP (l : List UInt8) (a : Nat) : Nat := if markL l a < digE l a then digE l a else a

set_option maxHeartbeats 1000000 in
theorem digits_any (B : Nat) (s : ByteArray) (a : Nat) (w : World) (h : RdAt w B s a) (ha : a ≤ s.size) (hs : s.size ≤ 64) :
    Calls Tryz.prog 92 #[.pointer (some ⟨B, 0, none⟩)] w fun r w' => r = .returned (.string (ofL (digT s.data.toList a))) ∧ RdAt w' B s (digP s.data.toList a) ∧ Turn B w w' := by
  have M1 := hide (behindMark_any B s a w h hs)
  have H := hide h
  have hm := mark_le s.data.toList a (by rw [len_data]; exact ha)
  rw [len_data] at hm
  have hr := runL_drop_le 1 s (markL s.data.toList a) hm.2.1
  have HR := hide (runI_in s (markL s.data.toList a) 1 hm.2.1)
  have HE : Hid (digE s.data.toList a = markL s.data.toList a + runL 1 (s.data.toList.drop (markL s.data.toList a))) := rfl
  have HT : Hid (ofL (digT s.data.toList a) = s.extract (markL s.data.toList a) (digE s.data.toList a)) := by show _ = _; rw [extract_seg]; rfl
  have HP : Hid (digP s.data.toList a = if markL s.data.toList a < digE s.data.toList a then digE s.data.toList a else a) := rfl
  generalize digP s.data.toList a = P at *
  generalize ofL (digT s.data.toList a) = T at *
  generalize digE s.data.toList a = E at *
  generalize markL s.data.toList a = M at *
  have hE : M ≤ E ∧ E ≤ s.size := by have := HE.out; omega
  have hRI : runI s.data.toList (M : Int) 1 = (E : Int) := by rw [HR.out, HE.out]; simp
  have R1 := hide (fun W => Run_any s (M : Int) 1 W (by unfold maxLen; omega))
  rw [hRI] at R1
  clear hRI hr HR HE hm h
  obtain ⟨hE1, hE2⟩ := hE
  have i0 : (0 : Int) ≤ (M : Int) := Int.natCast_nonneg _
  have i1 : (M : Int) ≤ (E : Int) := by omega
  have i2 : (E : Int) ≤ (s.size : Int) := by omega
  go_enter Tryz.func92, Tryz.ntmps92
  go_wp2_with fail
  refine M1.out.mono ?_
  rintro r w1 ⟨rfl, n1, rfl⟩
  obtain ⟨c0, c1, f1⟩ := H.out.seen
  go_wp2_with fail
  refine (R1.out _).mono ?_
  rintro r w2 ⟨rfl, rfl⟩
  by_cases hlt : M < E
  · have hlt' : (M : Int) < (E : Int) := by omega
    have hP := HP.out.trans (if_pos hlt)
    subst hP
    go_wp2_with fail
    go_ret
    exact ⟨ret_s HT.out.symm, (H.out.drewN _).place _, (Turn.drewN _ _ _).trans (Turn.set _ _ _ _)⟩
  · have hlt' : ¬ (M : Int) < (E : Int) := by omega
    have hP := HP.out.trans (if_neg hlt)
    subst hP
    go_wp2_with fail
    go_ret
    exact ⟨ret_s HT.out.symm, H.out.drewN _, Turn.drewN _ _ _⟩

end Go.Proofs.YtagnikhkmaplpaaGreat
