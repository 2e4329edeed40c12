/-
  Walks: strings.Cut at "!", strings.IndexByte, strings.HasPrefix; marks, digits, an epoch. · Walks: a sign that is skipped, the epoch. · Walks: the iterator that tries words one behind the other.
-/
import Derived.WalkSmall
import Derived.Test.YtabmfdedbpmfmaaGreatSGe
import Derived.RangeFuncNested
import Derived.RangeFuncBound
import Derived.RangeFuncCalls
import Derived.RangeFuncLeaves
import Derived.Shelf.Abstract
import Derived.Shelf.RegionOpen
import Derived.OwnWalkIn
import Derived.TacticsInMore
import Derived.LoopNIn
import Derived.LoopIn
import Derived.Sort.QuietIn
namespace Go.Proofs.YtabmfdedbpmfmaaGreat
open Go.RowKit Go.Shelf
set_option linter.unusedVariables false

def hasB (l : List UInt8) : Bool := decide (Lib.indexByte l 33 ≠ -1)
def cutB (l : List UInt8) : List UInt8 := l.takeWhile (fun c => c != 33)
theorem cutB_none : ∀ l : List UInt8, Lib.indexByte l 33 = -1 → cutB l = l
  | [], _ => rfl
  | c :: r, h => by
    unfold Lib.indexByte at h
    by_cases hc : (c == 33) = true
    · rw [if_pos hc] at h; cases h
    · rw [if_neg hc] at h
      by_cases hi : (Lib.indexByte r 33 == -1) = true
      · have := cutB_none r (by simpa using hi)
        unfold cutB at *
        rw [List.takeWhile_cons, if_pos (by simpa [bne] using hc), this]
      · rw [if_neg hi] at h
        have := Lib.indexByte_ge r 33
        have hi' : ¬ Lib.indexByte r 33 = -1 := by simpa using hi
        omega
theorem cutB_some : ∀ (l : List UInt8) (i : Nat), Lib.indexByte l 33 = i → cutB l = l.take i ∧ i < l.length
  | [], i, h => by have h' : (-1 : Int) = i := h; omega
  | c :: r, i, h => by
    unfold Lib.indexByte at h
    by_cases hc : (c == 33) = true
    · rw [if_pos hc] at h
      have : i = 0 := by omega
      subst this
      refine ⟨?_, by simp⟩
      unfold cutB
      rw [List.takeWhile_cons, if_neg (by simpa [bne] using hc)]
      rfl
    · rw [if_neg hc] at h
      by_cases hi : (Lib.indexByte r 33 == -1) = true
      · rw [if_pos hi] at h; omega
      · rw [if_neg hi] at h
        have hi' : ¬ Lib.indexByte r 33 = -1 := by simpa using hi
        have hge := Lib.indexByte_ge r 33
        obtain ⟨j, hj⟩ := Int.eq_ofNat_of_zero_le (show 0 ≤ Lib.indexByte r 33 by omega)
        obtain ⟨h1, h2⟩ := cutB_some r j hj
        have : i = j + 1 := by omega
        subst this
        refine ⟨?_, by simp; omega⟩
        unfold cutB at *
        rw [List.takeWhile_cons, if_pos (by simpa [bne] using hc), h1]
        rfl

set_option maxRecDepth 100000 in
set_option maxHeartbeats 400000 in
theorem IndexByte_any (s : ByteArray) (c : Int) (w : World) :
    Calls Tryz.prog 179 #[.string s, .int .u8 c] w fun e w' => e = .returned (.int .i64 (Lib.indexByte s.data.toList c.toNat.toUInt8)) ∧ w' = w := by
  go_enter Tryz.func179, Tryz.ntmps179
  go_wp2
  rw [run_callFunc_extern Tryz.func190 (by kernel_rfl) (by kernel_rfl) (by kernel_rfl) (e := Extern.BytealgIndexByte.indexByte) (by kernel_rfl), Lib.run_indexByteString]
  simp only [Result.andThen]
  rw [Oper.upon_value]
  go_wp2
  go_ret
  exact ⟨rfl, rfl⟩

set_option maxRecDepth 100000 in
set_option maxHeartbeats 400000 in
theorem Index_bang (s : ByteArray) (w : World) :
    Calls Tryz.prog 178 #[.string s, .string ⟨#[33]⟩] w fun e w' => e = .returned (.int .i64 (Lib.indexByte s.data.toList 33)) ∧ w' = w := by
  cases h : ([33] == s.toList)
  · go_enter Tryz.func178, Tryz.ntmps178
    go_wp2_with fail
    refine (IndexByte_any _ _ _).mono ?_
    rintro e w' ⟨rfl, rfl⟩
    go_wp2_with fail
    go_ret
    exact ⟨rfl, rfl⟩
  · have e : s.data.toList = [33] := by rw [← toL]; exact (by simpa using h : [33] = s.toList).symm
    have HE := hide e
    clear e
    go_enter Tryz.func178, Tryz.ntmps178
    go_wp2_with fail
    go_ret
    exact ⟨ret_i (by rw [HE.out]; rfl), rfl⟩

set_option maxRecDepth 100000 in
set_option maxHeartbeats 400000 in
theorem Cut_bang (s : ByteArray) (w : World) (hs : s.size ≤ 64) :
    Calls Tryz.prog 162 #[.string s, .string ⟨#[33]⟩] w fun e w' => (∃ u, e = .returned (.tuple #[.string (ofL (cutB s.data.toList)), u, .bool (hasB s.data.toList)])) ∧ Below w.heap.size w w' := by
  by_cases h : Lib.indexByte s.data.toList 33 = -1
  · have HC := hide (cutB_none _ h)
    have HF : Hid (hasB s.data.toList = false) := by show _ = _; unfold hasB; rw [h]; rfl
    have HI := hide (show ∀ w, _ from fun w => Index_bang s w)
    go_enter Tryz.func162, Tryz.ntmps162
    go_wp2_with fail
    refine (HI.out _).mono ?_
    rintro e w' ⟨rfl, rfl⟩
    rw [h]
    go_wp2_with fail
    go_ret3
    exact ⟨⟨_, by rw [HC.out, ofL_self, HF.out]; rfl⟩, Below.refl _ _⟩
  · have hge := Lib.indexByte_ge s.data.toList 33
    obtain ⟨i, hi⟩ := Int.eq_ofNat_of_zero_le (show 0 ≤ Lib.indexByte s.data.toList 33 by omega)
    obtain ⟨hc, hlt⟩ := cutB_some _ i hi
    rw [len_data] at hlt
    have HC : Hid (ofL (cutB s.data.toList) = s.extract 0 i) := by show _ = _; rw [hc, extract_ofL]; simp
    have HI := hide (show ∀ w, _ from fun w => Index_bang s w)
    have HF : Hid (hasB s.data.toList = true) := by show _ = _; unfold hasB; simpa using h
    clear h hge hc
    have hlt' : (i : Int) < (s.size : Int) := by omega
    have h0 : (0 : Int) ≤ (i : Int) := by omega
    go_enter Tryz.func162, Tryz.ntmps162
    go_wp2_with fail
    refine (HI.out _).mono ?_
    rintro e w' ⟨rfl, rfl⟩
    rw [hi]
    go_wp2_with fail
    go_quiet (fail)
    go_wp2_with fail
    go_ret3
    exact ⟨⟨_, by rw [HC.out, HF.out]; rfl⟩, below_drewN _ _ _⟩

set_option maxHeartbeats 400000 in
theorem CutS_bang (s : ByteArray) (w : World) (hs : s.size ≤ 64) :
    Calls Tryz.prog 141 #[.string s, .string ⟨#[33]⟩] w fun e w' => (∃ u, e = .returned (.tuple #[.string (ofL (cutB s.data.toList)), u, .bool (hasB s.data.toList)])) ∧ Below w.heap.size w w' := by
  go_enter Tryz.func141, Tryz.ntmps141
  go_wp2_with fail
  refine (Cut_bang s _ hs).mono ?_
  rintro e w1 ⟨⟨u, rfl⟩, b1⟩
  go_wp2_with fail
  go_ret3
  exact ⟨⟨u, rfl⟩, b1⟩


theorem IndexByteS_any (s : ByteArray) (c : Int) (w : World) :
    Calls Tryz.prog 164 #[.string s, .int .u8 c] w fun e w' => e = .returned (.int .i64 (Lib.indexByte s.data.toList c.toNat.toUInt8)) ∧ w' = w := by
  go_enter Tryz.func164, Tryz.ntmps164
  go_wp2_with fail
  refine (IndexByte_any _ _ _).mono ?_
  rintro e w' ⟨rfl, rfl⟩
  go_wp2_with fail
  go_ret
  exact ⟨rfl, rfl⟩

def pfxB (s p : List UInt8) : Bool := p.isPrefixOf s
theorem pfx_take (s p : List UInt8) (h : p.length ≤ s.length) : pfxB s p = decide (s.take p.length = p) := by
  unfold pfxB
  rw [Bool.eq_iff_iff, List.isPrefixOf_iff_prefix, decide_eq_true_eq]
  exact ⟨fun h => (List.prefix_iff_eq_take.1 h).symm, fun h => List.prefix_iff_eq_take.2 h.symm⟩
theorem pfx_long (s p : List UInt8) (h : ¬ p.length ≤ s.length) : pfxB s p = false := by
  unfold pfxB
  rw [Bool.eq_false_iff]
  intro h'
  exact h (List.isPrefixOf_iff_prefix.1 h').length_le
set_option maxHeartbeats 400000 in
theorem HasPrefixL_any (s p : ByteArray) (w : World) (hs : s.size ≤ maxLen) (hp : p.size ≤ maxLen) :
    Calls Tryz.prog 161 #[.string s, .string p] w fun e w' => e = .returned (.bool (pfxB s.data.toList p.data.toList)) ∧ w' = w := by
  unfold maxLen at hs hp
  by_cases hl : p.size ≤ s.size
  · have HP := hide (pfx_take s.data.toList p.data.toList (by rw [len_data, len_data]; exact hl))
    have h1 : (p.size : Int) ≤ (s.size : Int) := by omega
    have h0 : (0 : Int) ≤ (p.size : Int) := by omega
    generalize pfxB s.data.toList p.data.toList = D at *
    have HE : Hid (s.extract 0 p.size = p ↔ D = true) := by
      show _ ↔ _
      rw [HP.out, decide_eq_true_eq, len_data]
      constructor
      · intro h
        have := congrArg (fun b : ByteArray => b.data.toList) h
        rw [extract_ofL] at this
        simpa [ofL] using this
      · intro h
        apply ba_ext
        rw [extract_ofL, ofL_data]
        simpa using h
    by_cases he : s.extract 0 p.size = p
    · have hD := HE.out.1 he
      subst hD
      go_enter Tryz.func161, Tryz.ntmps161
      go_wp2_with fail
      go_ret
      exact ⟨ret_b (by simp), rfl⟩
    · have hD : D = false := by
        cases hd : D
        · rfl
        · exact absurd (HE.out.2 hd) he
      subst hD
      go_enter Tryz.func161, Tryz.ntmps161
      go_wp2_with fail
      go_ret
      refine ⟨ret_b ?_, rfl⟩
      rw [toL, toL, beq_eq_false_iff_ne]
      exact fun h => he (ba_ext h)
  · have HP := hide (pfx_long s.data.toList p.data.toList (by rw [len_data, len_data]; exact hl))
    have h1 : ¬ (p.size : Int) ≤ (s.size : Int) := by omega
    go_enter Tryz.func161, Tryz.ntmps161
    go_wp2_with fail
    go_ret
    exact ⟨by rw [HP.out]; rfl, rfl⟩

theorem HasPrefix_any (s p : ByteArray) (w : World) (hs : s.size ≤ maxLen) (hp : p.size ≤ maxLen) :
    Calls Tryz.prog 139 #[.string s, .string p] w fun e w' => e = .returned (.bool (pfxB s.data.toList p.data.toList)) ∧ w' = w := by
  go_enter Tryz.func139, Tryz.ntmps139
  go_wp2_with fail
  refine (HasPrefixL_any _ _ _ hs hp).mono ?_
  rintro e w' ⟨rfl, rfl⟩
  go_wp2_with fail
  go_ret
  exact ⟨rfl, rfl⟩

theorem mark_at (s : ByteArray) (a : Nat) (h : a < s.size) : markL s.data.toList a = if isMark s[a] then a + 1 else a := by
  unfold markL
  rw [List.getElem?_eq_getElem (by rw [len_data]; exact h)]
  rfl
theorem mark_end (s : ByteArray) (a : Nat) (h : ¬ a < s.size) : markL s.data.toList a = a := by
  unfold markL
  rw [List.getElem?_eq_none (by rw [len_data]; omega)]
  rfl
theorem mark_le (l : List UInt8) (a : Nat) (h : a ≤ l.length) : a ≤ markL l a ∧ markL l a ≤ l.length ∧ markL l a ≤ a + 1 := by
  unfold markL
  by_cases hl : a < l.length
  · split <;> omega
  · rw [List.getElem?_eq_none (by omega)]
    simp
    omega
theorem mark_byte (c : UInt8) : (0 ≤ Lib.indexByte [45, 95, 46] c) ↔ isMark c = true := by
  unfold isMark Lib.indexByte
  by_cases h1 : (45 == c) = true
  · obtain rfl : 45 = c := by simpa using h1
    simp
  · rw [if_neg h1]
    unfold Lib.indexByte
    by_cases h2 : (95 == c) = true
    · obtain rfl : 95 = c := by simpa using h2
      simp
    · rw [if_neg h2]
      unfold Lib.indexByte
      by_cases h3 : (46 == c) = true
      · obtain rfl : 46 = c := by simpa using h3
        simp
      · rw [if_neg h3]
        have e1 : (c == 45) = false := by rw [beq_eq_false_iff_ne]; rintro rfl; exact h1 rfl
        have e2 : (c == 95) = false := by rw [beq_eq_false_iff_ne]; rintro rfl; exact h2 rfl
        have e3 : (c == 46) = false := by rw [beq_eq_false_iff_ne]; rintro rfl; exact h3 rfl
        rw [e1, e2, e3]
        simp [Lib.indexByte]

set_option maxHeartbeats 1000000 in
theorem behindMark_any (B : Nat) (s : ByteArray) (a : Nat) (w : World) (h : RdAt w B s a) (hs : s.size ≤ 64) :
    Calls Tryz.prog 165 #[.pointer (some ⟨B, 0, none⟩)] w fun r w' => r = .returned (.int .i64 (markL s.data.toList a : Int)) ∧ ∃ n, w' = w.drewN n := by
  obtain ⟨c0, c1, f1⟩ := h.seen
  clear h
  by_cases hl : a < s.size
  · have hI := fun n => IndexByteS_any ⟨#[45, 95, 46]⟩ (s[a].toNat : Int) (w.drewN n)
    have hc : ((s[a].toNat : Int)).toNat.toUInt8 = s[a] := by simp
    rw [hc] at hI
    have HM := hide (mark_at s a hl)
    have hB : (0 ≤ Lib.indexByte (⟨#[45, 95, 46]⟩ : ByteArray).data.toList s[a]) ↔ isMark s[a] = true := mark_byte s[a]
    have HI := hide hI
    clear hI hc
    generalize Lib.indexByte (⟨#[45, 95, 46]⟩ : ByteArray).data.toList s[a] = x at *
    cases hm : isMark s[a]
    · rw [hm] at hB HM
      have hn : ¬ 0 ≤ x := fun h => by have := hB.1 h; cases this
      clear hB hm
      go_enter Tryz.func165, Tryz.ntmps165
      go_wp2_with fail
      go_quiet ((go_at_call 164; exact Calls.quiet_of_same (HI.out _)))
      go_wp2_with fail
      go_ret
      exact ⟨by rw [HM.out, if_neg (by simp)]; rfl, _, rfl⟩
    · rw [hm] at hB HM
      have hn : 0 ≤ x := hB.2 rfl
      clear hB hm
      go_enter Tryz.func165, Tryz.ntmps165
      go_wp2_with fail
      go_quiet ((go_at_call 164; exact Calls.quiet_of_same (HI.out _)))
      go_wp2_with fail
      go_ret
      exact ⟨ret_i (by rw [HM.out]; simp), _, rfl⟩
  · have HM := hide (mark_end s a hl)
    go_enter Tryz.func165, Tryz.ntmps165
    go_wp2_with fail
    go_quiet (fail)
    go_wp2_with fail
    go_ret
    exact ⟨by rw [HM.out]; rfl, _, rfl⟩

def digE (l : List UInt8) (a : Nat) : Nat := markL l a + runL 1 (l.drop (markL l a))
def digT (l : List UInt8) (a : Nat) : List UInt8 := seg l (markL l a) (digE l a)
def digP (l : List UInt8) (a : Nat) : Nat := if markL l a < digE l a then digE l a else a

set_option maxHeartbeats 1000000 in
theorem digits_any (B : Nat) (s : ByteArray) (a : Nat) (w : World) (h : RdAt w B s a) (ha : a ≤ s.size) (hs : s.size ≤ 64) :
    Calls Tryz.prog 145 #[.pointer (some ⟨B, 0, none⟩)] w fun r w' => r = .returned (.string (ofL (digT s.data.toList a))) ∧ RdAt w' B s (digP s.data.toList a) ∧ Turn B w w' := by
  have M1 := hide (behindMark_any B s a w h hs)
  have H := hide h
  have hm := mark_le s.data.toList a (by rw [len_data]; exact ha)
  rw [len_data] at hm
  have hr := runL_drop_le 1 s (markL s.data.toList a) hm.2.1
  have HR := hide (runI_in s (markL s.data.toList a) 1 hm.2.1)
  have HE : Hid (digE s.data.toList a = markL s.data.toList a + runL 1 (s.data.toList.drop (markL s.data.toList a))) := rfl
  have HT : Hid (ofL (digT s.data.toList a) = s.extract (markL s.data.toList a) (digE s.data.toList a)) := by show _ = _; rw [extract_seg]; rfl
  have HP : Hid (digP s.data.toList a = if markL s.data.toList a < digE s.data.toList a then digE s.data.toList a else a) := rfl
  generalize digP s.data.toList a = P at *
  generalize ofL (digT s.data.toList a) = T at *
  generalize digE s.data.toList a = E at *
  generalize markL s.data.toList a = M at *
  have hE : M ≤ E ∧ E ≤ s.size := by have := HE.out; omega
  have hRI : runI s.data.toList (M : Int) 1 = (E : Int) := by rw [HR.out, HE.out]; simp
  have R1 := hide (fun W => Run_any s (M : Int) 1 W (by unfold maxLen; omega))
  rw [hRI] at R1
  clear hRI hr HR HE hm h
  obtain ⟨hE1, hE2⟩ := hE
  have i0 : (0 : Int) ≤ (M : Int) := Int.natCast_nonneg _
  have i1 : (M : Int) ≤ (E : Int) := by omega
  have i2 : (E : Int) ≤ (s.size : Int) := by omega
  go_enter Tryz.func145, Tryz.ntmps145
  go_wp2_with fail
  refine M1.out.mono ?_
  rintro r w1 ⟨rfl, n1, rfl⟩
  obtain ⟨c0, c1, f1⟩ := H.out.seen
  go_wp2_with fail
  refine (R1.out _).mono ?_
  rintro r w2 ⟨rfl, rfl⟩
  by_cases hlt : M < E
  · have hlt' : (M : Int) < (E : Int) := by omega
    have hP := HP.out.trans (if_pos hlt)
    subst hP
    go_wp2_with fail
    go_ret
    exact ⟨ret_s HT.out.symm, (H.out.drewN _).place _, (Turn.drewN _ _ _).trans (Turn.set _ _ _ _)⟩
  · have hlt' : ¬ (M : Int) < (E : Int) := by omega
    have hP := HP.out.trans (if_neg hlt)
    subst hP
    go_wp2_with fail
    go_ret
    exact ⟨ret_s HT.out.symm, H.out.drewN _, Turn.drewN _ _ _⟩

end Go.Proofs.YtabmfdedbpmfmaaGreat

namespace Go.Proofs.YtabmfdedbpmfmaaGreat
open Go.RowKit Go.Shelf
set_option linter.unusedVariables false

def skipP (l : List UInt8) (a : Nat) (p : List UInt8) : Nat := if pfxB (l.drop a) p then a + p.length else a
theorem skip_le (l : List UInt8) (a : Nat) (p : List UInt8) (h : a ≤ l.length) : a ≤ skipP l a p ∧ skipP l a p ≤ l.length := by
  unfold skipP
  split
  · rename_i hp
    have := (List.isPrefixOf_iff_prefix.1 hp).length_le
    rw [List.length_drop] at this
    omega
  · omega

set_option maxHeartbeats 1000000 in
theorem skip_any (B : Nat) (s p : ByteArray) (a : Nat) (w : World) (h : RdAt w B s a) (ha : a ≤ s.size) (hs : s.size ≤ 64) (hp : p.size ≤ 64) :
    Calls Tryz.prog 120 #[.pointer (some ⟨B, 0, none⟩), .string p] w fun r w' => r = .returned (.bool (pfxB (s.data.toList.drop a) p.data.toList)) ∧ RdAt w' B s (skipP s.data.toList a p.data.toList) ∧ Turn B w w' := by
  have R1 := hide (rest_any B s a w h ha)
  have H := hide h
  have P1 := hide (fun W => HasPrefix_any (ofL (s.data.toList.drop a)) p W (by rw [ofL_size, List.length_drop, len_data]; unfold maxLen; omega) (by unfold maxLen; omega))
  rw [ofL_data] at P1
  have HS : Hid (skipP s.data.toList a p.data.toList = if pfxB (s.data.toList.drop a) p.data.toList then a + p.size else a) := by show _ = _; unfold skipP; rw [len_data]
  generalize skipP s.data.toList a p.data.toList = X at *
  generalize pfxB (s.data.toList.drop a) p.data.toList = D at *
  generalize ofL (s.data.toList.drop a) = T at *
  obtain ⟨c0, c1, f1⟩ := h.seen
  clear h
  cases D
  · have hX := HS.out.trans (if_neg (by simp))
    subst hX
    go_enter Tryz.func120, Tryz.ntmps120
    go_wp2_with fail
    refine R1.out.mono ?_
    rintro r w1 ⟨rfl, n1, rfl⟩
    go_wp2_with fail
    refine (P1.out _).mono ?_
    rintro r w2 ⟨rfl, rfl⟩
    go_wp2_with fail
    go_ret
    exact ⟨rfl, H.out.drewN _, Turn.drewN _ _ _⟩
  · have hX := HS.out.trans (if_pos rfl)
    subst hX
    go_enter Tryz.func120, Tryz.ntmps120
    go_wp2_with fail
    refine R1.out.mono ?_
    rintro r w1 ⟨rfl, n1, rfl⟩
    go_wp2_with fail
    refine (P1.out _).mono ?_
    rintro r w2 ⟨rfl, rfl⟩
    go_wp2_with fail
    go_ret
    exact ⟨rfl, (H.out.drewN _).place (a + p.size), (Turn.drewN _ _ _).trans (Turn.set _ _ _ _)⟩

def epoB (l : List UInt8) (a : Nat) : Bool := hasB (l.drop a) && digB (cutB (l.drop a))
def epoT (l : List UInt8) (a : Nat) : List UInt8 := if epoB l a then trimL (cutB (l.drop a)) else [48]
def epoP (l : List UInt8) (a : Nat) : Nat := if epoB l a then a + ((cutB (l.drop a)).length + 1) else a
theorem epo_le (l : List UInt8) (a : Nat) (h : a ≤ l.length) : a ≤ epoP l a ∧ epoP l a ≤ l.length := by
  unfold epoP
  split
  · rename_i he
    unfold epoB hasB at he
    simp only [Bool.and_eq_true, decide_eq_true_eq] at he
    have hge := Lib.indexByte_ge (l.drop a) 33
    obtain ⟨i, hi⟩ := Int.eq_ofNat_of_zero_le (show 0 ≤ Lib.indexByte (l.drop a) 33 by have := he.1; omega)
    obtain ⟨h1, h2⟩ := cutB_some _ i hi
    rw [h1, List.length_take]
    rw [List.length_drop] at h2 ⊢
    omega
  · omega
theorem cutB_len (l : List UInt8) : (cutB l).length ≤ l.length := (List.takeWhile_prefix _).length_le

set_option maxHeartbeats 1000000 in
theorem epoch_any (B : Nat) (s : ByteArray) (a : Nat) (w : World) (h : RdAt w B s a) (ha : a ≤ s.size) (hs : s.size ≤ 64) :
    Calls Tryz.prog 121 #[.pointer (some ⟨B, 0, none⟩)] w fun r w' => r = .returned (.string (ofL (epoT s.data.toList a))) ∧ RdAt w' B s (epoP s.data.toList a) ∧ Turn B w w' := by
  have hB := h.lt
  have R1 := hide (rest_any B s a w h ha)
  have H := hide h
  have hcl := cutB_len (s.data.toList.drop a)
  rw [List.length_drop, len_data] at hcl
  have C1 := hide (fun W => CutS_bang (ofL (s.data.toList.drop a)) W (by rw [ofL_size, List.length_drop, len_data]; omega))
  rw [ofL_data] at C1
  have D1 := hide (fun W => isDigits_any (ofL (cutB (s.data.toList.drop a))) W (by rw [ofL_size]; unfold maxLen; omega))
  rw [ofL_data] at D1
  have T1 := hide (fun W => Trim_any (ofL (cutB (s.data.toList.drop a))) W (by rw [ofL_size]; unfold maxLen; omega))
  rw [ofL_data] at T1
  have HB : Hid (epoB s.data.toList a = (hasB (s.data.toList.drop a) && digB (cutB (s.data.toList.drop a)))) := rfl
  have HT : Hid (epoT s.data.toList a = if epoB s.data.toList a then trimL (cutB (s.data.toList.drop a)) else [48]) := rfl
  have HP : Hid (epoP s.data.toList a = if epoB s.data.toList a then a + ((cutB (s.data.toList.drop a)).length + 1) else a) := rfl
  have hsz := ofL_size (cutB (s.data.toList.drop a))
  generalize epoT s.data.toList a = ET at *
  generalize epoP s.data.toList a = EP at *
  generalize epoB s.data.toList a = EB at *
  generalize hasB (s.data.toList.drop a) = hb at *
  generalize digB (cutB (s.data.toList.drop a)) = db at *
  generalize trimL (cutB (s.data.toList.drop a)) = TT at *
  generalize ofL (cutB (s.data.toList.drop a)) = CC at *
  generalize (cutB (s.data.toList.drop a)).length = cl at *
  generalize ofL (s.data.toList.drop a) = RR at *
  clear h
  cases hb
  · have he : EB = false := HB.out
    have hT := HT.out
    have hP := HP.out
    rw [he, if_neg (by simp)] at hT hP
    subst hT
    subst hP
    go_enter Tryz.func121, Tryz.ntmps121
    go_wp2_with fail
    refine R1.out.mono ?_
    rintro r w1 ⟨rfl, n1, hw1⟩
    have H1 := hide (H.out.drewN n1)
    have t1 := Turn.drewN B w n1
    rw [← hw1] at H1 t1
    clear hw1
    go_wp2_with fail
    refine (C1.out _).mono ?_
    rintro r w2 ⟨⟨u, rfl⟩, b2⟩
    have H2 := hide (H1.out.below b2)
    have t2 := t1.trans (Turn.ofBelow b2)
    obtain ⟨c0, c1, f1⟩ := H2.out.seen

    go_wp2_with fail
    go_ret
    exact ⟨rfl, H2.out, t2⟩
  · cases db
    · have he : EB = false := HB.out
      have hT := HT.out
      have hP := HP.out
      rw [he, if_neg (by simp)] at hT hP
      subst hT
      subst hP
      go_enter Tryz.func121, Tryz.ntmps121
      go_wp2_with fail
      refine R1.out.mono ?_
      rintro r w1 ⟨rfl, n1, hw1⟩
      have H1 := hide (H.out.drewN n1)
      have t1 := Turn.drewN B w n1
      rw [← hw1] at H1 t1
      clear hw1
      go_wp2_with fail
      refine (C1.out _).mono ?_
      rintro r w2 ⟨⟨u, rfl⟩, b2⟩
      have H2 := hide (H1.out.below b2)
      have t2 := t1.trans (Turn.ofBelow b2)
      obtain ⟨c0, c1, f1⟩ := H2.out.seen

      go_wp2_with fail
      refine (D1.out _).mono ?_
      rintro r w3 ⟨rfl, hw3⟩
      rw [hw3]
      clear hw3 w3
      go_wp2_with fail
      go_ret
      exact ⟨rfl, H2.out, t2⟩
    · have he : EB = true := HB.out
      have hT := HT.out
      have hP := HP.out
      rw [he, if_pos rfl] at hT hP
      subst hP
      go_enter Tryz.func121, Tryz.ntmps121
      go_wp2_with fail
      refine R1.out.mono ?_
      rintro r w1 ⟨rfl, n1, hw1⟩
      have H1 := hide (H.out.drewN n1)
      have t1 := Turn.drewN B w n1
      rw [← hw1] at H1 t1
      clear hw1
      go_wp2_with fail
      refine (C1.out _).mono ?_
      rintro r w2 ⟨⟨u, rfl⟩, b2⟩
      have H2 := hide (H1.out.below b2)
      have t2 := t1.trans (Turn.ofBelow b2)
      obtain ⟨c0, c1, f1⟩ := H2.out.seen

      go_wp2_with fail
      refine (D1.out _).mono ?_
      rintro r w3 ⟨rfl, hw3⟩
      rw [hw3]
      clear hw3 w3
      go_wp2_with fail
      refine (T1.out _).mono ?_
      rintro r w4 ⟨rfl, hw4⟩
      rw [hw4]
      clear hw4 w4
      go_wp2_with fail
      go_ret
      exact ⟨by rw [hT]; rfl, H2.out.place (a + (cl + 1)), t2.trans (Turn.set _ _ _ _)⟩

end Go.Proofs.YtabmfdedbpmfmaaGreat

namespace Go.Proofs.YtabmfdedbpmfmaaGreat
open Go.RowKit Go.Shelf
set_option linter.unusedVariables false

attribute [local go_sem] Oper.semAt_some

def Two (b c : Nat) (W W' : World) : Prop := W'.heap[b]? = W.heap[b]? ∧ W'.heap[c]? = W.heap[c]?
theorem Two.refl (b c : Nat) (W : World) : Two b c W W := ⟨rfl, rfl⟩
theorem Two.trans {b c : Nat} {A B C : World} (h : Two b c A B) (k : Two b c B C) : Two b c A C := ⟨k.1.trans h.1, k.2.trans h.2⟩
theorem two_b {b c : Nat} {w : World} (hb : b < w.heap.size) (hc : c < w.heap.size) : ∀ (W : World) (l : Nat) (o o' : Obj), w.heap.size ≤ l → W.heap[l]? = some o → o.isCells = false → o.isWalk = false → Two b c W (W.putObj l o') :=
  fun W l o o' hl _ _ _ => ⟨World.putObj_heap_other (by omega), World.putObj_heap_other (by omega)⟩

def WordsAt (W : World) (A : Nat) (ws : List (List UInt8)) : Prop := W.heap[A]? = some (.cells (ws.map fun x => Value.string (ofL x)).toArray 9 (0, 0))
theorem WordsAt.cell {W : World} {A : Nat} {ws : List (List UInt8)} (h : WordsAt W A ws) (i : Nat) (hi : i < ws.length) : W.cell? ⟨A, i, none⟩ = some (.string (ofL ws[i])) :=
  cell_at i h (by simp [hi])

set_option maxRecDepth 100000 in
set_option maxHeartbeats 2000000 in
theorem tries1_in (n : Nat) (hn : 1 ≤ n) (l Bw Br A c : Nat) (r : ByteArray) (hr : r.size ≤ 64) (ws : List (List UInt8)) (hws : ws.length ≤ 64) (hwl : ∀ x ∈ ws, x.length ≤ 64) (J Jx : List (List UInt8) → World → Prop) (B0 : Nat) (hJ : AbidesFrom B0 J)
    (hY : ∀ pre x W, J pre W → pre.length < ws.length → YieldAt Fence.wide (n - 1) Tryz.prog l #[.string (ofL x), .bool (pfxB r.data.toList x)] W fun e W' =>
      (e = .returned (.bool true) ∧ J (pre ++ [x]) W' ∧ Two Br A W W') ∨ (e = .returned (.bool false) ∧ Jx (pre ++ [x]) W'))
    (W : World) (hBw : Boxed W Bw 37 (.slice (some ⟨A, 0, none⟩) ws.length c)) (hBr : Boxed W Br 9 (.string r)) (hA : WordsAt W A ws) (h0 : J [] W) :
    CallsIn Fence.wide n Tryz.prog 180 #[.func (.yield l) #[] #[], .pointer (some ⟨Bw, 0, none⟩), .pointer (some ⟨Br, 0, none⟩)] W fun e W' => (∃ v, e = .returned v) ∧
      ((∃ ys, ys = ws ∧ J ys W') ∨ (∃ pre, pre <+: ws ∧ Jx pre W')) := by
  have cA0 := hBw.cell
  refine callsIn_of_wp Tryz.func180 rfl trivial ?_ rfl
  simp only [Tryz.ntmps180, List.size_toArray, List.length_cons, List.length_nil, Nat.reduceAdd, Nat.reduceSub, Array.replicate_succ, Array.replicate_zero, List.push_toArray, List.append_toArray, List.nil_append, List.cons_append]
  gi_wp2
  gi_loopw [8] (fun i wr => ∃ (k : Nat), k ≤ ws.length ∧ i = .int .i64 k ∧ J (ws.take k) wr ∧ Boxed wr Br 9 (.string r) ∧ WordsAt wr A ws)
    (fun i _ => ws.length - (intOf i).toNat)
  case atStart => exact ⟨0, by omega, rfl, h0, hBr, hA⟩
  case round =>
    obtain ⟨k, hk, rfl, hJs, bR, hAs⟩ := hrel
    have cR := bR.cell
    by_cases hlt : k < ws.length
    · have cW := hAs.cell k hlt
      have hlt' : (k : Int) < (ws.length : Int) := by omega
      have hk0 : (0 : Int) ≤ (k : Int) := by omega
      have hxl := hwl ws[k] (List.getElem_mem hlt)
      have HT := hide (show ws.take (k + 1) = ws.take k ++ [ws[k]] from by rw [List.take_succ_eq_append_getElem hlt])
      obtain ⟨fn, tmps, assign, body, hy, hR⟩ := hY (ws.take k) ws[k] wr hJs (by rw [List.length_take]; omega)
      have HC := hide (HasPrefix_any r (ofL ws[k]) wr (by unfold maxLen; omega) (by rw [ofL_size]; unfold maxLen; omega))
      rw [ofL_data] at HC
      generalize ws[k] = x at *
      gi_wp2_with (refine ⟨trivial, ?_⟩; gi_at_call 139; refine (callsIn_wide.2 HC.out).mono ?_; rintro e w' ⟨rfl, hw'⟩; rw [hw']; clear hw' w')
      refine hR.mono ?_
      rintro e' W3 (⟨rfl, hJ3, hk3⟩ | ⟨rfl, hJx3⟩)
      · rw [← HT.out] at hJ3
        gi_wp2
        go_roundw
        case rel => exact ⟨k + 1, by omega, by go_num, hJ3, hk3.1.trans bR, hk3.2.trans hAs⟩
        case measure => simp [intOf]; omega
      · rw [← HT.out] at hJx3
        gi_wp2
        refine bodyPost_ret (results_none rfl _ _ _) rfl ?_
        exact ⟨⟨_, rfl⟩, .inr ⟨ws.take (k + 1), List.take_prefix _ _, hJx3⟩⟩
    · obtain rfl : k = ws.length := by omega
      rw [List.take_length] at hJs
      gi_wp2
      go_end0
      exact ⟨⟨_, rfl⟩, .inl ⟨ws, rfl, hJs⟩⟩

theorem tries_stops (n : Nat) (hn : 1 ≤ n) (Bw Br A c : Nat) (r : ByteArray) (hr : r.size ≤ 64) (ws : List (List UInt8)) (hws : ws.length ≤ 64) (hwl : ∀ x ∈ ws, x.length ≤ 64) (w : World) (hBw : Boxed w Bw 37 (.slice (some ⟨A, 0, none⟩) ws.length c)) (hBr : Boxed w Br 9 (.string r)) (hA : WordsAt w A ws) :
    SeqStopsK Fence.wide n Tryz.prog 180 #[.pointer (some ⟨Bw, 0, none⟩), .pointer (some ⟨Br, 0, none⟩)] (fun x : List UInt8 => #[Value.string (ofL x), .bool (pfxB r.data.toList x)]) (Two Br A) (fun ys => ys = ws) (fun pre => pre <+: ws) ws.length w := fun l J Jx W hW hJ _ hY h0 =>
  tries1_in n hn l Bw Br A c r hr ws hws hwl J Jx W.heap.size hJ hY W ((hW.block Bw hBw.lt).trans hBw) ((hW.block Br hBr.lt).trans hBr) ((hW.block A (Array.getElem?_eq_some_iff.1 hA).1).trans hA) h0

theorem tries_any (r : ByteArray) (v : Value) (w : World) (a : Option Addr) (n c : Nat) (hv : v = .slice a n c) :
    Calls Tryz.prog 166 #[.string r, v] w fun e w' => e = .returned (.func (.func 180) #[] #[.pointer (some ⟨w.heap.size + 1, 0, none⟩), .pointer (some ⟨w.heap.size, 0, none⟩)]) ∧ w' = (w.alloc (.cells #[.string r] 9)).alloc (.cells #[v] 37) := by
  subst hv
  go_enter Tryz.func166, Tryz.ntmps166
  go_wp2
  go_ret
  exact ⟨rfl, rfl⟩

end Go.Proofs.YtabmfdedbpmfmaaGreat
