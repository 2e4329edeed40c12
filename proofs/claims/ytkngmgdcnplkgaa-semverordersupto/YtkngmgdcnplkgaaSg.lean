/-
  Walks: strings.Cut at "+", Canon, and the chapter's examples.
-/
import Derived.Test.YtkngmgdcnplkgaaSf
import Derived.WalkSmall
namespace Go.Proofs.Ytkngmgdcnplkgaa
open Go.RowKit Go.Shelf
set_option linter.unusedVariables false

/-- What stands ahead of the first "+". -/
def cutP (l : List UInt8) : List UInt8 := l.takeWhile (fun c => c != 43)
theorem cutP_none : ∀ l : List UInt8, Lib.indexByte l 43 = -1 → cutP l = l
  | [], _ => rfl
  | c :: r, h => by
    unfold Lib.indexByte at h
    by_cases hc : (c == 43) = true
    · rw [if_pos hc] at h; cases h
    · rw [if_neg hc] at h
      by_cases hi : (Lib.indexByte r 43 == -1) = true
      · have := cutP_none r (by simpa using hi)
        unfold cutP at *
        rw [List.takeWhile_cons, if_pos (by simpa [bne] using hc), this]
      · rw [if_neg hi] at h
        have := Lib.indexByte_ge r 43
        have hi' : ¬ Lib.indexByte r 43 = -1 := by simpa using hi
        omega
theorem cutP_some : ∀ (l : List UInt8) (i : Nat), Lib.indexByte l 43 = i → cutP l = l.take i ∧ i < l.length
  | [], i, h => by have h' : (-1 : Int) = i := h; omega
  | c :: r, i, h => by
    unfold Lib.indexByte at h
    by_cases hc : (c == 43) = true
    · rw [if_pos hc] at h
      have : i = 0 := by omega
      subst this
      refine ⟨?_, by simp⟩
      unfold cutP
      rw [List.takeWhile_cons, if_neg (by simpa [bne] using hc)]
      rfl
    · rw [if_neg hc] at h
      by_cases hi : (Lib.indexByte r 43 == -1) = true
      · rw [if_pos hi] at h; omega
      · rw [if_neg hi] at h
        have hi' : ¬ Lib.indexByte r 43 = -1 := by simpa using hi
        have hge := Lib.indexByte_ge r 43
        obtain ⟨j, hj⟩ := Int.eq_ofNat_of_zero_le (show 0 ≤ Lib.indexByte r 43 by omega)
        obtain ⟨h1, h2⟩ := cutP_some r j hj
        have : i = j + 1 := by omega
        subst this
        refine ⟨?_, by simp; omega⟩
        unfold cutP at *
        rw [List.takeWhile_cons, if_pos (by simpa [bne] using hc), h1]
        rfl

set_option maxRecDepth 100000 in
set_option maxHeartbeats 400000 in
theorem IndexByte_any (s : ByteArray) (c : Int) (w : World) :
    Calls Try.prog 96 #[.string s, .int .u8 c] w fun e w' => e = .returned (.int .i64 (Lib.indexByte s.data.toList c.toNat.toUInt8)) ∧ w' = w := by
  go_enter Try.func96, Try.ntmps96
  go_wp2
  rw [run_callFunc_extern Try.func106 (by kernel_rfl) (by kernel_rfl) (by kernel_rfl) (e := Extern.BytealgIndexByte.indexByte) (by kernel_rfl), Lib.run_indexByteString]
  simp only [Result.andThen]
  rw [Oper.upon_value]
  go_wp2
  go_ret
  exact ⟨rfl, rfl⟩

set_option maxRecDepth 100000 in
set_option maxHeartbeats 400000 in
theorem Index_plus (s : ByteArray) (w : World) :
    Calls Try.prog 86 #[.string s, .string ⟨#[43]⟩] w fun e w' => e = .returned (.int .i64 (Lib.indexByte s.data.toList 43)) ∧ w' = w := by
  cases h : ([43] == s.toList)
  · go_enter Try.func86, Try.ntmps86
    go_wp2_with fail
    refine (IndexByte_any _ _ _).mono ?_
    rintro e w' ⟨rfl, rfl⟩
    go_wp2_with fail
    go_ret
    exact ⟨rfl, rfl⟩
  · have e : s.data.toList = [43] := by rw [← toL]; exact (by simpa using h : [43] = s.toList).symm
    have HE := hide e
    clear e
    go_enter Try.func86, Try.ntmps86
    go_wp2_with fail
    go_ret
    exact ⟨ret_i (by rw [HE.out]; rfl), rfl⟩

set_option maxRecDepth 100000 in
set_option maxHeartbeats 400000 in
theorem Cut_plus (s : ByteArray) (w : World) (hs : s.size ≤ 64) :
    Calls Try.prog 63 #[.string s, .string ⟨#[43]⟩] w fun e w' => (∃ u v, e = .returned (.tuple #[.string (ofL (cutP s.data.toList)), u, v])) ∧ Below w.heap.size w w' := by
  by_cases h : Lib.indexByte s.data.toList 43 = -1
  · have HC := hide (cutP_none _ h)
    have HI := hide (show ∀ w, _ from fun w => Index_plus s w)
    go_enter Try.func63, Try.ntmps63
    go_wp2_with fail
    refine (HI.out _).mono ?_
    rintro e w' ⟨rfl, rfl⟩
    rw [h]
    go_wp2_with fail
    go_ret3
    exact ⟨⟨_, _, by rw [HC.out, ofL_self]; rfl⟩, Below.refl _ _⟩
  · have hge := Lib.indexByte_ge s.data.toList 43
    obtain ⟨i, hi⟩ := Int.eq_ofNat_of_zero_le (show 0 ≤ Lib.indexByte s.data.toList 43 by omega)
    obtain ⟨hc, hlt⟩ := cutP_some _ i hi
    rw [len_data] at hlt
    have HC : Hid (ofL (cutP s.data.toList) = s.extract 0 i) := by show _ = _; rw [hc, extract_ofL]; simp
    have HI := hide (show ∀ w, _ from fun w => Index_plus s w)
    clear h hge hc
    have hlt' : (i : Int) < (s.size : Int) := by omega
    have h0 : (0 : Int) ≤ (i : Int) := by omega
    go_enter Try.func63, Try.ntmps63
    go_wp2_with fail
    refine (HI.out _).mono ?_
    rintro e w' ⟨rfl, rfl⟩
    rw [hi]
    go_wp2_with fail
    go_quiet (fail)
    go_wp2_with fail
    go_ret3
    exact ⟨⟨_, _, by rw [HC.out]; rfl⟩, below_drewN (Below.refl _ _) _⟩

set_option maxHeartbeats 400000 in
theorem CutS_plus (s : ByteArray) (w : World) (hs : s.size ≤ 64) :
    Calls Try.prog 33 #[.string s, .string ⟨#[43]⟩] w fun e w' => (∃ u v, e = .returned (.tuple #[.string (ofL (cutP s.data.toList)), u, v])) ∧ Below w.heap.size w w' := by
  go_enter Try.func33, Try.ntmps33
  go_wp2_with fail
  refine (Cut_plus s _ hs).mono ?_
  rintro e w1 ⟨⟨u, v, rfl⟩, b1⟩
  go_wp2_with fail
  go_ret3
  exact ⟨⟨u, v, rfl⟩, b1⟩

/-- A version's text without its build; none of what is none. -/
def canonL (l : List UInt8) : List UInt8 := match parseR l with | .error _ => [] | .ok _ => cutP l

set_option maxRecDepth 100000 in
set_option maxHeartbeats 400000 in
theorem Canon_any (PA : ∀ (s : ByteArray) (w : World), s.size ≤ 64 → Calls Try.prog 9 #[.string s] w (PPost s w)) (s : ByteArray) (w : World) :
    Calls Try.prog 12 #[.string s] w fun e w' => e = .returned (.string (ofL (canonL s.data.toList))) ∧ Below w.heap.size w w' := by
  cases hp : parseR s.data.toList with
  | error x =>
    have HC : Hid (ofL (canonL s.data.toList) = ⟨#[]⟩) := by show _ = _; unfold canonL; rw [hp]; rfl
    have hxb : (x.1 != 0) = true := by simpa using parse_err hp
    go_enter Try.func12, Try.ntmps12
    go_wp2_with fail
    refine (Parse_sem PA s _).mono ?_
    rintro e w1 ⟨b1, h1⟩
    unfold PRes at h1
    rw [hp] at h1
    subst h1
    unfold semZ
    go_wp2_with fail
    go_ret
    exact ⟨ret_s HC.out.symm, (b1.alloc b1.size _).alloc (by have := b1.size; simp; omega) _⟩
  | ok c =>
    have HC : Hid (canonL s.data.toList = cutP s.data.toList) := by show _ = _; unfold canonL; rw [hp]
    have hl := parse_len hp
    rw [len_data] at hl
    go_enter Try.func12, Try.ntmps12
    go_wp2_with fail
    refine (Parse_sem PA s _).mono ?_
    rintro e w1 ⟨b1, h1⟩
    unfold PRes at h1
    rw [hp] at h1
    obtain ⟨vp, vb, rfl, t1, t2, fr1, fr2⟩ := h1
    obtain ⟨a1, c1, rfl, _⟩ := t1
    obtain ⟨a2, c2, rfl, _⟩ := t2
    clear hp fr1 fr2
    go_wp2_with fail
    refine (CutS_plus s _ hl).mono ?_
    rintro e w2 ⟨⟨u, v, rfl⟩, b2⟩
    go_wp2_with fail
    go_ret
    have bb := (b1.alloc b1.size (.cells #[.string (ofL (semOf s.data.toList c).maj), .string (ofL (semOf s.data.toList c).min), .string (ofL (semOf s.data.toList c).pat), .slice a1 (semOf s.data.toList c).pre.length c1, .slice a2 (semOf s.data.toList c).bld.length c2] 24)).alloc (by have := b1.size; simp; omega) (.cells #[.int .i64 0, .int .i64 0] 27)
    exact ⟨ret_s (by rw [HC.out] <;> rfl), bb.trans (b2.mono bb.size)⟩

/-- The chapter's row of versions. -/
def exs : List (List UInt8) := [[49, 46, 48, 46, 48, 45, 97, 108, 112, 104, 97], [49, 46, 48, 46, 48, 45, 97, 108, 112, 104, 97, 46, 49], [49, 46, 48, 46, 48, 45, 97, 108, 112, 104, 97, 46, 98, 101, 116, 97], [49, 46, 48, 46, 48, 45, 98, 101, 116, 97], [49, 46, 48, 46, 48, 45, 98, 101, 116, 97, 46, 50], [49, 46, 48, 46, 48, 45, 98, 101, 116, 97, 46, 49, 49], [49, 46, 48, 46, 48, 45, 114, 99, 46, 49], [49, 46, 48, 46, 48]]
theorem exl0 : cmpT (exs.getD 0 []) (exs.getD 1 []) = -1 := by kernel_rfl
theorem exl1 : cmpT (exs.getD 1 []) (exs.getD 2 []) = -1 := by kernel_rfl
theorem exl2 : cmpT (exs.getD 2 []) (exs.getD 3 []) = -1 := by kernel_rfl
theorem exl3 : cmpT (exs.getD 3 []) (exs.getD 4 []) = -1 := by kernel_rfl
theorem exl4 : cmpT (exs.getD 4 []) (exs.getD 5 []) = -1 := by kernel_rfl
theorem exl5 : cmpT (exs.getD 5 []) (exs.getD 6 []) = -1 := by kernel_rfl
theorem exl6 : cmpT (exs.getD 6 []) (exs.getD 7 []) = -1 := by kernel_rfl
theorem exs_less : ∀ k, k < 7 → cmpT (exs.getD k []) (exs.getD (k + 1) []) = -1 := by
  intro k hk
  match k, hk with
  | 0, _ => exact exl0
  | 1, _ => exact exl1
  | 2, _ => exact exl2
  | 3, _ => exact exl3
  | 4, _ => exact exl4
  | 5, _ => exact exl5
  | 6, _ => exact exl6
theorem ex1 : parseR [48, 49, 46, 50, 46, 51] = .error (14, 1) := by kernel_rfl
theorem ex2 : parseR [49, 46, 50, 46, 51, 45, 48, 49, 46, 120] = .error (14, 8) := by kernel_rfl
theorem ex3 : parseR [49, 46, 50] = .error (11, 3) := by kernel_rfl
theorem ex4 : canonL [49, 46, 50, 46, 51, 43, 120] = [49, 46, 50, 46, 51] := by kernel_rfl

end Go.Proofs.Ytkngmgdcnplkgaa
