/-
  Walks: a word that need be no version. · Walks: the word behind any operator. · Walks: a clause without an operator. · Walks: a clause. · Plain: what the loop over clauses makes of them is the document's answer.
-/
import Derived.Test.YtabmfdedbpmfmaaGreatSGl
import Derived.Test.YtabmfdedbpmfmaaGreatSGla
import Derived.Test.YtabmfdedbpmfmaaGreatSGlb
import Derived.Test.YtabmfdedbpmfmaaGreatSGlc
import Derived.Test.YtabmfdedbpmfmaaGreatSGh
import Derived.Test.YtabmfdedbpmfmaaGreatSGj
import Derived.Deep.Cut
import Derived.Test.YtabmfdedbpmfmaaGreatSGe
import Derived.Test.YtabmfdedbpmfmaaGreatSGq
namespace Go.Proofs.YtabmfdedbpmfmaaGreat
open Go.RowKit Go.Shelf
set_option linter.unusedVariables false

theorem badN_hit (s : ByteArray) (i : Nat) (h : i < s.size) (hc : s[i].toNat < 33 ∨ 126 < s[i].toNat) : badN (s.data.toList.drop i) = 0 := by
  rw [drop_at s i h, badN, if_pos]
  simp only [Bool.or_eq_true, decide_eq_true_eq]
  rcases hc with hc | hc
  · exact .inl (UInt8.lt_iff_toNat_lt.2 hc)
  · exact .inr (UInt8.lt_iff_toNat_lt.2 hc)
theorem badN_miss (s : ByteArray) (i : Nat) (h : i < s.size) (h1 : ¬ s[i].toNat < 33) (h2 : ¬ 126 < s[i].toNat) : badN (s.data.toList.drop i) = badN (s.data.toList.drop (i + 1)) + 1 := by
  rw [drop_at s i h, badN, if_neg]
  simp only [Bool.or_eq_true, decide_eq_true_eq, not_or]
  exact ⟨fun hc => h1 (UInt8.lt_iff_toNat_lt.1 hc), fun hc => h2 (UInt8.lt_iff_toNat_lt.1 hc)⟩
set_option maxRecDepth 100000 in
set_option maxHeartbeats 4000000 in
theorem readText_any (s : ByteArray) (w : World) (hs : s.size ≤ 256) :
    Calls Tryz.prog 159 #[.string s] w (WdPost (textW s.data.toList) w) := by
  have R0 := RB.start w
  have hTW : textW s.data.toList = if badN s.data.toList < s.size then .bad 10 (badN s.data.toList) else .ok pep0 s.data.toList false := by unfold textW; rw [len_data]
  generalize textW s.data.toList = R at *
  have HTW := hide hTW
  clear hTW
  go_enter Tryz.func159, Tryz.ntmps159
  go_wp2_with fail
  generalize (w.alloc _).alloc _ = W0 at *
  have R0 := hide R0
  have hlt : w.heap.size + 1 < W0.heap.size := R0.out.lt
  go_loopw [7] (fun y wr => ∃ i : Nat, i ≤ s.size ∧ y = .int .i64 i ∧ badN s.data.toList = i + badN (s.data.toList.drop i) ∧ wr = W0) (fun y _ => s.size - (intOf y).toNat)
  case atStart => exact ⟨0, by omega, rfl, by simp, rfl⟩
  case round =>
    obtain ⟨i, hi, rfl, hc, rfl⟩ := hrel
    by_cases hin : i < s.size
    · have hin' : (i : Int) < (s.size : Int) := by omega
      by_cases h1 : s[i].toNat < 33
      · have hcmp : (s[i].toNat : Int) < 33 := by omega
        have HR : Hid (R = .bad 10 i) := hide (by rw [HTW.out, hc, badN_hit s i hin (.inl h1), Nat.add_zero, if_pos hin])
        clear hc h1

        obtain ⟨x0, x1, x2, x3, x4, x5, x6, x7, x8, x9, x10, y0, y1, y2, y3, y4, y5, y6, y7, y8, y9, y10⟩ := seen11v R0.out.ver
        obtain ⟨f0, f1, g0, g1⟩ := seen2v R0.out.flt
        obtain ⟨W9, hW9, hRQ, hT9⟩ := R0.out.put13 (.string ⟨#[]⟩) (.slice none 0 0) (.int .u8 0) (.string ⟨#[]⟩) (.bool false) (.string ⟨#[]⟩) (.bool false) (.string ⟨#[]⟩) (.slice none 0 0) (.string ⟨#[]⟩) (.bool false) (.int .i64 10) (.int .i64 (i : Int))
        have HW9 := hide hW9
        have RQ := hide hRQ
        clear hRQ hT9 hW9
        go_wp2_with fail
        rw [← HW9.out]
        refine fin159 _ _ w.heap.size (w.heap.size + 1) _ _ _ _ _ _ _ _ _ _ _ _ _ ⟨_, _, _, rfl⟩ ⟨_, _, _, rfl⟩ rfl rfl RQ.out.ver RQ.out.flt ?_
        rw [HR.out]
        exact ⟨RQ.out.bel, by decide, false, rfl⟩
      · by_cases h2 : 126 < s[i].toNat
        · have hcmp : ¬ (s[i].toNat : Int) < 33 := by omega
          have hcmp2 : (126 : Int) < (s[i].toNat : Int) := by omega
          have HR : Hid (R = .bad 10 i) := hide (by rw [HTW.out, hc, badN_hit s i hin (.inr h2), Nat.add_zero, if_pos hin])
          clear hc h1 h2

          obtain ⟨x0, x1, x2, x3, x4, x5, x6, x7, x8, x9, x10, y0, y1, y2, y3, y4, y5, y6, y7, y8, y9, y10⟩ := seen11v R0.out.ver
          obtain ⟨f0, f1, g0, g1⟩ := seen2v R0.out.flt
          obtain ⟨W9, hW9, hRQ, hT9⟩ := R0.out.put13 (.string ⟨#[]⟩) (.slice none 0 0) (.int .u8 0) (.string ⟨#[]⟩) (.bool false) (.string ⟨#[]⟩) (.bool false) (.string ⟨#[]⟩) (.slice none 0 0) (.string ⟨#[]⟩) (.bool false) (.int .i64 10) (.int .i64 (i : Int))
          have HW9 := hide hW9
          have RQ := hide hRQ
          clear hRQ hT9 hW9
          go_wp2_with fail
          rw [← HW9.out]
          refine fin159 _ _ w.heap.size (w.heap.size + 1) _ _ _ _ _ _ _ _ _ _ _ _ _ ⟨_, _, _, rfl⟩ ⟨_, _, _, rfl⟩ rfl rfl RQ.out.ver RQ.out.flt ?_
          rw [HR.out]
          exact ⟨RQ.out.bel, by decide, false, rfl⟩
        · have hcmp : ¬ (s[i].toNat : Int) < 33 := by omega
          have hcmp2 : ¬ (126 : Int) < (s[i].toNat : Int) := by omega
          have HC := hide (hc.trans (by rw [badN_miss s i hin h1 h2]))
          clear hc h1 h2
          go_wp2_with fail
          go_roundw
          case rel => exact ⟨i + 1, by omega, by go_num, by have := HC.out; omega, by trivial⟩
          case measure => simp [intOf]; omega
    · have hin' : ¬ (i : Int) < (s.size : Int) := by omega
      have HR : Hid (R = .ok pep0 s.data.toList false) := hide (by
        rw [HTW.out, if_neg]
        rw [hc, drop_end s i (by omega), badN]
        omega)
      clear hc
      obtain ⟨x0, x1, x2, x3, x4, x5, x6, x7, x8, x9, x10, y0, y1, y2, y3, y4, y5, y6, y7, y8, y9, y10⟩ := seen11v R0.out.ver
      obtain ⟨f0, f1, g0, g1⟩ := seen2v R0.out.flt
      obtain ⟨W9, hW9, hRQ, hT9⟩ := R0.out.put13 (.string ⟨#[]⟩) (.slice none 0 0) (.int .u8 0) (.string ⟨#[]⟩) (.bool false) (.string ⟨#[]⟩) (.bool false) (.string ⟨#[]⟩) (.slice none 0 0) (.string s) (.bool false) (.int .i64 0) (.int .i64 0)
      have HW9 := hide hW9
      have RQ := hide hRQ
      clear hRQ hT9 hW9
      go_wp2_with fail
      rw [← HW9.out]
      refine fin159 _ _ w.heap.size (w.heap.size + 1) _ _ _ _ _ _ _ _ _ _ _ _ _ ⟨_, _, _, rfl⟩ ⟨_, _, _, rfl⟩ rfl rfl RQ.out.ver RQ.out.flt ?_
      rw [HR.out]
      exact ⟨RQ.out.bel, .slice none 0 0, .slice none 0 0, by rw [ofL_self]; rfl, ⟨none, 0, rfl, .inl rfl⟩, ⟨none, 0, rfl, .inl rfl⟩, fun a i c e => (by cases e), fun a i c e => (by cases e)⟩

end Go.Proofs.YtabmfdedbpmfmaaGreat

namespace Go.Proofs.YtabmfdedbpmfmaaGreat
open Go.RowKit Go.Shelf
set_option linter.unusedVariables false

theorem verX_le (l : List UInt8) : (verX l).2 ≤ l.length := by
  have l1 : vp1 l ≤ l.length := (skip_le l 0 [118] (Nat.zero_le _)).2
  have l2 : vp2 l ≤ l.length := (epo_le l (vp1 l) l1).2
  have l3 : vp3 l ≤ l.length := lastE_le l 1 [46] (vp2 l) l2
  have l4 : vp4 l ≤ l.length := (stP_le l (vp3 l) preWs l3).2
  have l5 : vp5 l ≤ l.length := (posP_le l (vp4 l) l4).2
  have l6 : vp6 l ≤ l.length := (stP_le l (vp5 l) devWs l5).2
  have l7 : vp7 l ≤ l.length := (skip_le l (vp6 l) [43] l6).2
  have l8 : vp8 l ≤ l.length := lastE_le l 5 [45, 95, 46] (vp7 l) l7
  unfold verX
  repeat' split
  all_goals assumption
theorem errX_le (l : List UInt8) : (errX l).2 ≤ 64 := by
  unfold errX
  split
  · exact Nat.le_refl _
  · have := verX_le (lowL l)
    rw [lowL_len] at this
    omega
theorem only_le {may : PepL → Bool} {u : List UInt8} {e : Int} {p : Nat} (h : onlyW may u = .bad e p) : p ≤ 64 := by
  unfold onlyW at h
  split at h
  · split at h
    · cases h
    · cases h; omega
  · cases h; exact errX_le u
theorem wdR_le {k : Nat} {u : List UInt8} {e : Int} {p : Nat} (hu : u.length ≤ 256) (h : wdR k u = .bad e p) : p ≤ 1000 := by
  unfold wdR at h
  split at h
  · have := only_le h; omega
  · split at h
    · split at h
      · cases hq : onlyW bareB (u.take (u.length - 2)) with
        | bad e2 p2 =>
          rw [hq] at h
          cases h
          have := only_le hq
          omega
        | ok x t st => rw [hq] at h; cases h
      · have := only_le h; omega
    · split at h
      · unfold textW at h
        split at h
        · cases h; omega
        · cases h
      · have := only_le h; omega
theorem reads_any (j : Nat) (hj : j < 8) (u : ByteArray) (hu : u.size ≤ 256) (W : World) : Calls Tryz.prog (rdF j) #[.string u] W (WdPost (wdR j u.data.toList) W) := by
  have st : ∀ j, j = 1 ∨ j = 2 → Calls Tryz.prog 151 #[.string u] W (WdPost (wdR j u.data.toList) W) := by
    intro j hj
    unfold wdR
    rw [if_neg (by omega), if_pos hj]
    cases hE : endsW u.data.toList
    · rw [if_neg (by simp)]
      exact readStarred_no u W (by omega) hE
    · rw [if_pos rfl]
      exact readStarred_yes u W (by omega) hE
  match j, hj with
  | 0, _ => exact readCompatible_any u W (by omega)
  | 1, _ => exact st 1 (.inl rfl)
  | 2, _ => exact st 2 (.inr rfl)
  | 3, _ => exact readPublic_any u W (by omega)
  | 4, _ => exact readPublic_any u W (by omega)
  | 5, _ => exact readPublic_any u W (by omega)
  | 6, _ => exact readPublic_any u W (by omega)
  | 7, _ => exact readText_any u W hu
theorem rwL_of (s : ByteArray) (j b : Nat) : rwL s.data.toList j b = rwOf s.size b (wdN (s.data.toList.drop b)) (wdR j (seg s.data.toList b (b + wdN (s.data.toList.drop b)))) := by
  unfold rwL rwOf
  rw [len_data]
  split
  · rfl
  · split <;> rename_i h <;> rw [h]
theorem readWord_any (j : Nat) (hj : j < 8) (s : ByteArray) (b : Nat) (w : World) (hs : s.size ≤ 256) (hb : b ≤ s.size) :
    Calls Tryz.prog 116 #[.string s, .int .i64 (b : Int), .func (.func (rdF j)) #[] #[]] w (RwPost (rwL s.data.toList j b) w) := by
  rw [rwL_of]
  have hn := wdN_le (s.data.toList.drop b)
  rw [List.length_drop, len_data] at hn
  have hR : ∀ W, Calls Tryz.prog (rdF j) #[.string (s.extract b (b + wdN (s.data.toList.drop b)))] W (WdPost (wdR j (seg s.data.toList b (b + wdN (s.data.toList.drop b)))) W) := fun W => by
    have := reads_any j hj (s.extract b (b + wdN (s.data.toList.drop b))) (by rw [ByteArray.size_extract]; omega) W
    rw [extract_data] at this
    exact this
  have hp : ∀ e p, wdR j (seg s.data.toList b (b + wdN (s.data.toList.drop b))) = .bad e p → p ≤ 1000 := fun e p h => wdR_le (by have := seg_le s.data.toList b (b + wdN (s.data.toList.drop b)); rw [len_data] at this; omega) h
  match j, hj with
  | 0, _ => exact readWord_149 s b _ w hs hb hR hp
  | 1, _ => exact readWord_151 s b _ w hs hb hR hp
  | 2, _ => exact readWord_151 s b _ w hs hb hR hp
  | 3, _ => exact readWord_154 s b _ w hs hb hR hp
  | 4, _ => exact readWord_154 s b _ w hs hb hR hp
  | 5, _ => exact readWord_154 s b _ w hs hb hR hp
  | 6, _ => exact readWord_154 s b _ w hs hb hR hp
  | 7, _ => exact readWord_159 s b _ w hs hb hR hp

end Go.Proofs.YtabmfdedbpmfmaaGreat

namespace Go.Proofs.YtabmfdedbpmfmaaGreat
open Go.RowKit Go.Shelf
set_option linter.unusedVariables false

set_option maxRecDepth 100000 in
set_option maxHeartbeats 8000000 in
theorem readClause_no (s : ByteArray) (a : Nat) (w : World) (hs : s.size ≤ 256) (ha : a ≤ s.size) (h8 : (opGo (s.data.toList.drop a) 8).1 = 8) :
    Calls Tryz.prog 88 #[.string s, .int .i64 (a : Int)] w (ClPost (clP s.data.toList a) w) := by
  have O1 := fun W => readOperator_any s a W hs ha
  have HC : Hid (clP s.data.toList a = ⟨8, pep0, [], false, a, a + (opGo (s.data.toList.drop a) 8).2, misL s.size (a + (opGo (s.data.toList.drop a) 8).2)⟩) := hide (by unfold clP; rw [if_pos h8, len_data])
  rw [HC.out]
  rw [h8, if_pos rfl, if_pos rfl] at O1
  have HM : Hid (misL s.size (a + (opGo (s.data.toList.drop a) 8).2) ≠ 0) := hide (by unfold misL; split <;> decide)
  have n1 : (misL s.size (a + (opGo (s.data.toList.drop a) 8).2) == 0) = false := by have := HM.out; simpa using this
  have hml := (opGo_le (s.data.toList.drop a) 8 (by omega)).2.1
  rw [List.length_drop, len_data] at hml
  generalize misL s.size (a + (opGo (s.data.toList.drop a) 8).2) = er at *
  generalize (opGo (s.data.toList.drop a) 8).2 = m at *
  obtain ⟨p, hp⟩ : ∃ p, a + m = p := ⟨_, rfl⟩
  rw [hp] at O1 ⊢
  have hps : p ≤ s.size := by omega
  clear hp
  change ∀ W, Calls Tryz.prog 115 #[.string s, .int .i64 (a : Int)] W fun e w' => e = .returned (.tuple #[.agg #[.string ⟨#[]⟩, .nilFunc, .nilFunc, .bool false], .int .i64 (p : Int), .int .i64 er]) ∧ Below W.heap.size W w' at O1
  have O1 := hide O1
  clear h8 HC
  have R0 := RC.start w a
  go_enter Tryz.func88, Tryz.ntmps88
  go_wp2_with fail
  generalize (w.alloc _).alloc _ = V0 at *
  refine (O1.out _).mono ?_
  rintro e w1 ⟨rfl, b1⟩
  have R2 := R0.below b1
  obtain ⟨x0, x1, x2, x3, x4, x5, x6, x7, x8, x9, x10, x11, x12, x13, x14, x15, x16, x17, x_0, x_1, x_2, x_3, x_4, x_5, x_6, x_7, x_8, x_9, x_10, x_11, x_12, x_13, x_14, x_15, x_16, x_17⟩ := seen18v R2.top
  obtain ⟨W6, hW6, R6, _⟩ := R2.op6 (.string ⟨#[]⟩) .nilFunc .nilFunc (.bool false) (.int .i64 (p : Int)) (.int .i64 er)
  have HW6 := hide hW6
  have HR6 := hide R6
  clear R0 R2 b1 O1 hW6 R6
  go_upto_region 3 with fail
  rw [← HW6.out]
  clear x0 x_0 x1 x_1 x2 x_2 x3 x_3 x4 x_4 x5 x_5 x6 x_6 x7 x_7 x8 x_8 x9 x_9 x10 x_10 x11 x_11 x12 x_12 x13 x_13 x14 x_14 x15 x_15 x16 x_16 x17 x_17 HW6
  obtain ⟨x0, x1, x2, x3, x4, x5, x6, x7, x8, x9, x10, x11, x12, x13, x14, x15, x16, x17, x_0, x_1, x_2, x_3, x_4, x_5, x_6, x_7, x_8, x_9, x_10, x_11, x_12, x_13, x_14, x_15, x_16, x_17⟩ := seen18v HR6.out.top
  obtain ⟨C9, B9, _⟩ := HR6.out.copy rfl
  have HC9 := hide C9
  have HB9 := hide B9
  have RG := hide (range_block HR6.out.top)
  have TH := hide (there_block (n := 18) HR6.out.res (Nat.le_refl _))
  clear C9 B9
  go_upto_region 7 with fail
  refine wp_region_lit (wpList_load_mid rfl 61 (.tmp 5) rfl (w.heap.size + 1) 0 rfl _ _ RG.out Tryz.underlying61 rfl size61 ?_)
  refine wpList_store_mid rfl 61 (.tmp 4) (.tmp 49) rfl w.heap.size 0 _ rfl rfl TH.out size61 (by simp [Value.oneCell']) (wpList_nil ?_)
  trace_state
  go_wp2_with fail
  refine fin88 _ _ w.heap.size _ rfl rfl HC9.out ?_
  exact clpost_no a p er HB9.out

end Go.Proofs.YtabmfdedbpmfmaaGreat

namespace Go.Proofs.YtabmfdedbpmfmaaGreat
open Go.RowKit Go.Shelf
set_option linter.unusedVariables false

set_option maxRecDepth 100000 in
set_option maxHeartbeats 8000000 in
theorem readClause_yes (s : ByteArray) (a : Nat) (w : World) (hs : s.size ≤ 256) (ha : a ≤ s.size) (j : Nat) (hj : (opGo (s.data.toList.drop a) 8).1 = j) (h8 : j < 8) :
    Calls Tryz.prog 88 #[.string s, .int .i64 (a : Int)] w (ClPost (clP s.data.toList a) w) := by
  have O1 := fun W => readOperator_any s a W hs ha
  have hml := opGo_le (s.data.toList.drop a) 8 (by omega)
  rw [hj, if_neg (by omega), if_neg (by omega)] at O1
  rw [List.length_drop, len_data, hj] at hml
  obtain ⟨_, _, _, _, o5, o6⟩ := op_cells j h8
  unfold opA at O1
  rw [fn_of o5, fn_of o6] at O1
  obtain ⟨p, hp⟩ : ∃ p, a + (sgn j).length = p := ⟨_, rfl⟩
  rw [hp] at O1
  have hps : p ≤ s.size := by omega
  have hz := skL_le s.data.toList p (by rw [len_data]; exact hps)
  rw [len_data] at hz
  have RN := fun W => Run_any s (p : Int) 6 W (by unfold maxLen; omega)
  have hr : runI s.data.toList (p : Int) 6 = ((skL s.data.toList p : Nat) : Int) := by rw [runI_in s p 6 hps]; unfold skL; omega
  rw [hr] at RN
  have RW := fun W => readWord_any j h8 s (skL s.data.toList p) W hs hz.2
  have hC : clP s.data.toList a = match rwL s.data.toList j (skL s.data.toList p) with
    | (.bad e _, z) => ⟨j, pep0, [], false, a, z, e⟩
    | (.ok x t st, z) => ⟨j, x, t, st, a, skL s.data.toList z, if skL s.data.toList z < s.data.toList.length ∧ s.data.toList[skL s.data.toList z]? ≠ some 44 then 10 else 0⟩ := by
    unfold clP
    rw [hj, if_neg (by omega), hp]
    rfl
  have HZ : ∀ x t st z, rwL s.data.toList j (skL s.data.toList p) = (.ok x t st, z) → z ≤ s.size := fun x t st z h => by
    rw [rwL_of] at h
    unfold rwOf at h
    have hn := wdN_le (s.data.toList.drop (skL s.data.toList p))
    rw [List.length_drop, len_data] at hn
    split at h
    · cases h
    · split at h
      · cases h
      · cases h; omega
  generalize hG : clP s.data.toList a = G at *
  generalize skL s.data.toList p = q at *
  generalize rwL s.data.toList j q = RZ at *
  obtain ⟨RR, z⟩ := RZ
  replace RN := hide RN
  replace RW := hide RW
  replace O1 := hide O1
  have HC := hide hC
  have HF1 := hide (fn_of o5)
  have HF2 := hide (fn_of o6)
  clear hC hG hml o5 o6 hr hj
  have R0 := RC.start w a
  cases RR with
  | bad er pp =>
    dsimp only at HC
    go_enter Tryz.func88, Tryz.ntmps88
    go_wp2_with fail
    generalize (w.alloc _).alloc _ = V0 at *
    refine (O1.out _).mono ?_
    rintro e w1 ⟨rfl, b1⟩
    have R2 := R0.below b1
    obtain ⟨x0, x1, x2, x3, x4, x5, x6, x7, x8, x9, x10, x11, x12, x13, x14, x15, x16, x17, x_0, x_1, x_2, x_3, x_4, x_5, x_6, x_7, x_8, x_9, x_10, x_11, x_12, x_13, x_14, x_15, x_16, x_17⟩ := seen18v R2.top
    obtain ⟨W6, hW6, R6, _⟩ := R2.op6 (.string (ofL (sgn j))) (.func (.func (rdF j)) #[] #[]) (.func (.func (hoF j)) #[] #[]) (.bool (opB j)) (.int .i64 (p : Int)) (.int .i64 0)
    have HW6 := hide hW6
    have HR6 := hide R6
    have h6 : w.heap.size + 2 ≤ W6.heap.size := R6.lt
    clear R0 R2 b1 O1 hW6 R6
    go_upto_region 3 with fail
    rw [← HW6.out]
    clear  x0 x_0 x1 x_1 x2 x_2 x3 x_3 x4 x_4 x5 x_5 x6 x_6 x7 x_7 x8 x_8 x9 x_9 x10 x_10 x11 x_11 x12 x_12 x13 x_13 x14 x_14 x15 x_15 x16 x_16 x17 x_17 HW6
    obtain ⟨x0, x1, x2, x3, x4, x5, x6, x7, x8, x9, x10, x11, x12, x13, x14, x15, x16, x17, x_0, x_1, x_2, x_3, x_4, x_5, x_6, x_7, x_8, x_9, x_10, x_11, x_12, x_13, x_14, x_15, x_16, x_17⟩ := seen18v HR6.out.top
    go_upto_region 4 with fail
    go_region_with
      ((first
        | (go_at_call 60; refine (RN.out _).mono ?_; rintro e w3 ⟨rfl, rfl⟩)
        | (go_at_call 116; refine (RW.out _).mono ?_; rintro e w3 ⟨b3, hne, rfl⟩; unfold zerV; have R3 := (HR6.out.below (Below.refl _ _).drew).below b3; have HR3 := hide R3; have HNE := hide hne; obtain ⟨d0, d1, d2, d3, d4, d5, d6, d7, d8, d9, d10, d11, d12, d13, d14, d15, d16, d17, e0, e1, e2, e3, e4, e5, e6, e7, e8, e9, e10, e11, e12, e13, e14, e15, e16, e17⟩ := seen18v R3.top; clear R3 hne b3)
        | fail))
    all_goals
      obtain ⟨W13, hW13, R13, _⟩ := HR3.out.as13 (.string ⟨#[]⟩) (.slice none 0 0) (.int .u8 0) (.string ⟨#[]⟩) (.bool false) (.string ⟨#[]⟩) (.bool false) (.string ⟨#[]⟩) (.slice none 0 0) (.string ⟨#[]⟩) (.bool false) (.int .i64 (z : Int)) (.int .i64 er)
      rw [← hW13]
      have HR13 := hide R13
      have n1 : (er == 0) = false := by have := HNE.out; simpa using this
      clear  x0 x_0 x1 x_1 x2 x_2 x3 x_3 x4 x_4 x5 x_5 x6 x_6 x7 x_7 x8 x_8 x9 x_9 x10 x_10 x11 x_11 x12 x_12 x13 x_13 x14 x_14 x15 x_15 x16 x_16 x17 x_17 d0 d1 d2 d3 d4 d5 d6 d7 d8 d9 d10 d11 d12 d13 d14 d15 d16 d17 e0 e1 e2 e3 e4 e5 e6 e7 e8 e9 e10 e11 e12 e13 e14 e15 e16 e17 R13 hW13
      have z17 := cell_at 17 HR13.out.top rfl
      obtain ⟨C9, B9, T9⟩ := HR13.out.copy rfl
      have HC9 := hide C9
      have HB9 := hide B9
      have HT9 := hide T9
      have RG := hide (range_block HR13.out.top)
      have TH := hide (there_block (n := 18) HR13.out.res (Nat.le_refl _))
      clear C9 B9 T9
      go_upto_region 7 with fail
      refine wp_region_lit (wpList_load_mid rfl 61 (.tmp 5) rfl (w.heap.size + 1) 0 rfl _ _ RG.out Tryz.underlying61 rfl size61 ?_)
      refine wpList_store_mid rfl 61 (.tmp 4) (.tmp 49) rfl w.heap.size 0 _ rfl rfl TH.out size61 (by simp [Value.oneCell']) (wpList_nil ?_)
      go_wp2_with fail
      refine fin88 _ _ w.heap.size _ rfl rfl HC9.out ?_
      rw [HC.out]
      exact clpost_bad j a z er HF1.out HF2.out HB9.out
  | ok x t st =>
    dsimp only at HC
    go_enter Tryz.func88, Tryz.ntmps88
    go_wp2_with fail
    generalize (w.alloc _).alloc _ = V0 at *
    refine (O1.out _).mono ?_
    rintro e w1 ⟨rfl, b1⟩
    have R2 := R0.below b1
    obtain ⟨x0, x1, x2, x3, x4, x5, x6, x7, x8, x9, x10, x11, x12, x13, x14, x15, x16, x17, x_0, x_1, x_2, x_3, x_4, x_5, x_6, x_7, x_8, x_9, x_10, x_11, x_12, x_13, x_14, x_15, x_16, x_17⟩ := seen18v R2.top
    obtain ⟨W6, hW6, R6, _⟩ := R2.op6 (.string (ofL (sgn j))) (.func (.func (rdF j)) #[] #[]) (.func (.func (hoF j)) #[] #[]) (.bool (opB j)) (.int .i64 (p : Int)) (.int .i64 0)
    have HW6 := hide hW6
    have HR6 := hide R6
    have h6 : w.heap.size + 2 ≤ W6.heap.size := R6.lt
    clear R0 R2 b1 O1 hW6 R6
    go_upto_region 3 with fail
    rw [← HW6.out]
    clear  x0 x_0 x1 x_1 x2 x_2 x3 x_3 x4 x_4 x5 x_5 x6 x_6 x7 x_7 x8 x_8 x9 x_9 x10 x_10 x11 x_11 x12 x_12 x13 x_13 x14 x_14 x15 x_15 x16 x_16 x17 x_17 HW6
    obtain ⟨x0, x1, x2, x3, x4, x5, x6, x7, x8, x9, x10, x11, x12, x13, x14, x15, x16, x17, x_0, x_1, x_2, x_3, x_4, x_5, x_6, x_7, x_8, x_9, x_10, x_11, x_12, x_13, x_14, x_15, x_16, x_17⟩ := seen18v HR6.out.top
    go_upto_region 4 with fail
    have E1 := hide (fun W => readEnd_any s z W hs (HZ x t st z rfl))
    generalize skL s.data.toList z = zz at *
    generalize hEE : (if zz < s.data.toList.length ∧ s.data.toList[zz]? ≠ some 44 then (10 : Int) else 0) = EE at *
    clear hEE
    go_region_with
      ((first
        | (go_at_call 60; refine (RN.out _).mono ?_; rintro e w3 ⟨rfl, rfl⟩)
        | (go_at_call 116; refine (RW.out _).mono ?_; rintro e w3 ⟨b3, vr, vl, rfl, t1, t2, fr1, fr2⟩; obtain ⟨r1, c1, rfl, _⟩ := id t1; obtain ⟨q1, d1', rfl, _⟩ := id t2; unfold verV; have R3 := (HR6.out.below (Below.refl _ _).drew).below b3; have HR3 := hide R3; have T1 := hide t1; have T2 := hide t2; have F1 := hide (fr1.mono h6); have F2 := hide (fr2.mono h6); obtain ⟨d0, d1, d2, d3, d4, d5, d6, d7, d8, d9, d10, d11, d12, d13, d14, d15, d16, d17, e0, e1, e2, e3, e4, e5, e6, e7, e8, e9, e10, e11, e12, e13, e14, e15, e16, e17⟩ := seen18v R3.top; clear R3 b3 t1 t2 fr1 fr2)
        | fail))
    all_goals
      obtain ⟨W13, hW13, R13, T13⟩ := HR3.out.as13 (.string (ofL x.ep)) (.slice r1 x.rel.length c1) (.int .u8 x.c) (.string (ofL x.n)) (.bool x.b) (.string (ofL x.m)) (.bool x.d) (.string (ofL x.k)) (.slice q1 x.loc.length d1') (.string (ofL t)) (.bool st) (.int .i64 (z : Int)) (.int .i64 0)
      rw [← hW13]
      have HR13 := hide R13
      have U1 := hide (T13 _ _ T1.out F1.out)
      have U2 := hide (T13 _ _ T2.out F2.out)
      clear  x0 x_0 x1 x_1 x2 x_2 x3 x_3 x4 x_4 x5 x_5 x6 x_6 x7 x_7 x8 x_8 x9 x_9 x10 x_10 x11 x_11 x12 x_12 x13 x_13 x14 x_14 x15 x_15 x16 x_16 x17 x_17 d0 d1 d2 d3 d4 d5 d6 d7 d8 d9 d10 d11 d12 d13 d14 d15 d16 d17 e0 e1 e2 e3 e4 e5 e6 e7 e8 e9 e10 e11 e12 e13 e14 e15 e16 e17 R13 T13 hW13
      have z16 := cell_at 16 HR13.out.top rfl
      have z17 := cell_at 17 HR13.out.top rfl
      go_wp2_with fail
      refine (E1.out _).mono ?_
      rintro e w4 ⟨rfl, b4⟩
      have R4 := HR13.out.below b4
      have V1 := hide (U1.out.below b4)
      have V2 := hide (U2.out.below b4)
      clear z16 z17
      have z16 := cell_at 16 R4.top rfl
      have z17 := cell_at 17 R4.top rfl
      have y16 := one_free 16 R4.top
      have y17 := one_free 17 R4.top
      obtain ⟨W14, hW14, R14, T14⟩ := R4.en2 (.int .i64 (zz : Int)) (.int .i64 EE)
      have HW14 := hide hW14
      have HR14 := hide R14
      have X1 := hide (T14 _ _ V1.out F1.out)
      have X2 := hide (T14 _ _ V2.out F2.out)
      clear hW14 R14 T14 R4 b4
      go_upto_region 7 with fail
      rw [← HW14.out]
      obtain ⟨C9, B9, T9⟩ := HR14.out.copy rfl
      have HC9 := hide C9
      have HB9 := hide B9
      have HT9 := hide T9
      have RG := hide (range_block HR14.out.top)
      have TH := hide (there_block (n := 18) HR14.out.res (Nat.le_refl _))
      clear C9 B9 T9
      refine wp_region_lit (wpList_load_mid rfl 61 (.tmp 5) rfl (w.heap.size + 1) 0 rfl _ _ RG.out Tryz.underlying61 rfl size61 ?_)
      refine wpList_store_mid rfl 61 (.tmp 4) (.tmp 49) rfl w.heap.size 0 _ rfl rfl TH.out size61 (by simp [Value.oneCell']) (wpList_nil ?_)
      go_wp2_with fail
      refine fin88 _ _ w.heap.size _ rfl rfl HC9.out ?_
      rw [HC.out]
      exact clpost_ok j a zz EE x t st _ _ HF1.out HF2.out HB9.out (HT9.out _ _ X1.out F1.out) (HT9.out _ _ X2.out F2.out) (F1.out.mono (Nat.le_add_right _ 2)) (F2.out.mono (Nat.le_add_right _ 2))

end Go.Proofs.YtabmfdedbpmfmaaGreat

namespace Go.Proofs.YtabmfdedbpmfmaaGreat
open Go.RowKit Go.Shelf
set_option linter.unusedVariables false

def foldC (N : Nat) : List Cl → List Cl → Int × Nat × List Cl
  | [], acc => (0, 0, acc)
  | x :: xs, acc => if acc.length = 32 ∧ x.s < N then (12, x.s, []) else if x.er ≠ 0 then (x.er, x.e, []) else foldC N xs (acc ++ [x])
theorem clP_s (l : List UInt8) (a : Nat) : (clP l a).s = a := by
  unfold clP
  split
  · rfl
  · split <;> rfl
theorem pyGo_fold (l : List UInt8) : ∀ (n m a : Nat) (acc : List Cl), n + acc.length = 33 → acc.length ≤ 32 → a ≤ l.length → l.length < a + m → pyGo l n a acc = foldC l.length (rowC l m a) acc
  | 0, m, a, acc, h1, h2, h3, h4 => by omega
  | n + 1, 0, a, acc, h1, h2, h3, h4 => by omega
  | n + 1, m + 1, a, acc, h1, h2, h3, h4 => by
    have hz := skL_le l a h3
    unfold pyGo rowC
    rw [if_pos h3]
    have hs := clP_s l (skL l a)
    have hok := fun h => clP_ok (l := l) hz.2 h
    generalize hx : clP l (skL l a) = x at *
    show _ = if acc.length = 32 ∧ x.s < l.length then (12, x.s, []) else if x.er ≠ 0 then (x.er, x.e, []) else foldC l.length (if x.er = 0 then rowC l m (x.e + 1) else []) (acc ++ [x])
    rw [hs]
    by_cases hA : acc.length = 32 ∧ skL l a < l.length
    · rw [if_pos hA, if_pos hA]
    · rw [if_neg hA, if_neg hA]
      by_cases hB : x.er ≠ 0
      · rw [if_pos hB, if_pos hB]
      · have hB0 : x.er = 0 := Classical.not_not.1 hB
        have hk := hok hB0
        rw [if_neg hB, if_neg hB, if_pos hB0]
        by_cases hC : x.e < l.length
        · rw [if_pos hC]
          refine pyGo_fold l n m (x.e + 1) (acc ++ [x]) ?_ ?_ (by omega) (by omega)
          · simp; omega
          · have : acc.length ≠ 32 := fun h => hA ⟨h, by omega⟩
            simp; omega
        · rw [if_neg hC, rowC_end (by omega)]
          rfl
theorem pyL_row (l : List UInt8) (h1 : l.length ≤ 256) (h2 : runL 6 l ≠ l.length) : pyL l = foldC l.length (rowC l 257 0) [] := by
  unfold pyL
  rw [if_neg (by omega), if_neg h2]
  exact pyGo_fold l 33 257 0 [] rfl (by simp) (by omega) (by omega)
theorem readClause_any (s : ByteArray) (a : Nat) (w : World) (hs : s.size ≤ 256) (ha : a ≤ s.size) : Calls Tryz.prog 88 #[.string s, .int .i64 (a : Int)] w (ClPost (clP s.data.toList a) w) := by
  by_cases h : (opGo (s.data.toList.drop a) 8).1 = 8
  · exact readClause_no s a w hs ha h
  · have := opGo_le (s.data.toList.drop a) 8 (by omega)
    exact readClause_yes s a w hs ha _ rfl (by omega)
end Go.Proofs.YtabmfdedbpmfmaaGreat
