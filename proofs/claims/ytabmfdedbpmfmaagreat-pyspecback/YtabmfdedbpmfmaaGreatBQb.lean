/-
  Walks: a word that need be no version. · Walks: the word behind any operator. · Plain: a clause in its ways; rows of clauses as they are answered. · The contract of strings.Join, laid at this dump. · Walks: which parts are fit; strings.Join at a dot. · Plain laws: a text behind a version of releases alone is read as if it stood alone; no program is named here. · Plain laws: behind a version of releases alone dev releases stand ahead of alphas, these of betas, candidates, the release, and that of post-releases; no program is named here.
-/
import Derived.Test.YtabmfdedbpmfmaaGreatBHf
import Derived.Test.YtabmfdedbpmfmaaGreatBGla
import Derived.Test.YtabmfdedbpmfmaaGreatBGlb
import Derived.Test.YtabmfdedbpmfmaaGreatBGlc
import Derived.Test.YtabmfdedbpmfmaaGreatBGh
import Derived.Test.YtabmfdedbpmfmaaGreatBGj
import Derived.Test.YtabmfdedbpmfmaaGreatBGl
import Derived.Shelf.Strings.OnBuilder
import Derived.Test.YtabmfdedbpmfmaaGreatProg
import Derived.Test.YtabmfdedbpmfmaaGreatBGc
import Derived.KernelRfl
namespace Go.Proofs.YtabmfdedbpmfmaaGreat
open Go.RowKit Go.Shelf
set_option linter.unusedVariables false

theorem badN_hit (s : ByteArray) (i : Nat) (h : i < s.size) (hc : s[i].toNat < 33 ∨ 126 < s[i].toNat) : badN (s.data.toList.drop i) = 0 := by
  rw [drop_at s i h, badN, if_pos]
  simp only [Bool.or_eq_true, decide_eq_true_eq]
  rcases hc with hc | hc
  · exact .inl (UInt8.lt_iff_toNat_lt.2 hc)
  · exact .inr (UInt8.lt_iff_toNat_lt.2 hc)
theorem badN_miss (s : ByteArray) (i : Nat) (h : i < s.size) (h1 : ¬ s[i].toNat < 33) (h2 : ¬ 126 < s[i].toNat) : badN (s.data.toList.drop i) = badN (s.data.toList.drop (i + 1)) + 1 := by
  rw [drop_at s i h, badN, if_neg]
  simp only [Bool.or_eq_true, decide_eq_true_eq, not_or]
  exact ⟨fun hc => h1 (UInt8.lt_iff_toNat_lt.1 hc), fun hc => h2 (UInt8.lt_iff_toNat_lt.1 hc)⟩
set_option maxRecDepth 100000 in
set_option maxHeartbeats 4000000 in
theorem readText_any (s : ByteArray) (w : World) (hs : s.size ≤ 256) :
    Calls Tryz.prog 159 #[.string s] w (WdPost (textW s.data.toList) w) := by
  have R0 := RB.start w
  have hTW : textW s.data.toList = if badN s.data.toList < s.size then .bad 10 (badN s.data.toList) else .ok pep0 s.data.toList false := by unfold textW; rw [len_data]
  generalize textW s.data.toList = R at *
  have HTW := hide hTW
  clear hTW
  go_enter Tryz.func159, Tryz.ntmps159
  go_wp2_with fail
  generalize (w.alloc _).alloc _ = W0 at *
  have R0 := hide R0
  have hlt : w.heap.size + 1 < W0.heap.size := R0.out.lt
  go_loopw [7] (fun y wr => ∃ i : Nat, i ≤ s.size ∧ y = .int .i64 i ∧ badN s.data.toList = i + badN (s.data.toList.drop i) ∧ wr = W0) (fun y _ => s.size - (intOf y).toNat)
  case atStart => exact ⟨0, by omega, rfl, by simp, rfl⟩
  case round =>
    obtain ⟨i, hi, rfl, hc, rfl⟩ := hrel
    by_cases hin : i < s.size
    · have hin' : (i : Int) < (s.size : Int) := by omega
      by_cases h1 : s[i].toNat < 33
      · have hcmp : (s[i].toNat : Int) < 33 := by omega
        have HR : Hid (R = .bad 10 i) := hide (by rw [HTW.out, hc, badN_hit s i hin (.inl h1), Nat.add_zero, if_pos hin])
        clear hc h1

        obtain ⟨x0, x1, x2, x3, x4, x5, x6, x7, x8, x9, x10, y0, y1, y2, y3, y4, y5, y6, y7, y8, y9, y10⟩ := seen11v R0.out.ver
        obtain ⟨f0, f1, g0, g1⟩ := seen2v R0.out.flt
        obtain ⟨W9, hW9, hRQ, hT9⟩ := R0.out.put13 (.string ⟨#[]⟩) (.slice none 0 0) (.int .u8 0) (.string ⟨#[]⟩) (.bool false) (.string ⟨#[]⟩) (.bool false) (.string ⟨#[]⟩) (.slice none 0 0) (.string ⟨#[]⟩) (.bool false) (.int .i64 10) (.int .i64 (i : Int))
        have HW9 := hide hW9
        have RQ := hide hRQ
        clear hRQ hT9 hW9
        go_wp2_with fail
        rw [← HW9.out]
        refine fin159 _ _ w.heap.size (w.heap.size + 1) _ _ _ _ _ _ _ _ _ _ _ _ _ ⟨_, _, _, rfl⟩ ⟨_, _, _, rfl⟩ rfl rfl RQ.out.ver RQ.out.flt ?_
        rw [HR.out]
        exact ⟨RQ.out.bel, by decide, false, rfl⟩
      · by_cases h2 : 126 < s[i].toNat
        · have hcmp : ¬ (s[i].toNat : Int) < 33 := by omega
          have hcmp2 : (126 : Int) < (s[i].toNat : Int) := by omega
          have HR : Hid (R = .bad 10 i) := hide (by rw [HTW.out, hc, badN_hit s i hin (.inr h2), Nat.add_zero, if_pos hin])
          clear hc h1 h2

          obtain ⟨x0, x1, x2, x3, x4, x5, x6, x7, x8, x9, x10, y0, y1, y2, y3, y4, y5, y6, y7, y8, y9, y10⟩ := seen11v R0.out.ver
          obtain ⟨f0, f1, g0, g1⟩ := seen2v R0.out.flt
          obtain ⟨W9, hW9, hRQ, hT9⟩ := R0.out.put13 (.string ⟨#[]⟩) (.slice none 0 0) (.int .u8 0) (.string ⟨#[]⟩) (.bool false) (.string ⟨#[]⟩) (.bool false) (.string ⟨#[]⟩) (.slice none 0 0) (.string ⟨#[]⟩) (.bool false) (.int .i64 10) (.int .i64 (i : Int))
          have HW9 := hide hW9
          have RQ := hide hRQ
          clear hRQ hT9 hW9
          go_wp2_with fail
          rw [← HW9.out]
          refine fin159 _ _ w.heap.size (w.heap.size + 1) _ _ _ _ _ _ _ _ _ _ _ _ _ ⟨_, _, _, rfl⟩ ⟨_, _, _, rfl⟩ rfl rfl RQ.out.ver RQ.out.flt ?_
          rw [HR.out]
          exact ⟨RQ.out.bel, by decide, false, rfl⟩
        · have hcmp : ¬ (s[i].toNat : Int) < 33 := by omega
          have hcmp2 : ¬ (126 : Int) < (s[i].toNat : Int) := by omega
          have HC := hide (hc.trans (by rw [badN_miss s i hin h1 h2]))
          clear hc h1 h2
          go_wp2_with fail
          go_roundw
          case rel => exact ⟨i + 1, by omega, by go_num, by have := HC.out; omega, by trivial⟩
          case measure => simp [intOf]; omega
    · have hin' : ¬ (i : Int) < (s.size : Int) := by omega
      have HR : Hid (R = .ok pep0 s.data.toList false) := hide (by
        rw [HTW.out, if_neg]
        rw [hc, drop_end s i (by omega), badN]
        omega)
      clear hc
      obtain ⟨x0, x1, x2, x3, x4, x5, x6, x7, x8, x9, x10, y0, y1, y2, y3, y4, y5, y6, y7, y8, y9, y10⟩ := seen11v R0.out.ver
      obtain ⟨f0, f1, g0, g1⟩ := seen2v R0.out.flt
      obtain ⟨W9, hW9, hRQ, hT9⟩ := R0.out.put13 (.string ⟨#[]⟩) (.slice none 0 0) (.int .u8 0) (.string ⟨#[]⟩) (.bool false) (.string ⟨#[]⟩) (.bool false) (.string ⟨#[]⟩) (.slice none 0 0) (.string s) (.bool false) (.int .i64 0) (.int .i64 0)
      have HW9 := hide hW9
      have RQ := hide hRQ
      clear hRQ hT9 hW9
      go_wp2_with fail
      rw [← HW9.out]
      refine fin159 _ _ w.heap.size (w.heap.size + 1) _ _ _ _ _ _ _ _ _ _ _ _ _ ⟨_, _, _, rfl⟩ ⟨_, _, _, rfl⟩ rfl rfl RQ.out.ver RQ.out.flt ?_
      rw [HR.out]
      exact ⟨RQ.out.bel, .slice none 0 0, .slice none 0 0, by rw [ofL_self]; rfl, ⟨none, 0, rfl, .inl rfl⟩, ⟨none, 0, rfl, .inl rfl⟩, fun a i c e => (by cases e), fun a i c e => (by cases e)⟩

end Go.Proofs.YtabmfdedbpmfmaaGreat

namespace Go.Proofs.YtabmfdedbpmfmaaGreat
open Go.RowKit Go.Shelf
set_option linter.unusedVariables false

theorem verX_le (l : List UInt8) : (verX l).2 ≤ l.length := by
  have l1 : vp1 l ≤ l.length := (skip_le l 0 [118] (Nat.zero_le _)).2
  have l2 : vp2 l ≤ l.length := (epo_le l (vp1 l) l1).2
  have l3 : vp3 l ≤ l.length := lastE_le l 1 [46] (vp2 l) l2
  have l4 : vp4 l ≤ l.length := (stP_le l (vp3 l) preWs l3).2
  have l5 : vp5 l ≤ l.length := (posP_le l (vp4 l) l4).2
  have l6 : vp6 l ≤ l.length := (stP_le l (vp5 l) devWs l5).2
  have l7 : vp7 l ≤ l.length := (skip_le l (vp6 l) [43] l6).2
  have l8 : vp8 l ≤ l.length := lastE_le l 5 [45, 95, 46] (vp7 l) l7
  unfold verX
  repeat' split
  all_goals assumption
theorem errX_le (l : List UInt8) : (errX l).2 ≤ 64 := by
  unfold errX
  split
  · exact Nat.le_refl _
  · have := verX_le (lowL l)
    rw [lowL_len] at this
    omega
theorem only_le {may : PepL → Bool} {u : List UInt8} {e : Int} {p : Nat} (h : onlyW may u = .bad e p) : p ≤ 64 := by
  unfold onlyW at h
  split at h
  · split at h
    · cases h
    · cases h; omega
  · cases h; exact errX_le u
theorem wdR_le {k : Nat} {u : List UInt8} {e : Int} {p : Nat} (hu : u.length ≤ 256) (h : wdR k u = .bad e p) : p ≤ 1000 := by
  unfold wdR at h
  split at h
  · have := only_le h; omega
  · split at h
    · split at h
      · cases hq : onlyW bareB (u.take (u.length - 2)) with
        | bad e2 p2 =>
          rw [hq] at h
          cases h
          have := only_le hq
          omega
        | ok x t st => rw [hq] at h; cases h
      · have := only_le h; omega
    · split at h
      · unfold textW at h
        split at h
        · cases h; omega
        · cases h
      · have := only_le h; omega
theorem reads_any (j : Nat) (hj : j < 8) (u : ByteArray) (hu : u.size ≤ 256) (W : World) : Calls Tryz.prog (rdF j) #[.string u] W (WdPost (wdR j u.data.toList) W) := by
  have st : ∀ j, j = 1 ∨ j = 2 → Calls Tryz.prog 151 #[.string u] W (WdPost (wdR j u.data.toList) W) := by
    intro j hj
    unfold wdR
    rw [if_neg (by omega), if_pos hj]
    cases hE : endsW u.data.toList
    · rw [if_neg (by simp)]
      exact readStarred_no u W (by omega) hE
    · rw [if_pos rfl]
      exact readStarred_yes u W (by omega) hE
  match j, hj with
  | 0, _ => exact readCompatible_any u W (by omega)
  | 1, _ => exact st 1 (.inl rfl)
  | 2, _ => exact st 2 (.inr rfl)
  | 3, _ => exact readPublic_any u W (by omega)
  | 4, _ => exact readPublic_any u W (by omega)
  | 5, _ => exact readPublic_any u W (by omega)
  | 6, _ => exact readPublic_any u W (by omega)
  | 7, _ => exact readText_any u W hu
theorem rwL_of (s : ByteArray) (j b : Nat) : rwL s.data.toList j b = rwOf s.size b (wdN (s.data.toList.drop b)) (wdR j (seg s.data.toList b (b + wdN (s.data.toList.drop b)))) := by
  unfold rwL rwOf
  rw [len_data]
  split
  · rfl
  · split <;> rename_i h <;> rw [h]
theorem readWord_any (j : Nat) (hj : j < 8) (s : ByteArray) (b : Nat) (w : World) (hs : s.size ≤ 256) (hb : b ≤ s.size) :
    Calls Tryz.prog 116 #[.string s, .int .i64 (b : Int), .func (.func (rdF j)) #[] #[]] w (RwPost (rwL s.data.toList j b) w) := by
  rw [rwL_of]
  have hn := wdN_le (s.data.toList.drop b)
  rw [List.length_drop, len_data] at hn
  have hR : ∀ W, Calls Tryz.prog (rdF j) #[.string (s.extract b (b + wdN (s.data.toList.drop b)))] W (WdPost (wdR j (seg s.data.toList b (b + wdN (s.data.toList.drop b)))) W) := fun W => by
    have := reads_any j hj (s.extract b (b + wdN (s.data.toList.drop b))) (by rw [ByteArray.size_extract]; omega) W
    rw [extract_data] at this
    exact this
  have hp : ∀ e p, wdR j (seg s.data.toList b (b + wdN (s.data.toList.drop b))) = .bad e p → p ≤ 1000 := fun e p h => wdR_le (by have := seg_le s.data.toList b (b + wdN (s.data.toList.drop b)); rw [len_data] at this; omega) h
  match j, hj with
  | 0, _ => exact readWord_149 s b _ w hs hb hR hp
  | 1, _ => exact readWord_151 s b _ w hs hb hR hp
  | 2, _ => exact readWord_151 s b _ w hs hb hR hp
  | 3, _ => exact readWord_154 s b _ w hs hb hR hp
  | 4, _ => exact readWord_154 s b _ w hs hb hR hp
  | 5, _ => exact readWord_154 s b _ w hs hb hR hp
  | 6, _ => exact readWord_154 s b _ w hs hb hR hp
  | 7, _ => exact readWord_159 s b _ w hs hb hR hp

end Go.Proofs.YtabmfdedbpmfmaaGreat

namespace Go.Proofs.YtabmfdedbpmfmaaGreat
open Go.RowKit Go.Shelf
set_option linter.unusedVariables false

def plL (c : Cl) : List Value := [.string (ofL (sgn c.k)), .string (ofL c.t), .bool c.st]
theorem plL_one (c : Cl) : ∀ u ∈ plL c, u.oneCell' = true := by
  intro u hu
  simp only [plL, List.mem_cons, List.not_mem_nil, or_false] at hu
  rcases hu with rfl | rfl | rfl <;> rfl
def PyAt (W : World) (v : Value) (cs : List Cl) : Prop :=
  ∃ a cap, v = .slice a cs.length cap ∧ (cs = [] ∨ ∃ b, a = some ⟨b, 0, none⟩ ∧ b < W.heap.size ∧ ∀ j u, (cs.flatMap plL)[j]? = some u → W.cell? ⟨b, j, none⟩ = some u)
theorem PyAt.nil (W : World) : PyAt W (.slice none 0 0) [] := ⟨none, 0, rfl, .inl rfl⟩
theorem py_own {W : World} {base : Nat} {v : Value} {cs : List Cl} (h : W.ownsRow base 32 3 v cs.length (cs.flatMap plL)) : PyAt W v cs := by
  obtain ⟨a, c, rfl, h0 | ⟨g, rfl, hg, hc⟩⟩ := ownA_cells h
  · exact ⟨a, c, rfl, .inl (List.length_eq_zero_iff.1 h0)⟩
  · exact ⟨_, c, rfl, .inr ⟨g, rfl, hg, hc⟩⟩
theorem PyAt.below {W W' : World} {v : Value} {cs : List Cl} (h : PyAt W v cs) (hb : Below W.heap.size W W') : PyAt W' v cs := by
  obtain ⟨a, c, rfl, h0 | ⟨g, rfl, hg, hc⟩⟩ := h
  · exact ⟨a, c, rfl, .inl h0⟩
  · exact ⟨_, c, rfl, .inr ⟨g, rfl, Nat.lt_of_lt_of_le hg hb.size, fun j u hj => (hb.cell hg).trans (hc j u hj)⟩⟩
theorem own_fresh {W : World} {base : Nat} {e : TypeId} {size : Nat} {v : Value} {n : Nat} {xs : List Value} (h : W.ownsRow base e size v n xs) : FreshC base v := fun a i c e => ⟨(ownA_lt h a.block (by rw [e]; rfl)).1, cap_row h _ _ _ e⟩
theorem info_parts {P : Program} {t : TypeId} {z : Value} {size bytes : Nat} (h : (P.info? t).map (fun i => (i.zero, i.size, i.bytes)) = some (some z, size, bytes)) : ∃ i, P.info? t = some i ∧ i.zero = some z ∧ i.size = size ∧ i.bytes = bytes := by
  cases hi : P.info? t with
  | none => rw [hi] at h; cases h
  | some i =>
    rw [hi] at h
    simp only [Option.map_some, Option.some.injEq, Prod.mk.injEq] at h
    exact ⟨i, rfl, h.1, h.2.1, h.2.2⟩
theorem info32 : (Tryz.prog.info? 32).map (fun i => (i.zero, i.size, i.bytes)) = some (some (.agg #[.string ⟨#[]⟩, .string ⟨#[]⟩, .bool false]), 3, 40) := by kernel_rfl
theorem news_at (W : World) (cs : Array Value) (t : TypeId) : ∀ j u, cs.toList[j]? = some u → (W.alloc (.cells cs t)).cell? ((⟨W.heap.size, 0, none⟩ : Addr).add j) = some u := by
  intro j u h
  have : (⟨W.heap.size, 0, none⟩ : Addr).add j = ⟨W.heap.size, j, none⟩ := by unfold Addr.add; split <;> simp_all
  rw [this]
  exact cell_at j (World.alloc_heap_new W _) (by simpa using h)

end Go.Proofs.YtabmfdedbpmfmaaGreat

namespace Go.Proofs.YtabmfdedbpmfmaaGreat
open Go.Shelf
def Tryz.lays156_ren : Go.Shelf.Ren := ⟨fun | 156 => 66 | 165 => 92 | 166 => 93 | 169 => 94 | 240 => 118 | 241 => 119 | 276 => 137 | 277 => 138 | n => n, fun | 31 => 37 | 9 => 9 | 3 => 3 | 4 => 4 | 0 => 0 | 20 => 20 | 72 => 115 | 76 => 119 | 70 => 113 | 37 => 97 | 75 => 118 | 127 => 147 | 164 => 161 | 5 => 5 | 80 => 82 | n => n, fun | n => n⟩
theorem Tryz.lays156 : Go.Proofs.Lays.n156 Tryz.prog Tryz.lays156_ren := {
  mixed := by kernel_rfl
  f156 := Tryz.func66.trans (congrArg some (by kernel_rfl))
  f165 := Tryz.func92.trans (congrArg some (by kernel_rfl))
  f166 := Tryz.func93.trans (congrArg some (by kernel_rfl))
  f169 := Tryz.func94.trans (congrArg some (by kernel_rfl))
  f240 := Tryz.func118.trans (congrArg some (by kernel_rfl))
  f241 := Tryz.func119.trans (congrArg some (by kernel_rfl))
  f276 := Tryz.func137.trans (congrArg some (by kernel_rfl))
  f277 := Tryz.func138.trans (congrArg some (by kernel_rfl))
  t0 := Tryz.underlying0
  a0 := Tryz.isAgg0
  z0 := Tryz.sizeOf0
  v0 := Tryz.zeroValue0
  t3 := Tryz.underlying3
  a3 := Tryz.isAgg3
  z3 := Tryz.sizeOf3
  v3 := Tryz.zeroValue3
  t4 := Tryz.underlying4
  a4 := Tryz.isAgg4
  z4 := Tryz.sizeOf4
  v4 := Tryz.zeroValue4
  t9 := Tryz.underlying9
  a9 := Tryz.isAgg9
  z9 := Tryz.sizeOf9
  v9 := Tryz.zeroValue9
  t20 := Tryz.underlying20
  a20 := Tryz.isAgg20
  z20 := Tryz.sizeOf20
  v20 := Tryz.zeroValue20
  t31 := Tryz.underlying37
  a31 := Tryz.isAgg37
  z31 := Tryz.sizeOf37
  v31 := Tryz.zeroValue37
  t37 := Tryz.underlying97
  a37 := Tryz.isAgg97
  z37 := Tryz.sizeOf97
  v37 := Tryz.zeroValue97
  t70 := Tryz.underlying113
  a70 := Tryz.isAgg113
  z70 := Tryz.sizeOf113
  v70 := Tryz.zeroValue113
  t72 := Tryz.underlying115
  a72 := Tryz.isAgg115
  z72 := Tryz.sizeOf115
  v72 := Tryz.zeroValue115
  t75 := Tryz.underlying118
  a75 := Tryz.isAgg118
  z75 := Tryz.sizeOf118
  v75 := Tryz.zeroValue118
  t76 := Tryz.underlying119
  a76 := Tryz.isAgg119
  z76 := Tryz.sizeOf119
  v76 := Tryz.zeroValue119
  t127 := Tryz.underlying147
  a127 := Tryz.isAgg147
  z127 := Tryz.sizeOf147
  v127 := Tryz.zeroValue147
  t164 := Tryz.underlying161
  a164 := Tryz.isAgg161
  z164 := Tryz.sizeOf161
  v164 := Tryz.zeroValue161 }
theorem Tryz.Builder_Extra_156 : Builder.Extra Tryz.prog Tryz.lays156_ren := {
  sizeBuilder := by kernel_rfl
  liesBuilder := by kernel_rfl
  t5 := Tryz.underlying5
  a5 := Tryz.isAgg5
  z5 := Tryz.sizeOf5
  v5 := Tryz.zeroValue5
  infoByte := by kernel_rfl
  cellsByte := by kernel_rfl
  sizeByte := by kernel_rfl
  neB5 := by decide }
open Go.RowKit in
theorem Tryz.strings_Join_none (a : Option Addr) (c : Nat) (sep : ByteArray) (w : World) :
    Calls Tryz.prog 66 #[.slice a 0 c, .string sep] w fun e w' => e = .returned (.string ⟨#[]⟩) ∧ w' = w := Any.strings_Join_none Tryz.lays156 Tryz.Builder_Extra_156 a c sep w
open Go.RowKit in
theorem Tryz.strings_Join (bk o c : Nat) (xs : List ByteArray) (sep : ByteArray) (w : World) (hcells : ∀ (j : Nat) x, xs[j]? = some x → w.cell? ⟨bk, o + j, none⟩ = some (.string x)) (hbk : bk < w.heap.size) (hN : xs.length ≤ 140737488355328) (hcap : xs.length ≤ c) (hlen : (Lib.join (xs.map (·.data.toList)) sep.data.toList).length ≤ 140737488355328) :
    Calls Tryz.prog 66 #[.slice (some ⟨bk, o, none⟩) xs.length c, .string sep] w fun e w' => e = .returned (.string ⟨(Lib.join (xs.map (·.data.toList)) sep.data.toList).toArray⟩) ∧ Below w.heap.size w w' := Any.strings_Join Tryz.lays156 Tryz.Builder_Extra_156 bk o c xs sep w hcells hbk hN hcap hlen
end Go.Proofs.YtabmfdedbpmfmaaGreat

namespace Go.Proofs.YtabmfdedbpmfmaaGreat
open Go.RowKit Go.Shelf
set_option linter.unusedVariables false

def trimB (l : List UInt8) : Bool := digB l && (trimL l == l)
theorem eqLs (a b : List UInt8) (x : Bool) (h : (a == b) = x) : ((ofL a).toList == (ofL b).toList) = x := by rw [toL, toL, ofL_data, ofL_data]; exact h
set_option maxHeartbeats 400000 in
theorem isTrimmed_any (l : List UInt8) (w : World) (hl : l.length ≤ 9223372036854775806) :
    Calls Tryz.prog 195 #[.string (ofL l)] w fun e w' => e = .returned (.bool (trimB l)) ∧ w' = w := by
  have D := fun w => isDigits_any (ofL l) w (by rw [ofL_size]; unfold maxLen; omega)
  have TR := fun w => Trim_any (ofL l) w (by rw [ofL_size]; unfold maxLen; omega)
  rw [ofL_data] at D TR
  cases hd : digB l
  · have HO : Hid (trimB l = false) := by show _ = _; unfold trimB; rw [hd]; rfl
    rw [hd] at D
    have D := hide D
    clear hd
    go_enter Tryz.func195, Tryz.ntmps195
    go_wp2_with fail
    refine (D.out _).mono ?_
    rintro e w' ⟨rfl, rfl⟩
    go_wp2_with fail
    go_ret
    exact ⟨ret_b HO.out.symm, rfl⟩
  · rw [hd] at D
    cases he : (trimL l == l)
    · have HO : Hid (trimB l = false) := by show _ = _; unfold trimB; rw [hd, he]; rfl
      have eb := eqLs _ _ _ he
      have D := hide D
      have TR := hide TR
      clear hd he
      go_enter Tryz.func195, Tryz.ntmps195
      go_wp2_with fail
      refine (D.out _).mono ?_
      rintro e w' ⟨rfl, rfl⟩
      go_wp2_with fail
      refine (TR.out _).mono ?_
      rintro e w' ⟨rfl, rfl⟩
      go_wp2_with fail
      go_ret
      exact ⟨ret_b HO.out.symm, rfl⟩
    · have HO : Hid (trimB l = true) := by show _ = _; unfold trimB; rw [hd, he]; rfl
      have eb := eqLs _ _ _ he
      have D := hide D
      have TR := hide TR
      clear hd he
      go_enter Tryz.func195, Tryz.ntmps195
      go_wp2_with fail
      refine (D.out _).mono ?_
      rintro e w' ⟨rfl, rfl⟩
      go_wp2_with fail
      refine (TR.out _).mono ?_
      rintro e w' ⟨rfl, rfl⟩
      go_wp2_with fail
      go_ret
      exact ⟨ret_b HO.out.symm, rfl⟩
def numB (l : List UInt8) (asked : Bool) : Bool := if asked then trimB l else l == []
set_option maxHeartbeats 400000 in
theorem fitsNumber_any (l : List UInt8) (b : Bool) (w : World) (hl : l.length ≤ 9223372036854775806) :
    Calls Tryz.prog 197 #[.string (ofL l), .bool b] w fun e w' => e = .returned (.bool (numB l b)) ∧ w' = w := by
  cases b
  · have HO : Hid ((ofL l).toList.isEmpty = numB l false) := by show _ = _; rw [toL, ofL_data]; cases l <;> rfl
    go_enter Tryz.func197, Tryz.ntmps197
    go_wp2_with fail
    go_ret
    exact ⟨ret_b HO.out, rfl⟩
  · have HO : Hid (numB l true = trimB l) := rfl
    have C := hide (fun w => isTrimmed_any l w hl)
    go_enter Tryz.func197, Tryz.ntmps197
    go_wp2_with fail
    refine (C.out _).mono ?_
    rintro e w' ⟨rfl, rfl⟩
    go_wp2_with fail
    go_ret
    exact ⟨ret_b HO.out.symm, rfl⟩
def locB (l : List UInt8) : Bool := !l.isEmpty && (runL 5 l == l.length) && (lowL l == l) && (plainL l == l)
set_option maxHeartbeats 1000000 in
theorem fitsLocal_any (l : List UInt8) (w : World) (hl : l.length ≤ 140737488351232) :
    Calls Tryz.prog 198 #[.string (ofL l)] w fun e w' => e = .returned (.bool (locB l)) ∧ Below w.heap.size w w' := by
  have q := ofL_size l
  have R := fun w => Run_any (ofL l) 0 5 w (by rw [ofL_size]; unfold maxLen; omega)
  have hR : runI (ofL l).data.toList 0 5 = (runL 5 l : Int) := by have := runI_in (ofL l) 0 5 (by omega); rw [ofL_data] at this ⊢; simpa using this
  rw [hR] at R
  have L := fun w => Lower_any (ofL l) w (by rw [ofL_size]; unfold maxLen; omega)
  have P := fun w => plain_any (ofL l) w (by rw [ofL_size]; unfold maxLen; omega)
  rw [ofL_data] at L P
  change ∀ w, Calls Tryz.prog 95 _ w fun e w' => e = .returned (.string (ofL (lowL l))) ∧ Below w.heap.size w w' at L
  have HB : Hid (locB l = (!l.isEmpty && (runL 5 l == l.length) && (lowL l == l) && (plainL l == l))) := rfl
  have R := hide R
  have L := hide L
  have P := hide P
  generalize locB l = B at *
  clear hR
  by_cases h0 : l = []
  · have e0 : ((ofL l).toList == []) = true := by rw [toL, ofL_data, h0]; rfl
    have HO : Hid (B = false) := by show _ = _; rw [HB.out, h0]; rfl
    clear h0
    go_enter Tryz.func198, Tryz.ntmps198
    go_wp2_with fail
    go_ret
    exact ⟨ret_b HO.out.symm, Below.refl _ _⟩
  · have e0 : ((ofL l).toList == []) = false := by rw [toL, ofL_data]; simpa using h0
    have h0' : l.isEmpty = false := by simpa using h0
    by_cases h1 : runL 5 l = l.length
    · have e1 : ((runL 5 l : Int) == (l.length : Int)) = true := by simp; omega
      cases h2 : (lowL l == l)
      · have e2 := eqLs _ _ _ h2
        have HO : Hid (B = false) := by show _ = _; rw [HB.out, h2]; simp
        clear h0 h1 h2 h0'
        go_enter Tryz.func198, Tryz.ntmps198
        go_wp2_with fail
        refine (R.out _).mono ?_
        rintro e w' ⟨rfl, rfl⟩
        go_wp2_with fail
        refine (L.out _).mono ?_
        rintro e w1 ⟨rfl, b1⟩
        go_wp2_with fail
        go_ret
        exact ⟨ret_b HO.out.symm, b1⟩
      · have e2 := eqLs _ _ _ h2
        have HO : Hid (B = (plainL l == l)) := by show _ = _; rw [HB.out, h2, h0', h1]; simp
        obtain ⟨z, hz⟩ : ∃ z, (plainL l == l) = z := ⟨_, rfl⟩
        have e3 := eqLs _ _ _ hz
        rw [hz] at HO
        clear h0 h1 h2 h0' hz
        go_enter Tryz.func198, Tryz.ntmps198
        go_wp2_with fail
        refine (R.out _).mono ?_
        rintro e w' ⟨rfl, rfl⟩
        go_wp2_with fail
        refine (L.out _).mono ?_
        rintro e w1 ⟨rfl, b1⟩
        go_wp2_with fail
        refine (P.out _).mono ?_
        rintro e w' ⟨rfl, rfl⟩
        go_wp2_with fail
        go_ret
        exact ⟨ret_b HO.out.symm, b1⟩
    · have e1 : ((runL 5 l : Int) == (l.length : Int)) = false := by simp; omega
      have HO : Hid (B = false) := by show _ = _; rw [HB.out]; simp [h1]
      clear h0 h1 h0'
      go_enter Tryz.func198, Tryz.ntmps198
      go_wp2_with fail
      refine (R.out _).mono ?_
      rintro e w' ⟨rfl, rfl⟩
      go_wp2_with fail
      go_ret
      exact ⟨ret_b HO.out.symm, Below.refl _ _⟩

set_option maxHeartbeats 400000 in
theorem not42_any (l : List UInt8) (B : Nat) (w : World) (hl : l.length ≤ 140737488351232) (hB : w.heap[B]? = some (.cells #[.func (.func 195) #[] #[]] 29 (0, 0))) :
    Calls Tryz.prog 203 #[.string (ofL l), .pointer (some ⟨B, 0, none⟩)] w fun e w' => e = .returned (.bool (!trimB l)) ∧ Below w.heap.size w w' := by
  have c0 := cell_at 0 hB rfl
  have C := hide (fun w => isTrimmed_any l w (by omega))
  go_enter Tryz.func203, Tryz.ntmps203
  go_wp2_with fail
  refine (C.out _).mono ?_
  rintro e w1 ⟨rfl, b1⟩
  go_wp2_with fail
  go_ret
  exact ⟨rfl, by first | exact Below.refl _ _ | (rw [b1]; exact Below.refl _ _)⟩

set_option maxHeartbeats 1000000 in
theorem index42_any (v : Value) (ts : List (List UInt8)) (B : Nat) (w : World) (hv : Txt w v ts) (hs : ts.length ≤ 1048576 ∧ ∀ t ∈ ts, t.length ≤ 1048576) (hB : w.heap[B]? = some (.cells #[.func (.func 195) #[] #[]] 29 (0, 0))) :
    Calls Tryz.prog 204 #[v, .func (.func 203) #[] #[.pointer (some ⟨B, 0, none⟩)]] w fun e w' => (∃ i : Int, e = .returned (.int .i64 i) ∧ decide (0 ≤ i) = !ts.all trimB) ∧ Below w.heap.size w w' := by
  obtain ⟨a1, c1, rfl, _⟩ := id hv
  have HV := hide hv
  have HS := hide hs
  have ls := hs.1
  have HB := hide hB
  clear hv hs hB
  go_enter Tryz.func204, Tryz.ntmps204
  go_wp2_with fail
  go_loopw [8] (fun i wr => ∃ k : Nat, k ≤ ts.length ∧ i = .int .i64 k ∧ Hid (ts.all trimB = (ts.drop k).all trimB) ∧ Below w.heap.size w wr) (fun i _ => ts.length - (intOf i).toNat)
  case atStart => exact ⟨0, by omega, rfl, by simp [Hid], Below.refl _ _⟩
  case round =>
    obtain ⟨k, hk, rfl, HR, bW⟩ := hrel
    have hv1 := HV.out.below bW
    by_cases h1 : k < ts.length
    · have hlt' : (k : Int) < (ts.length : Int) := by omega
      obtain ⟨b1, o1, rfl, hc1⟩ := hv1.some (by omega)
      have p1 := hc1 k h1
      clear hc1
      have C := fun w h => not42_any ts[k] B w (by have := HS.out.2 _ (List.getElem_mem h1); omega) h
      have hX : (ts.drop k).all trimB = (trimB ts[k] && (ts.drop (k + 1)).all trimB) := by rw [List.drop_eq_getElem_cons h1, List.all_cons]
      have hBB := (bW.block _ (Array.getElem?_eq_some_iff.1 HB.out).1).trans HB.out
      have C := C wr hBB
      generalize ts[k] = t at *
      generalize trimB t = b at *
      have HC := hide C
      have HX := hide hX
      clear C hX hv1 hBB
      cases b
      · go_wp2_with fail
        refine HC.out.mono ?_
        rintro e w2 ⟨rfl, b2⟩
        go_wp2_with fail
        go_ret
        exact ⟨⟨_, rfl, by rw [HR.out, HX.out]; simp⟩, bW.trans (b2.mono bW.size)⟩
      · go_wp2_with fail
        refine HC.out.mono ?_
        rintro e w2 ⟨rfl, b2⟩
        go_wp2_with fail
        go_roundw
        case rel => exact ⟨k + 1, by omega, by go_num, by rw [HR.out, HX.out]; simp [Hid], bW.trans (b2.mono bW.size)⟩
        case measure => simp [intOf]; omega
    · have hlt' : ¬ (k : Int) < (ts.length : Int) := by omega
      go_wp2_with fail
      go_ret
      exact ⟨⟨_, rfl, by rw [HR.out, List.drop_eq_nil_of_le (by omega)]; rfl⟩, bW⟩

set_option maxHeartbeats 1000000 in
theorem all42_any (v : Value) (ts : List (List UInt8)) (w : World) (hv : Txt w v ts) (hs : ts.length ≤ 1048576 ∧ ∀ t ∈ ts, t.length ≤ 1048576) :
    Calls Tryz.prog 196 #[v, .func (.func 195) #[] #[]] w fun e w' => e = .returned (.bool (ts.all trimB)) ∧ Below w.heap.size w w' := by
  obtain ⟨a1, c1, rfl, _⟩ := id hv
  have bb := (Below.refl _ w).alloc (Nat.le_refl _) (.cells #[.func (.func 195) #[] #[]] 29)
  have IX := index42_any _ ts w.heap.size _ (hv.below bb) hs (World.alloc_heap_new w _)
  have CF : Hid (Calls Tryz.prog 202 #[.slice a1 ts.length c1, .func (.func 203) #[] #[.pointer (some ⟨w.heap.size, 0, none⟩)]] (w.alloc (.cells #[.func (.func 195) #[] #[]] 29)) fun e w' => e = .returned (.bool (!ts.all trimB)) ∧ Below (w.alloc (.cells #[.func (.func 195) #[] #[]] 29)).heap.size (w.alloc (.cells #[.func (.func 195) #[] #[]] 29)) w') := by
    have IX := hide IX
    generalize ts.all trimB = b at *
    show Calls _ _ _ _ _
    go_enter Tryz.func202, Tryz.ntmps202
    go_wp2_with fail
    refine IX.out.mono ?_
    rintro e w1 ⟨⟨i, rfl, hi⟩, b1⟩
    go_wp2_with fail
    go_ret
    exact ⟨ret_b (by first | rfl | exact hi), b1⟩
  clear IX
  generalize ts.all trimB = b at *
  go_enter Tryz.func196, Tryz.ntmps196
  go_wp2_with fail
  refine CF.out.mono ?_
  rintro e w1 ⟨rfl, b1⟩
  go_wp2_with fail
  go_ret
  exact ⟨ret_b (by simp), bb.trans (b1.mono bb.size)⟩

set_option maxHeartbeats 400000 in
theorem not45_any (l : List UInt8) (B : Nat) (w : World) (hl : l.length ≤ 140737488351232) (hB : w.heap[B]? = some (.cells #[.func (.func 198) #[] #[]] 29 (0, 0))) :
    Calls Tryz.prog 203 #[.string (ofL l), .pointer (some ⟨B, 0, none⟩)] w fun e w' => e = .returned (.bool (!locB l)) ∧ Below w.heap.size w w' := by
  have c0 := cell_at 0 hB rfl
  have C := hide (fun w => fitsLocal_any l w (by omega))
  go_enter Tryz.func203, Tryz.ntmps203
  go_wp2_with fail
  refine (C.out _).mono ?_
  rintro e w1 ⟨rfl, b1⟩
  go_wp2_with fail
  go_ret
  exact ⟨rfl, b1⟩

set_option maxHeartbeats 1000000 in
theorem index45_any (v : Value) (ts : List (List UInt8)) (B : Nat) (w : World) (hv : Txt w v ts) (hs : ts.length ≤ 1048576 ∧ ∀ t ∈ ts, t.length ≤ 1048576) (hB : w.heap[B]? = some (.cells #[.func (.func 198) #[] #[]] 29 (0, 0))) :
    Calls Tryz.prog 204 #[v, .func (.func 203) #[] #[.pointer (some ⟨B, 0, none⟩)]] w fun e w' => (∃ i : Int, e = .returned (.int .i64 i) ∧ decide (0 ≤ i) = !ts.all locB) ∧ Below w.heap.size w w' := by
  obtain ⟨a1, c1, rfl, _⟩ := id hv
  have HV := hide hv
  have HS := hide hs
  have ls := hs.1
  have HB := hide hB
  clear hv hs hB
  go_enter Tryz.func204, Tryz.ntmps204
  go_wp2_with fail
  go_loopw [8] (fun i wr => ∃ k : Nat, k ≤ ts.length ∧ i = .int .i64 k ∧ Hid (ts.all locB = (ts.drop k).all locB) ∧ Below w.heap.size w wr) (fun i _ => ts.length - (intOf i).toNat)
  case atStart => exact ⟨0, by omega, rfl, by simp [Hid], Below.refl _ _⟩
  case round =>
    obtain ⟨k, hk, rfl, HR, bW⟩ := hrel
    have hv1 := HV.out.below bW
    by_cases h1 : k < ts.length
    · have hlt' : (k : Int) < (ts.length : Int) := by omega
      obtain ⟨b1, o1, rfl, hc1⟩ := hv1.some (by omega)
      have p1 := hc1 k h1
      clear hc1
      have C := fun w h => not45_any ts[k] B w (by have := HS.out.2 _ (List.getElem_mem h1); omega) h
      have hX : (ts.drop k).all locB = (locB ts[k] && (ts.drop (k + 1)).all locB) := by rw [List.drop_eq_getElem_cons h1, List.all_cons]
      have hBB := (bW.block _ (Array.getElem?_eq_some_iff.1 HB.out).1).trans HB.out
      have C := C wr hBB
      generalize ts[k] = t at *
      generalize locB t = b at *
      have HC := hide C
      have HX := hide hX
      clear C hX hv1 hBB
      cases b
      · go_wp2_with fail
        refine HC.out.mono ?_
        rintro e w2 ⟨rfl, b2⟩
        go_wp2_with fail
        go_ret
        exact ⟨⟨_, rfl, by rw [HR.out, HX.out]; simp⟩, bW.trans (b2.mono bW.size)⟩
      · go_wp2_with fail
        refine HC.out.mono ?_
        rintro e w2 ⟨rfl, b2⟩
        go_wp2_with fail
        go_roundw
        case rel => exact ⟨k + 1, by omega, by go_num, by rw [HR.out, HX.out]; simp [Hid], bW.trans (b2.mono bW.size)⟩
        case measure => simp [intOf]; omega
    · have hlt' : ¬ (k : Int) < (ts.length : Int) := by omega
      go_wp2_with fail
      go_ret
      exact ⟨⟨_, rfl, by rw [HR.out, List.drop_eq_nil_of_le (by omega)]; rfl⟩, bW⟩

set_option maxHeartbeats 1000000 in
theorem all45_any (v : Value) (ts : List (List UInt8)) (w : World) (hv : Txt w v ts) (hs : ts.length ≤ 1048576 ∧ ∀ t ∈ ts, t.length ≤ 1048576) :
    Calls Tryz.prog 196 #[v, .func (.func 198) #[] #[]] w fun e w' => e = .returned (.bool (ts.all locB)) ∧ Below w.heap.size w w' := by
  obtain ⟨a1, c1, rfl, _⟩ := id hv
  have bb := (Below.refl _ w).alloc (Nat.le_refl _) (.cells #[.func (.func 198) #[] #[]] 29)
  have IX := index45_any _ ts w.heap.size _ (hv.below bb) hs (World.alloc_heap_new w _)
  have CF : Hid (Calls Tryz.prog 202 #[.slice a1 ts.length c1, .func (.func 203) #[] #[.pointer (some ⟨w.heap.size, 0, none⟩)]] (w.alloc (.cells #[.func (.func 198) #[] #[]] 29)) fun e w' => e = .returned (.bool (!ts.all locB)) ∧ Below (w.alloc (.cells #[.func (.func 198) #[] #[]] 29)).heap.size (w.alloc (.cells #[.func (.func 198) #[] #[]] 29)) w') := by
    have IX := hide IX
    generalize ts.all locB = b at *
    show Calls _ _ _ _ _
    go_enter Tryz.func202, Tryz.ntmps202
    go_wp2_with fail
    refine IX.out.mono ?_
    rintro e w1 ⟨⟨i, rfl, hi⟩, b1⟩
    go_wp2_with fail
    go_ret
    exact ⟨ret_b (by first | rfl | exact hi), b1⟩
  clear IX
  generalize ts.all locB = b at *
  go_enter Tryz.func196, Tryz.ntmps196
  go_wp2_with fail
  refine CF.out.mono ?_
  rintro e w1 ⟨rfl, b1⟩
  go_wp2_with fail
  go_ret
  exact ⟨ret_b (by simp), bb.trans (b1.mono bb.size)⟩


end Go.Proofs.YtabmfdedbpmfmaaGreat

namespace Go.Proofs.YtabmfdedbpmfmaaGreat
set_option linter.unusedVariables false

theorem trim_of {t : List UInt8} (h : trimB t = true) : t ≠ [] ∧ runL 1 t = t.length ∧ trimL t = t ∧ plainL t = t := by
  unfold trimB digB at h
  simp only [Bool.and_eq_true, beq_iff_eq, Bool.not_eq_true', List.isEmpty_eq_false_iff] at h
  refine ⟨h.1.1, h.1.2, h.2, ?_⟩
  unfold plainL
  split
  · exact h.2
  · rfl
end Go.Proofs.YtabmfdedbpmfmaaGreat

namespace Go.Proofs.YtabmfdedbpmfmaaGreat
set_option linter.unusedVariables false

def q4 (e : List UInt8) : Nat := stP e 0 preWs
def q5 (e : List UInt8) : Nat := posP e (q4 e)
def q6 (e : List UInt8) : Nat := stP e (q5 e) devWs
def q7 (e : List UInt8) : Nat := skipP e (q6 e) [43]
def qloc (e : List UInt8) : List (Nat × Nat) := runsL e 5 [45, 95, 46] (q7 e)
def q8 (e : List UInt8) : Nat := lastE (q7 e) (qloc e)
theorem run_mem : ∀ t : List UInt8, runL 1 t = t.length → ∀ c ∈ t, isC (c.toNat : Int) 1 = true
  | [], _, c, h => by cases h
  | d :: t, h, c, hc => by
    have hd : isC (d.toNat : Int) 1 = true := by
      cases hh : isC (d.toNat : Int) 1
      · rw [runL, hh] at h; simp at h
      · rfl
    rw [runL, if_pos hd] at h
    rcases List.mem_cons.1 hc with rfl | hc
    · exact hd
    · exact run_mem t (by simpa using h) c hc
theorem dig_low {c : UInt8} (h : isC (c.toNat : Int) 1 = true) : lowC c = c := by
  unfold lowC
  rw [if_neg]
  intro h3
  simp only [isC] at h h3
  simp at h h3
  omega
end Go.Proofs.YtabmfdedbpmfmaaGreat
