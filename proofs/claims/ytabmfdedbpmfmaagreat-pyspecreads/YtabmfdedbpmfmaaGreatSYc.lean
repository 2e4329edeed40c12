/-
  Plain laws: a text behind a version of releases alone is read as if it stood alone; no program is named here. · Plain laws: behind a version of releases alone dev releases stand ahead of alphas, these of betas, candidates, the release, and that of post-releases; no program is named here. · Plain laws: what is read is fit; no program is named here. · Plain laws: the text of a fit version is read back; no program is named here. · Walks: the texts of fit versions, normal forms. · Walks: the document's Parse in two shapes, its Normal.
-/
import Derived.Test.YtabmfdedbpmfmaaGreatSPt
import Derived.KernelRfl
import Derived.Deep.RegionWith
import Derived.ProofKit
import Derived.OpenShut
import Derived.ShutString
import Derived.ChangeOld
import Derived.Below
import Derived.SizedLaws
import Derived.SliceStrings
import Derived.Deep.Fields
import Derived.Test.YtabmfdedbpmfmaaGreatSXo
namespace Go.Proofs.YtabmfdedbpmfmaaGreat
set_option linter.unusedVariables false

theorem trim_of {t : List UInt8} (h : trimB t = true) : t ≠ [] ∧ runL 1 t = t.length ∧ trimL t = t ∧ plainL t = t := by
  unfold trimB digB at h
  simp only [Bool.and_eq_true, beq_iff_eq, Bool.not_eq_true', List.isEmpty_eq_false_iff] at h
  refine ⟨h.1.1, h.1.2, h.2, ?_⟩
  unfold plainL
  split
  · exact h.2
  · rfl
end Go.Proofs.YtabmfdedbpmfmaaGreat

namespace Go.Proofs.YtabmfdedbpmfmaaGreat
set_option linter.unusedVariables false

def q4 (e : List UInt8) : Nat := stP e 0 preWs
def q5 (e : List UInt8) : Nat := posP e (q4 e)
def q6 (e : List UInt8) : Nat := stP e (q5 e) devWs
def q7 (e : List UInt8) : Nat := skipP e (q6 e) [43]
def qloc (e : List UInt8) : List (Nat × Nat) := runsL e 5 [45, 95, 46] (q7 e)
def q8 (e : List UInt8) : Nat := lastE (q7 e) (qloc e)
theorem run_mem : ∀ t : List UInt8, runL 1 t = t.length → ∀ c ∈ t, isC (c.toNat : Int) 1 = true
  | [], _, c, h => by cases h
  | d :: t, h, c, hc => by
    have hd : isC (d.toNat : Int) 1 = true := by
      cases hh : isC (d.toNat : Int) 1
      · rw [runL, hh] at h; simp at h
      · rfl
    rw [runL, if_pos hd] at h
    rcases List.mem_cons.1 hc with rfl | hc
    · exact hd
    · exact run_mem t (by simpa using h) c hc
theorem dig_low {c : UInt8} (h : isC (c.toNat : Int) 1 = true) : lowC c = c := by
  unfold lowC
  rw [if_neg]
  intro h3
  simp only [isC] at h h3
  simp at h h3
  omega
end Go.Proofs.YtabmfdedbpmfmaaGreat

namespace Go.Proofs.YtabmfdedbpmfmaaGreat
set_option linter.unusedVariables false

theorem run_of_mem (k : Int) : ∀ t : List UInt8, (∀ c ∈ t, isC (c.toNat : Int) k = true) → runL k t = t.length
  | [], _ => rfl
  | c :: t, h => by
    rw [runL, if_pos (h c List.mem_cons_self), run_of_mem k t (fun c hc => h c (List.mem_cons_of_mem _ hc))]
    rfl
theorem mem_of_run (k : Int) : ∀ t : List UInt8, runL k t = t.length → ∀ c ∈ t, isC (c.toNat : Int) k = true
  | [], _, c, h => by cases h
  | d :: t, h, c, hc => by
    have hd : isC (d.toNat : Int) k = true := by
      cases hh : isC (d.toNat : Int) k
      · rw [runL, hh] at h; simp at h
      · rfl
    rw [runL, if_pos hd] at h
    rcases List.mem_cons.1 hc with rfl | hc
    · exact hd
    · exact mem_of_run k t (by simpa using h) c hc
theorem run_taken (k : Int) : ∀ m : List UInt8, runL k (m.take (runL k m)) = (m.take (runL k m)).length
  | [] => rfl
  | c :: r => by
    rw [runL]
    split
    · rename_i h
      rw [List.take_succ_cons, runL, if_pos h, run_taken k r]
      rfl
    · rfl
theorem trim_mem : ∀ (l : List UInt8) (c : UInt8), c ∈ trimL l → c = 48 ∨ c ∈ l
  | [], c, h => .inl (by simpa [trimL] using h)
  | d :: r, c, h => by
    rw [trimL] at h
    split at h
    · rcases trim_mem r c h with h | h
      · exact .inl h
      · exact .inr (List.mem_cons_of_mem _ h)
    · exact .inr h
theorem trim_idem : ∀ l : List UInt8, trimL (trimL l) = trimL l ∧ trimL l ≠ []
  | [] => ⟨rfl, by simp [trimL]⟩
  | d :: r => by
    rw [trimL]
    split
    · exact trim_idem r
    · rename_i h
      exact ⟨by rw [trimL, if_neg h], by simp⟩
theorem trim_fit (l : List UInt8) (h : runL 1 l = l.length) : trimB (trimL l) = true := by
  have hi := trim_idem l
  have hr : runL 1 (trimL l) = (trimL l).length := by
    refine run_of_mem 1 _ fun c hc => ?_
    rcases trim_mem l c hc with rfl | hc
    · rfl
    · exact mem_of_run 1 l h c hc
  unfold trimB digB
  simp only [Bool.and_eq_true, beq_iff_eq, Bool.not_eq_true', List.isEmpty_eq_false_iff]
  exact ⟨⟨hi.2, hr⟩, hi.1⟩
theorem dig_run {l : List UInt8} (h : digB l = true) : l ≠ [] ∧ runL 1 l = l.length := by
  unfold digB at h
  simp only [Bool.and_eq_true, beq_iff_eq, Bool.not_eq_true', List.isEmpty_eq_false_iff] at h
  exact h
theorem seg_take (l : List UInt8) (a n : Nat) : seg l a (a + n) = (l.drop a).take n := by
  unfold seg
  rw [List.drop_take]
  congr 1
  omega
theorem digT_run (l : List UInt8) (a : Nat) : runL 1 (digT l a) = (digT l a).length := by
  unfold digT digE
  rw [seg_take]
  exact run_taken 1 _
theorem digT_fit (l : List UInt8) (a : Nat) : trimB (trimL (digT l a)) = true := trim_fit _ (digT_run l a)
theorem runs_run (l : List UInt8) (k : Int) (seps : List UInt8) : ∀ (n a : Nat), l.length - a = n → ∀ x ∈ runsL l k seps a, seg l x.1 x.2 ≠ [] ∧ runL k (seg l x.1 x.2) = (seg l x.1 x.2).length := by
  intro n
  induction n using Nat.strongRecOn with
  | ind n ih =>
    intro a hn x hx
    rw [runsL] at hx
    by_cases h0 : runL k (l.drop a) = 0
    · rw [if_pos h0] at hx; cases hx
    · rw [if_neg h0] at hx
      rcases List.mem_cons.1 hx with rfl | hx
      · show seg l a (a + runL k (l.drop a)) ≠ [] ∧ _
        have hle := runL_le k (l.drop a)
        dsimp only
        rw [seg_take]
        refine ⟨?_, run_taken k _⟩
        intro he
        have := congrArg List.length he
        rw [List.length_take, List.length_nil] at this
        omega
      · by_cases h1 : ∃ c, l[a + runL k (l.drop a)]? = some c ∧ seps.contains c = true
        · rw [dif_pos h1] at hx
          obtain ⟨c, hc, _⟩ := h1
          have hlt := (List.getElem?_eq_some_iff.1 hc).1
          exact ih (l.length - (a + runL k (l.drop a) + 1)) (by omega) _ rfl x hx
        · rw [dif_neg h1] at hx; cases hx
theorem dig_class5 {c : UInt8} (h : isC (c.toNat : Int) 1 = true) : isC (c.toNat : Int) 5 = true := by
  simp only [isC] at h ⊢
  simp at h ⊢
  omega
theorem low_seg (l : List UInt8) (a b : Nat) (h : lowL l = l) : lowL (seg l a b) = seg l a b := by
  unfold lowL seg at *
  rw [List.map_drop, List.map_take, h]
theorem low_idem (l : List UInt8) : lowL (lowL l) = lowL l := by
  unfold lowL
  rw [List.map_map]
  refine List.map_congr_left fun c _ => ?_
  show lowC (lowC c) = lowC c
  by_cases h : isC (c.toNat : Int) 3 = true
  · have hc : lowC c = c + 32 := by unfold lowC; rw [if_pos h]
    rw [hc]
    unfold lowC
    rw [if_neg]
    simp only [isC] at h ⊢
    simp at h ⊢
    omega
  · have hc : lowC c = c := by unfold lowC; rw [if_neg h]
    rw [hc, hc]
theorem loc_fit (p : List UInt8) (h0 : p ≠ []) (h1 : runL 5 p = p.length) (h2 : lowL p = p) : locB (plainL p) = true := by
  unfold locB
  cases hd : digB p
  · have e : plainL p = p := by unfold plainL; rw [hd]; rfl
    rw [e, e, h1, h2]
    simp [h0]
  · have e : plainL p = trimL p := by unfold plainL; rw [hd]; rfl
    obtain ⟨d1, d2⟩ := dig_run hd
    have hf := trim_fit p d2
    obtain ⟨t1, t2, t3, t4⟩ := trim_of hf
    rw [e, t4]
    have l5 : runL 5 (trimL p) = (trimL p).length := run_of_mem 5 _ fun c hc => dig_class5 (run_mem _ t2 c hc)
    have ll : lowL (trimL p) = trimL p := by
      unfold lowL
      rw [List.map_congr_left (g := id), List.map_id]
      intro c hc
      exact dig_low (run_mem _ t2 c hc)
    rw [l5, ll]
    simp [t1]

theorem read_fit (u : List UInt8) (hu : lowL u = u) (h : (verX u).1 = 0) : FitT (pepOf u) := by
  have hr : (vrel u).length ≠ 0 := by
    intro h0
    unfold verX at h
    rw [if_pos h0] at h
    exact misL_ne _ _ h
  refine ⟨?_, ?_, ?_, ?_, ?_, ?_, ?_, ?_⟩
  · show trimB (epoT u (vp1 u)) = true
    unfold epoT
    split
    · rename_i he
      unfold epoB at he
      simp only [Bool.and_eq_true] at he
      exact trim_fit _ (dig_run he.2).2
    · rfl
  · show rowL u (vrel u) ≠ []
    intro he
    apply hr
    have := congrArg List.length he
    simpa [rowL] using this
  · show (rowL u (vrel u)).all trimB = true
    rw [List.all_eq_true]
    intro t ht
    obtain ⟨x, hx, rfl⟩ := List.mem_map.1 ht
    obtain ⟨s1, s2⟩ := runs_run u 1 [46] _ _ rfl x hx
    have hd : digB (seg u x.1 x.2) = true := by
      unfold digB
      simp only [Bool.and_eq_true, beq_iff_eq, Bool.not_eq_true', List.isEmpty_eq_false_iff]
      exact ⟨s1, s2⟩
    have e : plainL (seg u x.1 x.2) = trimL (seg u x.1 x.2) := by unfold plainL; rw [hd]; rfl
    rw [e]
    exact trim_fit _ s2
  · show preC u (vp3 u) = 0 ∨ preC u (vp3 u) = 97 ∨ preC u (vp3 u) = 98 ∨ preC u (vp3 u) = 114
    unfold preC
    split
    · exact .inl rfl
    · split
      · exact .inr (.inl rfl)
      · split
        · exact .inr (.inr (.inl rfl))
        · exact .inr (.inr (.inr rfl))
  · show numB (stN u (vp3 u) preWs) (preC u (vp3 u) != 0) = true
    unfold stN preC
    cases wordL u (vp3 u) preWs with
    | none => rfl
    | some x =>
      dsimp only
      have hb : ((if x = [97, 108, 112, 104, 97] ∨ x = [97] then (97 : Int) else if x = [98, 101, 116, 97] ∨ x = [98] then 98 else 114) != 0) = true := by
        (repeat' split) <;> rfl
      rw [hb]
      exact digT_fit _ _
  · show numB (posN u (vp4 u)) (posB u (vp4 u)) = true
    unfold posN posB
    split
    · exact digT_fit _ _
    · unfold stN
      cases wordL u (vp4 u) postWs with
      | none => rfl
      | some x => exact digT_fit _ _
  · show numB (stN u (vp5 u) devWs) (wordL u (vp5 u) devWs).isSome = true
    unfold stN
    cases wordL u (vp5 u) devWs with
    | none => rfl
    | some x => exact digT_fit _ _
  · show (rowL u (vlocs u)).all locB = true
    rw [List.all_eq_true]
    intro t ht
    obtain ⟨x, hx, rfl⟩ := List.mem_map.1 ht
    unfold vlocs at hx
    split at hx
    · obtain ⟨s1, s2⟩ := runs_run u 5 [45, 95, 46] _ _ rfl x hx
      exact loc_fit _ s1 s2 (low_seg _ _ _ hu)
    · cases hx

end Go.Proofs.YtabmfdedbpmfmaaGreat

namespace Go.Proofs.YtabmfdedbpmfmaaGreat
set_option linter.unusedVariables false

def RL (R : List UInt8) : Prop := R = [] ∨ ∃ r, R = 43 :: r
def RD (R : List UInt8) : Prop := RL R ∨ ∃ r, R = 46 :: 100 :: 101 :: 118 :: r
end Go.Proofs.YtabmfdedbpmfmaaGreat

namespace Go.Proofs.YtabmfdedbpmfmaaGreat
open Go.RowKit Go.Shelf
set_option linter.unusedVariables false

theorem low_ok {l : List UInt8} (h : okP l = true) : (verX (lowL l)).1 = 0 ∧ l.length ≤ 64 := by
  unfold okP at h
  simp only [Bool.and_eq_true, decide_eq_true_eq] at h
  exact ⟨h.2, h.1⟩
theorem ok_fit {l : List UInt8} (h : okP l = true) : FitT (pepOf (lowL l)) := read_fit _ (low_idem l) (low_ok h).1

end Go.Proofs.YtabmfdedbpmfmaaGreat

namespace Go.Proofs.YtabmfdedbpmfmaaGreat
open Go.RowKit Go.Shelf
set_option linter.unusedVariables false

theorem RParse_ok (s : ByteArray) (w : World) (h : okP s.data.toList = true) :
    Calls Tryz.prog 25 #[.string s] w fun e w' => ∃ vr vl, e = .returned (.tuple #[pepV (ofL (pepOf (lowL s.data.toList)).ep) vr (pepOf (lowL s.data.toList)).c (ofL (pepOf (lowL s.data.toList)).n) (pepOf (lowL s.data.toList)).b (ofL (pepOf (lowL s.data.toList)).m) (pepOf (lowL s.data.toList)).d (ofL (pepOf (lowL s.data.toList)).k) vl, .agg #[.int .i64 0, .int .i64 0]]) ∧
      Txt w' vr (pepOf (lowL s.data.toList)).rel ∧ Txt w' vl (pepOf (lowL s.data.toList)).loc ∧ Below w.heap.size w w' := by
  unfold okP at h
  simp only [Bool.and_eq_true, decide_eq_true_eq] at h
  refine (RParse_any s w).mono ?_
  rintro e w' ⟨hb, hp⟩
  rw [if_neg (by omega), if_pos h.2] at hp
  obtain ⟨v, rfl, ⟨vr, vl, rfl, h1, h2⟩⟩ := hp
  exact ⟨vr, vl, rfl, txt_vals h1, txt_vals h2, hb⟩
theorem RParse_no (s : ByteArray) (w : World) (h : okP s.data.toList = false) :
    Calls Tryz.prog 25 #[.string s] w fun e w' => e = .returned (.tuple #[.agg pepZ, .agg #[.int .i64 (errX s.data.toList).1, .int .i64 ((errX s.data.toList).2 : Int)]]) ∧ Below w.heap.size w w' := by
  refine (RParse_any s w).mono ?_
  rintro e w' ⟨hb, hp⟩
  unfold okP at h
  unfold errX
  by_cases hl : 64 < s.data.toList.length
  · rw [if_pos hl] at hp ⊢
    exact ⟨hp, hb⟩
  · rw [if_neg hl] at hp ⊢
    have hx : ¬ (verX (lowL s.data.toList)).1 = 0 := fun he => by
      rw [decide_eq_true (show s.data.toList.length ≤ 64 by omega), decide_eq_true he] at h
      cases h
    rw [if_neg hx] at hp
    exact ⟨hp, hb⟩

structure SmallQ (x : PepL) : Prop where
  e : x.ep.length ≤ 65
  n : x.n.length ≤ 65
  m : x.m.length ≤ 65
  k : x.k.length ≤ 65
  r : x.rel.length ≤ 65 ∧ ∀ t ∈ x.rel, t.length ≤ 65
  l : x.loc.length ≤ 65 ∧ ∀ t ∈ x.loc, t.length ≤ 65
theorem pep_smallQ (u : List UInt8) (hu : u.length ≤ 64) : SmallQ (pepOf u) := by
  have h1 := epoT_le u (vp1 u)
  have h2 := stN_le u (vp3 u) preWs
  have h3 := posN_le u (vp4 u)
  have h4 := stN_le u (vp5 u) devWs
  have r1 := runs_len u 1 [46] _ (vp2 u) rfl
  have r2 := runs_len u 5 [45, 95, 46] _ (vp7 u) rfl
  refine ⟨?_, ?_, ?_, ?_, row_short u hu _ ?_, row_short u hu _ ?_⟩
  · show (epoT u (vp1 u)).length ≤ 65; omega
  · show (stN u (vp3 u) preWs).length ≤ 65; omega
  · show (posN u (vp4 u)).length ≤ 65; omega
  · show (stN u (vp5 u) devWs).length ≤ 65; omega
  · show (vrel u).length ≤ 65
    unfold vrel
    omega
  · unfold vlocs
    split
    · unfold vloc
      omega
    · simp
end Go.Proofs.YtabmfdedbpmfmaaGreat
