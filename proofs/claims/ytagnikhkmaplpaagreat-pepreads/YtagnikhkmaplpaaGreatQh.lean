/-
  Plain laws: what is read is fit; no program is named here.
-/
import Derived.Test.YtagnikhkmaplpaaGreatQb
import Derived.Test.YtagnikhkmaplpaaGreatPt
namespace Go.Proofs.YtagnikhkmaplpaaGreat
set_option linter.unusedVariables false

theorem run_of_mem (k : Int) : ∀ t : List UInt8, (∀ c ∈ t, isC (c.toNat : Int) k = true) → runL k t = t.length
  | [], _ => rfl
  | c :: t, h => by
    rw [runL, if_pos (h c List.mem_cons_self), run_of_mem k t (fun c hc => h c (List.mem_cons_of_mem _ hc))]
    rfl
theorem mem_of_run (k : Int) : ∀ t : List UInt8, runL k t = t.length → ∀ c ∈ t, isC (c.toNat : Int) k = true
  | [], _, c, h => by cases h
  | d :: t, h, c, hc => by
    have hd : isC (d.toNat : Int) k = true := by
      cases hh : isC (d.toNat : Int) k
      · rw [runL, hh] at h; simp at h
      · rfl
    rw [runL, if_pos hd] at h
    rcases List.mem_cons.1 hc with rfl | hc
    · exact hd
    · exact mem_of_run k t (by simpa using h) c hc
theorem run_taken (k : Int) : ∀ m : List UInt8, runL k (m.take (runL k m)) = (m.take (runL k m)).length
  | [] => rfl
  | c :: r => by
    rw [runL]
    split
    · rename_i h
      rw [List.take_succ_cons, runL, if_pos h, run_taken k r]
      rfl
    · rfl
theorem trim_mem : ∀ (l : List UInt8) (c : UInt8), c ∈ trimL l → c = 48 ∨ c ∈ l
  | [], c, h => .inl (by simpa [trimL] using h)
  | d :: r, c, h => by
    rw [trimL] at h
    split at h
    · rcases trim_mem r c h with h | h
      · exact .inl h
      · exact .inr (List.mem_cons_of_mem _ h)
    · exact .inr h
theorem trim_idem : ∀ l : List UInt8, trimL (trimL l) = trimL l ∧ trimL l ≠ []
  | [] => ⟨rfl, by simp [trimL]⟩
  | d :: r => by
    rw [trimL]
    split
    · exact trim_idem r
    · rename_i h
      exact ⟨by rw [trimL, if_neg h], by simp⟩
/-- Digits, and none too, without noughts ahead. -/
theorem trim_fit (l : List UInt8) (h : runL 1 l = l.length) : trimB (trimL l) = true := by
  have hi := trim_idem l
  have hr : runL 1 (trimL l) = (trimL l).length := by
    refine run_of_mem 1 _ fun c hc => ?_
    rcases trim_mem l c hc with rfl | hc
    · rfl
    · exact mem_of_run 1 l h c hc
  unfold trimB digB
  simp only [Bool.and_eq_true, beq_iff_eq, Bool.not_eq_true', List.isEmpty_eq_false_iff]
  exact ⟨⟨hi.2, hr⟩, hi.1⟩
theorem dig_run {l : List UInt8} (h : digB l = true) : l ≠ [] ∧ runL 1 l = l.length := by
  unfold digB at h
  simp only [Bool.and_eq_true, beq_iff_eq, Bool.not_eq_true', List.isEmpty_eq_false_iff] at h
  exact h
theorem seg_take (l : List UInt8) (a n : Nat) : seg l a (a + n) = (l.drop a).take n := by
  unfold seg
  rw [List.drop_take]
  congr 1
  omega
theorem digT_run (l : List UInt8) (a : Nat) : runL 1 (digT l a) = (digT l a).length := by
  unfold digT digE
  rw [seg_take]
  exact run_taken 1 _
theorem digT_fit (l : List UInt8) (a : Nat) : trimB (trimL (digT l a)) = true := trim_fit _ (digT_run l a)
theorem runs_run (l : List UInt8) (k : Int) (seps : List UInt8) : ∀ (n a : Nat), l.length - a = n → ∀ x ∈ runsL l k seps a, seg l x.1 x.2 ≠ [] ∧ runL k (seg l x.1 x.2) = (seg l x.1 x.2).length := by
  intro n
  induction n using Nat.strongRecOn with
  | ind n ih =>
    intro a hn x hx
    rw [runsL] at hx
    by_cases h0 : runL k (l.drop a) = 0
    · rw [if_pos h0] at hx; cases hx
    · rw [if_neg h0] at hx
      rcases List.mem_cons.1 hx with rfl | hx
      · show seg l a (a + runL k (l.drop a)) ≠ [] ∧ _
        have hle := runL_le k (l.drop a)
        dsimp only
        rw [seg_take]
        refine ⟨?_, run_taken k _⟩
        intro he
        have := congrArg List.length he
        rw [List.length_take, List.length_nil] at this
        omega
      · by_cases h1 : ∃ c, l[a + runL k (l.drop a)]? = some c ∧ seps.contains c = true
        · rw [dif_pos h1] at hx
          obtain ⟨c, hc, _⟩ := h1
          have hlt := (List.getElem?_eq_some_iff.1 hc).1
          exact ih (l.length - (a + runL k (l.drop a) + 1)) (by omega) _ rfl x hx
        · rw [dif_neg h1] at hx; cases hx
theorem dig_class5 {c : UInt8} (h : isC (c.toNat : Int) 1 = true) : isC (c.toNat : Int) 5 = true := by
  simp only [isC] at h ⊢
  simp at h ⊢
  omega
theorem low_seg (l : List UInt8) (a b : Nat) (h : lowL l = l) : lowL (seg l a b) = seg l a b := by
  unfold lowL seg at *
  rw [List.map_drop, List.map_take, h]
theorem low_idem (l : List UInt8) : lowL (lowL l) = lowL l := by
  unfold lowL
  rw [List.map_map]
  refine List.map_congr_left fun c _ => ?_
  show lowC (lowC c) = lowC c
  by_cases h : isC (c.toNat : Int) 3 = true
  · have hc : lowC c = c + 32 := by unfold lowC; rw [if_pos h]
    rw [hc]
    unfold lowC
    rw [if_neg]
    simp only [isC] at h ⊢
    simp at h ⊢
    omega
  · have hc : lowC c = c := by unfold lowC; rw [if_neg h]
    rw [hc, hc]
theorem loc_fit (p : List UInt8) (h0 : p ≠ []) (h1 : runL 5 p = p.length) (h2 : lowL p = p) : locB (plainL p) = true := by
  unfold locB
  cases hd : digB p
  · have e : plainL p = p := by unfold plainL; rw [hd]; rfl
    rw [e, e, h1, h2]
    simp [h0]
  · have e : plainL p = trimL p := by unfold plainL; rw [hd]; rfl
    obtain ⟨d1, d2⟩ := dig_run hd
    have hf := trim_fit p d2
    obtain ⟨t1, t2, t3, t4⟩ := trim_of hf
    rw [e, t4]
    have l5 : runL 5 (trimL p) = (trimL p).length := run_of_mem 5 _ fun c hc => dig_class5 (run_mem _ t2 c hc)
    have ll : lowL (trimL p) = trimL p := by
      unfold lowL
      rw [List.map_congr_left (g := id), List.map_id]
      intro c hc
      exact dig_low (run_mem _ t2 c hc)
    rw [l5, ll]
    simp [t1]

/-- What is read is fit. -/
theorem read_fit (u : List UInt8) (hu : lowL u = u) (h : (verX u).1 = 0) : FitT (pepOf u) := by
  have hr : (vrel u).length ≠ 0 := by
    intro h0
    unfold verX at h
    rw [if_pos h0] at h
    exact misL_ne _ _ h
  refine ⟨?_, ?_, ?_, ?_, ?_, ?_, ?_, ?_⟩
  · show trimB (epoT u (vp1 u)) = true
    unfold epoT
    split
    · rename_i he
      unfold epoB at he
      simp only [Bool.and_eq_true] at he
      exact trim_fit _ (dig_run he.2).2
    · rfl
  · show rowL u (vrel u) ≠ []
    intro he
    apply hr
    have := congrArg List.length he
    simpa [rowL] using this
  · show (rowL u (vrel u)).all trimB = true
    rw [List.all_eq_true]
    intro t ht
    obtain ⟨x, hx, rfl⟩ := List.mem_map.1 ht
    obtain ⟨s1, s2⟩ := runs_run u 1 [46] _ _ rfl x hx
    have hd : digB (seg u x.1 x.2) = true := by
      unfold digB
      simp only [Bool.and_eq_true, beq_iff_eq, Bool.not_eq_true', List.isEmpty_eq_false_iff]
      exact ⟨s1, s2⟩
    have e : plainL (seg u x.1 x.2) = trimL (seg u x.1 x.2) := by unfold plainL; rw [hd]; rfl
    rw [e]
    exact trim_fit _ s2
  · show preC u (vp3 u) = 0 ∨ preC u (vp3 u) = 97 ∨ preC u (vp3 u) = 98 ∨ preC u (vp3 u) = 114
    unfold preC
    split
    · exact .inl rfl
    · split
      · exact .inr (.inl rfl)
      · split
        · exact .inr (.inr (.inl rfl))
        · exact .inr (.inr (.inr rfl))
  · show numB (stN u (vp3 u) preWs) (preC u (vp3 u) != 0) = true
    unfold stN preC
    cases wordL u (vp3 u) preWs with
    | none => rfl
    | some x =>
      dsimp only
      have hb : ((if x = [97, 108, 112, 104, 97] ∨ x = [97] then (97 : Int) else if x = [98, 101, 116, 97] ∨ x = [98] then 98 else 114) != 0) = true := by
        (repeat' split) <;> rfl
      rw [hb]
      exact digT_fit _ _
  · show numB (posN u (vp4 u)) (posB u (vp4 u)) = true
    unfold posN posB
    split
    · exact digT_fit _ _
    · unfold stN
      cases wordL u (vp4 u) postWs with
      | none => rfl
      | some x => exact digT_fit _ _
  · show numB (stN u (vp5 u) devWs) (wordL u (vp5 u) devWs).isSome = true
    unfold stN
    cases wordL u (vp5 u) devWs with
    | none => rfl
    | some x => exact digT_fit _ _
  · show (rowL u (vlocs u)).all locB = true
    rw [List.all_eq_true]
    intro t ht
    obtain ⟨x, hx, rfl⟩ := List.mem_map.1 ht
    unfold vlocs at hx
    split at hx
    · obtain ⟨s1, s2⟩ := runs_run u 5 [45, 95, 46] _ _ rfl x hx
      exact loc_fit _ s1 s2 (low_seg _ _ _ hu)
    · cases hx

end Go.Proofs.YtagnikhkmaplpaaGreat
