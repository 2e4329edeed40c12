/-
  Plain laws: what is read is fit, and what is fit is read back from its text; no program is named here.
-/
import Derived.Test.YthojcidbhojlhaaLs
import Derived.Test.YthojcidbhojlhaaLq
namespace Go.Proofs.Ythojcidbhojlhaa
set_option linter.unusedVariables false

/-- The chapter's words of a fit version, but for its length. -/
structure FitC (v : DebL) : Prop where
  ep1 : digB v.ep = true
  ep2 : trimL v.ep = v.ep
  up1 : ∃ c r, v.up = c :: r ∧ isC (c.toNat : Int) 1 = true
  up2 : ∀ c ∈ v.up, partB c = true ∨ c = 58 ∨ (c = 45 ∧ v.rev ≠ [])
  rv : ∀ c ∈ v.rev, partB c = true

theorem part_no58 {r : List UInt8} (h : ∀ c ∈ r, partB c = true) : 58 ∉ r := fun hm => absurd (h 58 hm) (by decide)
theorem part_no45 {r : List UInt8} (h : ∀ c ∈ r, partB c = true) : 45 ∉ r := fun hm => absurd (h 45 hm) (by decide)
theorem lastI_not : ∀ (r : List UInt8) (x : UInt8), x ∉ r → lastI r x = -1
  | [], x, _ => by simp [lastI, lastN]
  | c :: r, x, h => by
    have ih := lastI_not r x (fun hm => h (List.mem_cons_of_mem _ hm))
    rw [lastI_cons, ih, if_neg (by omega), if_neg (fun e => h (by rw [e]; exact List.mem_cons_self))]
theorem lastI_app (x : UInt8) (r : List UInt8) (h : x ∉ r) : ∀ u : List UInt8, lastI (u ++ x :: r) x = u.length
  | [] => by rw [List.nil_append, lastI_cons, lastI_not r x h, if_neg (by omega), if_pos rfl]; rfl
  | c :: u => by
    rw [List.cons_append, lastI_cons, lastI_app x r h u, if_pos (by omega)]
    simp
theorem tw_all (e : Bool) : ∀ t : List UInt8, (∀ c ∈ t, okB e c = true) → (t.takeWhile (okB e)).length = t.length
  | [], _ => rfl
  | c :: r, h => by
    rw [List.takeWhile_cons, if_pos (h c List.mem_cons_self), List.length_cons, tw_all e r (fun x hx => h x (List.mem_cons_of_mem _ hx))]
    rfl
theorem all_tw (e : Bool) : ∀ t : List UInt8, (t.takeWhile (okB e)).length = t.length → ∀ c ∈ t, okB e c = true
  | [], _, c, hc => by cases hc
  | x :: r, h, c, hc => by
    rw [List.takeWhile_cons] at h
    split at h
    · rename_i hx
      rcases List.mem_cons.1 hc with rfl | hc
      · exact hx
      · exact all_tw e r (by simpa using h) c hc
    · simp at h
theorem ok_of_part (e : Bool) {c : UInt8} (h : partB c = true) : okB e c = true := by
  have h1 : c ≠ 58 := by rintro rfl; exact absurd h (by decide)
  have h2 : c ≠ 45 := by rintro rfl; exact absurd h (by decide)
  rw [ok_part c h1 h2]; exact h
theorem ok45 (e : Bool) : okB e 45 = true := by cases e <;> decide

/-- What parseL says of a text with an epoch, or without. -/
theorem parse_body (l body : List UInt8) (e : Bool) (v : DebL) (h64 : l.length ≤ 64) (hS : l.drop (epS l) = body) (hSl : epS l ≤ l.length) (he : e = decide (0 < epS l)) (hE : epE l = v.ep)
    (h0 : ∃ c r, body = c :: r ∧ isC (c.toNat : Int) 1 = true) (hok : ∀ c ∈ body, okB e c = true) (hb : body = v.up ++ if v.rev = [] then [] else 45 :: v.rev)
    (hu : v.up ≠ []) (h45 : v.rev = [] → 45 ∉ v.up) (r45 : 45 ∉ v.rev) (r58 : 58 ∉ v.rev) : parseL l = .ok v := by
  unfold parseL
  have hlen : body.length = l.length - epS l := by rw [← hS]; exact List.length_drop
  have hw : wrongR l (epS l) = l.length := by
    unfold wrongR
    obtain ⟨c, r, hcr, hc⟩ := h0
    have hlt : epS l < l.length := by rw [hcr] at hlen; simp at hlen; omega
    have hg : l.getD (epS l) 0 = c := by
      have hd := List.drop_eq_getElem_cons hlt
      rw [hS, hcr] at hd
      have := List.cons.inj hd
      simp [List.getD, hlt, this.1]
    rw [if_neg (by rw [hg, hc]; simp), hS, ← he, tw_all e body hok]
    omega
  rw [if_neg (by omega), hw, if_neg (by omega), hS]
  by_cases hr : v.rev = []
  · rw [hr] at hb
    simp only [if_true, List.append_nil] at hb
    have hl := lastI_not v.up 45 (h45 hr)
    have hU : cutU body 45 = v.up := by unfold cutU; rw [hb, hl]; rfl
    have hR : cutR body 45 = v.rev := by unfold cutR; rw [hb, hl, hr]; rfl
    have hH : cutH body 45 = false := by unfold cutH; rw [hb, hl]; rfl
    rw [hU, hR, hH, hE]
    have : v.up.isEmpty = false := by simpa using hu
    rw [this]
    rfl
  · rw [if_neg hr] at hb
    have hl := lastI_app 45 v.rev r45 v.up
    have hU : cutU body 45 = v.up := by unfold cutU; rw [hb, hl, if_neg (by omega)]; simp
    have hR : cutR body 45 = v.rev := by unfold cutR; rw [hb, hl, if_neg (by omega)]; simp
    have hH : cutH body 45 = true := by unfold cutH; rw [hb, hl]; simp
    rw [hU, hR, hH, hE, (rev_iff v.rev).2 ⟨hr, r58⟩]
    have : v.up.isEmpty = false := by simpa using hu
    rw [this]
    rfl
/-- What is fit is read back from its text. -/
theorem fit_back {v : DebL} (h : FitC v) (h64 : (writeL v).length ≤ 64) : parseL (writeL v) = .ok v := by
  obtain ⟨c, r, hup, hc⟩ := h.up1
  have hu : v.up ≠ [] := by rw [hup]; simp
  have r45 := part_no45 h.rv
  have r58 := part_no58 h.rv
  obtain ⟨hepne, hepall⟩ := dig_all h.ep1
  have e58 := dig_no58 hepall
  have h45 : v.rev = [] → 45 ∉ v.up := fun hr hm => by
    rcases h.up2 45 hm with hp | hp | hp
    · exact absurd hp (by decide)
    · cases hp
    · exact hp.2 hr
  have hok : ∀ e : Bool, (e = false → 58 ∉ v.up) → ∀ x ∈ v.up ++ (if v.rev = [] then [] else 45 :: v.rev), okB e x = true := by
    intro e he x hx
    rcases List.mem_append.1 hx with hx | hx
    · rcases h.up2 x hx with hp | hp | hp
      · exact ok_of_part e hp
      · subst hp
        cases e
        · exact absurd hx (he rfl)
        · decide
      · rw [hp.1]; exact ok45 e
    · split at hx
      · cases hx
      · rcases List.mem_cons.1 hx with hx | hx
        · rw [hx]; exact ok45 e
        · exact ok_of_part e (h.rv x hx)
  by_cases hd : v.ep ≠ [48] ∨ 0 ≤ Lib.indexByte v.up 58
  · have hl : writeL v = v.ep ++ 58 :: (v.up ++ if v.rev = [] then [] else 45 :: v.rev) := by
      unfold writeL headL; rw [if_pos hd]; simp
    rw [hl] at h64 ⊢
    have hcut := cutC_app (v.up ++ if v.rev = [] then [] else 45 :: v.rev) v.ep e58
    have hh : hasC (v.ep ++ 58 :: (v.up ++ if v.rev = [] then [] else 45 :: v.rev)) = true := (hasC_iff _).2 (by simp)
    have hB : epB (v.ep ++ 58 :: (v.up ++ if v.rev = [] then [] else 45 :: v.rev)) = true := by unfold epB; rw [hh, hcut, h.ep1]; rfl
    have hS : epS (v.ep ++ 58 :: (v.up ++ if v.rev = [] then [] else 45 :: v.rev)) = v.ep.length + 1 := by unfold epS; rw [hB, hcut]; rfl
    have hE : epE (v.ep ++ 58 :: (v.up ++ if v.rev = [] then [] else 45 :: v.rev)) = v.ep := by unfold epE; rw [hB, hcut, if_pos rfl, h.ep2]
    refine parse_body _ (v.up ++ if v.rev = [] then [] else 45 :: v.rev) true v h64 ?_ ?_ (by rw [hS]; simp) hE ⟨c, r ++ (if v.rev = [] then [] else 45 :: v.rev), by rw [hup]; rfl, hc⟩ (hok true (fun h => by cases h)) rfl hu h45 r45 r58
    · rw [hS]; simp
    · rw [hS]; simp
  · have hep : v.ep = [48] := by
      by_cases he : v.ep = [48]
      · exact he
      · exact absurd (.inl he) hd
    have h58 : 58 ∉ v.up := (idx_mem 58 v.up).1 (by
      have : ¬ 0 ≤ Lib.indexByte v.up 58 := fun h => hd (.inr h)
      omega)
    have hl : writeL v = v.up ++ if v.rev = [] then [] else 45 :: v.rev := by unfold writeL headL; rw [if_neg hd]
    rw [hl] at h64 ⊢
    have hn : 58 ∉ v.up ++ (if v.rev = [] then [] else 45 :: v.rev) := fun hm => by
      rcases List.mem_append.1 hm with hm | hm
      · exact h58 hm
      · split at hm
        · cases hm
        · rcases List.mem_cons.1 hm with hm | hm
          · cases hm
          · exact r58 hm
    have hB : epB (v.up ++ if v.rev = [] then [] else 45 :: v.rev) = false := by
      unfold epB
      cases hh : hasC (v.up ++ if v.rev = [] then [] else 45 :: v.rev)
      · rfl
      · exact absurd ((hasC_iff _).1 hh) hn
    have hS : epS (v.up ++ if v.rev = [] then [] else 45 :: v.rev) = 0 := by unfold epS; rw [hB]; rfl
    have hE : epE (v.up ++ if v.rev = [] then [] else 45 :: v.rev) = v.ep := by unfold epE; rw [hB, hep]; rfl
    exact parse_body _ (v.up ++ if v.rev = [] then [] else 45 :: v.rev) false v h64 (by rw [hS]; rfl) (by rw [hS]; omega) (by rw [hS]; rfl) hE ⟨c, r ++ (if v.rev = [] then [] else 45 :: v.rev), by rw [hup]; rfl, hc⟩ (hok false (fun _ => h58)) rfl hu h45 r45 r58

theorem trim_dig : ∀ u : List UInt8, (∀ c ∈ u, isC (c.toNat : Int) 1 = true) → ∀ c ∈ trimL u, isC (c.toNat : Int) 1 = true
  | [], _, c, hc => by
    rw [trimL] at hc
    rcases List.mem_singleton.1 hc with rfl
    decide
  | x :: r, h, c, hc => by
    rw [trimL] at hc
    split at hc
    · exact trim_dig r (fun y hy => h y (List.mem_cons_of_mem _ hy)) c hc
    · exact h c hc
theorem trim_trim : ∀ u : List UInt8, trimL (trimL u) = trimL u
  | [] => rfl
  | x :: r => by
    rw [trimL]
    split
    · exact trim_trim r
    · rename_i hx
      rw [trimL, if_neg hx]
theorem run_dig : ∀ u : List UInt8, (∀ c ∈ u, isC (c.toNat : Int) 1 = true) → runL 1 u = u.length
  | [], _ => rfl
  | x :: r, h => by rw [runL, if_pos (h x List.mem_cons_self), run_dig r (fun y hy => h y (List.mem_cons_of_mem _ hy))]; rfl
theorem dig_trim {u : List UInt8} (h : ∀ c ∈ u, isC (c.toNat : Int) 1 = true) : digB (trimL u) = true := by
  have hp := trimL_pos u
  unfold digB
  rw [run_dig _ (trim_dig u h)]
  have : (trimL u).isEmpty = false := by
    cases ht : trimL u with
    | nil => rw [ht] at hp; simp at hp
    | cons a b => rfl
  rw [this]
  simp
theorem trim_len : ∀ u : List UInt8, u ≠ [] → (trimL u).length ≤ u.length
  | [], h => absurd rfl h
  | x :: r, _ => by
    rw [trimL]
    split
    · have := trimL_le r; simp; omega
    · exact Nat.le_refl _

/-- What is read is fit, and its text is no longer than what was read. -/
theorem read_fit {l : List UInt8} {v : DebL} (h : parseL l = .ok v) : FitC v ∧ (writeL v).length ≤ l.length := by
  unfold parseL at h
  split at h
  · cases h
  · split at h
    · cases h
    · rename_i hw
      split at h
      · cases h
      · rename_i hcond
        have hSl : epS l ≤ l.length := by
          unfold epS
          split
          · rename_i hB
            have hh : hasC l = true := by unfold epB at hB; simp at hB; exact hB.1
            have := congrArg List.length (cutC_split l ((hasC_iff l).1 hh))
            rw [List.length_append, List.length_cons] at this
            omega
          · omega
        have hlen : (l.drop (epS l)).length = l.length - epS l := List.length_drop
        have htw : ¬ (epS l < l.length ∧ isC ((l.getD (epS l) 0).toNat : Int) 1 = false) ∧ ((l.drop (epS l)).takeWhile (okB (decide (0 < epS l)))).length = (l.drop (epS l)).length := by
          unfold wrongR at hw
          by_cases hx : epS l < l.length ∧ isC ((l.getD (epS l) 0).toNat : Int) 1 = false
          · rw [if_pos hx] at hw
            exact absurd hx.1 hw
          · rw [if_neg hx] at hw
            have : ((l.drop (epS l)).takeWhile (okB (decide (0 < epS l)))).length ≤ (l.drop (epS l)).length := (List.takeWhile_sublist _).length_le
            exact ⟨hx, by omega⟩
        have hall := all_tw _ _ htw.2
        have hne : l.drop (epS l) ≠ [] := by
          intro he
          rw [he] at hcond
          exact hcond rfl
        have hfirst : ∃ c r, l.drop (epS l) = c :: r ∧ isC (c.toNat : Int) 1 = true := by
          have hlt : epS l < l.length := by
            by_cases hlt : epS l < l.length
            · exact hlt
            · exact absurd (List.drop_eq_nil_of_le (by omega)) hne
          refine ⟨l[epS l], l.drop (epS l + 1), List.drop_eq_getElem_cons hlt, ?_⟩
          have hg : l.getD (epS l) 0 = l[epS l] := by simp [List.getD, hlt]
          cases hx : isC (l[epS l].toNat : Int) 1
          · exact absurd ⟨hlt, by rw [hg]; exact hx⟩ htw.1
          · rfl
        have hcol : decide (0 < epS l) = false → 58 ∉ l.drop (epS l) := fun he hm => by
          have := hall 58 hm
          rw [he] at this
          exact absurd this (by decide)
        have hepoch : digB (epE l) = true ∧ trimL (epE l) = epE l := by
          unfold epE
          split
          · rename_i hB
            have hh : digB (cutC l) = true := by unfold epB at hB; simp at hB; exact hB.2
            exact ⟨dig_trim (dig_all hh).2, trim_trim _⟩
          · exact ⟨by decide, rfl⟩
        have hEl : (epE l).length + 1 ≤ epS l ∨ (epS l = 0 ∧ epE l = [48]) := by
          unfold epE epS
          split
          · rename_i hB
            have hh : digB (cutC l) = true := by unfold epB at hB; simp at hB; exact hB.2
            have := trim_len (cutC l) (dig_all hh).1
            exact .inl (by omega)
          · exact .inr ⟨rfl, rfl⟩
        have hlink : ∀ c ∈ l.drop (epS l), c ≠ 45 → c ≠ 58 → partB c = true := fun c hc h1 h2 => by
          have := hall c hc
          rwa [ok_part c h2 h1] at this
        cases h
        obtain ⟨c0, r0, ht, hc0⟩ := hfirst
        generalize hT : l.drop (epS l) = t at *
        have hg := lastI_ge t 45
        by_cases hq : 0 ≤ lastI t 45
        · obtain ⟨hx, hbehind⟩ := lastI_behind t 45 hq
          obtain ⟨q, hqq⟩ := Int.eq_ofNat_of_zero_le hq
          have hU : cutU t 45 = t.take q := by unfold cutU; rw [if_neg (by omega), hqq]; rfl
          have hR : cutR t 45 = t.drop (q + 1) := by unfold cutR; rw [if_neg (by omega), hqq]; rfl
          have hH : cutH t 45 = true := by unfold cutH; simp [hq]
          rw [hqq] at hx hbehind
          simp only [Int.toNat_natCast] at hx hbehind
          have hrev : revB (t.drop (q + 1)) = true := by
            rw [hH, hR] at hcond
            cases hrb : revB (t.drop (q + 1))
            · rw [hrb] at hcond; simp at hcond
            · rfl
          obtain ⟨hrne, hr58⟩ := (rev_iff _).1 hrev
          have hq0 : q ≠ 0 := by
            rintro rfl
            rw [ht] at hx
            simp at hx
            rw [hx] at hc0
            exact absurd hc0 (by decide)
          have hqt : q < t.length := by have := hg.2; rw [hqq] at this; omega
          have htl : t.length = q + (1 + (t.drop (q + 1)).length) := by rw [List.length_drop]; omega
          refine ⟨⟨hepoch.1, hepoch.2, ?_, ?_, ?_⟩, ?_⟩
          · dsimp only
            rw [hU, ht]
            cases q with
            | zero => exact absurd rfl hq0
            | succ q => exact ⟨c0, r0.take q, rfl, hc0⟩
          · intro c hc
            dsimp only at hc ⊢
            rw [hU] at hc
            have hct := List.mem_of_mem_take hc
            by_cases h45 : c = 45
            · exact .inr (.inr ⟨h45, by rw [hR]; exact hrne⟩)
            · by_cases h58 : c = 58
              · exact .inr (.inl h58)
              · exact .inl (hlink c hct h45 h58)
          · intro c hc
            dsimp only at hc
            rw [hR] at hc
            have hct := List.mem_of_mem_drop hc
            exact hlink c hct (fun e => hbehind (by rw [← e]; exact hc)) (fun e => hr58 (by rw [← e]; exact hc))
          · have hwl : (writeL ⟨epE l, cutU t 45, cutR t 45⟩).length = (headL ⟨epE l, cutU t 45, cutR t 45⟩).length + (1 + (t.drop (q + 1)).length) := by
              unfold writeL
              dsimp only
              rw [hR, if_neg hrne, List.length_append, List.length_cons]
              omega
            have hul : (cutU t 45).length = q := by rw [hU, List.length_take]; omega
            have hhl : (headL ⟨epE l, cutU t 45, cutR t 45⟩).length ≤ epS l + q := by
              unfold headL
              dsimp only
              split
              · rename_i hd
                rcases hEl with he | ⟨he1, he2⟩
                · rw [List.length_append, List.length_cons, hul]; omega
                · exfalso
                  rcases hd with hd | hd
                  · exact hd he2
                  · have h58 := hcol (by rw [he1]; rfl)
                    have : 58 ∉ cutU t 45 := fun hm => h58 (by rw [hU] at hm; exact List.mem_of_mem_take hm)
                    have := (idx_mem 58 _).2 this
                    omega
              · rw [hul]; omega
            omega
        · have hU : cutU t 45 = t := by unfold cutU; rw [if_pos (by omega)]
          have hR : cutR t 45 = [] := by unfold cutR; rw [if_pos (by omega)]
          have h45 := lastI_none t 45 (by omega)
          refine ⟨⟨hepoch.1, hepoch.2, ?_, ?_, ?_⟩, ?_⟩
          · dsimp only
            rw [hU]
            exact ⟨c0, r0, ht, hc0⟩
          · intro c hc
            dsimp only at hc ⊢
            rw [hU] at hc
            by_cases h58 : c = 58
            · exact .inr (.inl h58)
            · exact .inl (hlink c hc (fun e => h45 (by rw [← e]; exact hc)) h58)
          · intro c hc
            dsimp only at hc
            rw [hR] at hc
            cases hc
          · have hwl : (writeL ⟨epE l, cutU t 45, cutR t 45⟩).length = (headL ⟨epE l, cutU t 45, cutR t 45⟩).length := by
              unfold writeL
              dsimp only
              rw [hR, if_pos rfl, List.append_nil]
            have hhl : (headL ⟨epE l, cutU t 45, cutR t 45⟩).length ≤ epS l + t.length := by
              unfold headL
              dsimp only
              split
              · rename_i hd
                rcases hEl with he | ⟨he1, he2⟩
                · rw [List.length_append, List.length_cons, hU]; omega
                · exfalso
                  rcases hd with hd | hd
                  · exact hd he2
                  · have h58 := hcol (by rw [he1]; rfl)
                    rw [hU] at hd
                    have := (idx_mem 58 _).2 h58
                    omega
              · rw [hU]; omega
            omega

/-- Are two versions one? -/
def sameB (u v : DebL) : Bool := u.ep == v.ep && u.up == v.up && u.rev == v.rev
theorem same_iff (u v : DebL) : sameB u v = true ↔ u = v := by
  unfold sameB
  cases u
  cases v
  simp [and_assoc]
/-- Which versions are fit. -/
def fitB (v : DebL) : Bool := match parseL (writeL v) with | .ok u => sameB u v | .error _ => false
/-- A version's text, or none. -/
def formL (v : DebL) : List UInt8 := if fitB v then writeL v else []
theorem fitB_iff (v : DebL) : fitB v = true ↔ parseL (writeL v) = .ok v := by
  unfold fitB
  cases hp : parseL (writeL v) with
  | error x => simp
  | ok u => simp [same_iff]
theorem read_back {l : List UInt8} {v : DebL} (h : parseL l = .ok v) : fitB v = true := by
  obtain ⟨h1, h2⟩ := read_fit h
  have hl : l.length ≤ 64 := by
    unfold parseL at h
    split at h
    · cases h
    · omega
  exact (fitB_iff v).2 (fit_back h1 (by omega))
theorem fit_doc (v : DebL) : fitB v = true ↔ FitC v ∧ (writeL v).length ≤ 64 := by
  rw [fitB_iff]
  constructor
  · intro h
    refine ⟨(read_fit h).1, ?_⟩
    unfold parseL at h
    split at h
    · cases h
    · omega
  · rintro ⟨h1, h2⟩
    exact fit_back h1 h2
theorem read_cmp {l : List UInt8} {v : DebL} (h : parseL l = .ok v) : cmpT (formL v) l = 0 := by
  have hf := read_back h
  have hp := (fitB_iff v).1 hf
  unfold formL
  rw [if_pos hf]
  unfold cmpT
  rw [hp, h]
  exact ordO_cmp3.self v

end Go.Proofs.Ythojcidbhojlhaa
