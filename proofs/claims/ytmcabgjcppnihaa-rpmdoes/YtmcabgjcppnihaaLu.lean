/-
  Plain laws: what is read is fit, and what is fit is read back from its text; signs behind a row of segments; no program is named here.
-/
import Derived.Test.YtmcabgjcppnihaaLq
namespace Go.Proofs.Ytmcabgjcppnihaa
set_option linter.unusedVariables false

/-- The chapter's words of a fit version, but for its length. -/
structure FitC (v : RpmL) : Prop where
  ep0 : v.ep ≠ []
  ep1 : ∀ c ∈ v.ep, isC (c.toNat : Int) 1 = true
  ep2 : trimL v.ep = v.ep
  ve0 : v.ver ≠ []
  ve1 : ∀ c ∈ v.ver, okV c = true
  re0 : v.has = true → v.rel ≠ []
  re1 : ∀ c ∈ v.rel, okV c = true
  re2 : v.has = false → v.rel = []

theorem tw_app : ∀ (a b : List UInt8), (∀ c ∈ a, okV c = true) → (∀ c r, b = c :: r → okV c = false) → twV (a ++ b) = a.length
  | [], b, _, h => by
    cases b with
    | nil => rfl
    | cons c r => unfold twV; rw [List.nil_append, List.takeWhile_cons, if_neg (by rw [h c r rfl]; simp), List.length_nil]
  | x :: a, b, h, hb => by
    have ih := tw_app a b (fun c hc => h c (List.mem_cons_of_mem _ hc)) hb
    unfold twV at *
    rw [List.cons_append, List.takeWhile_cons, if_pos (h x List.mem_cons_self), List.length_cons, ih, List.length_cons]
theorem tw_all (a : List UInt8) (h : ∀ c ∈ a, okV c = true) : twV a = a.length := by
  have := tw_app a [] h (fun c r e => by cases e)
  rwa [List.append_nil] at this
theorem all_take : ∀ (t : List UInt8) (n : Nat), n ≤ twV t → ∀ c ∈ t.take n, okV c = true
  | [], n, _, c, hc => by simp at hc
  | x :: r, 0, _, c, hc => by simp at hc
  | x :: r, n + 1, h, c, hc => by
    unfold twV at h
    rw [List.takeWhile_cons] at h
    split at h
    · rename_i hx
      rw [List.take_succ_cons] at hc
      rcases List.mem_cons.1 hc with rfl | hc
      · exact hx
      · exact all_take r n (by unfold twV; simp at h; omega) c hc
    · simp at h
theorem all_tw (t : List UInt8) (h : twV t = t.length) : ∀ c ∈ t, okV c = true := by
  have := all_take t t.length (by omega)
  rwa [List.take_length] at this
theorem run_app (k : Int) : ∀ (a b : List UInt8), (∀ c ∈ a, isC (c.toNat : Int) k = true) → (∀ c r, b = c :: r → isC (c.toNat : Int) k = false) → runL k (a ++ b) = a.length
  | [], b, _, h => by
    cases b with
    | nil => rfl
    | cons c r => rw [List.nil_append, runL, if_neg (by rw [h c r rfl]; simp)]; rfl
  | x :: a, b, h, hb => by
    rw [List.cons_append, runL, if_pos (h x List.mem_cons_self), run_app k a b (fun c hc => h c (List.mem_cons_of_mem _ hc)) hb]
    rfl
theorem run_all (k : Int) (a : List UInt8) (h : ∀ c ∈ a, isC (c.toNat : Int) k = true) : runL k a = a.length := by
  have := run_app k a [] h (fun c r e => by cases e)
  rwa [List.append_nil] at this
theorem all_run (k : Int) : ∀ (t : List UInt8), ∀ c ∈ t.take (runL k t), isC (c.toNat : Int) k = true
  | [], c, hc => by simp at hc
  | x :: r, c, hc => by
    rw [runL] at hc
    split at hc
    · rename_i hx
      rw [List.take_succ_cons] at hc
      rcases List.mem_cons.1 hc with rfl | hc
      · exact hx
      · exact all_run k r c hc
    · simp at hc
theorem trim_dig : ∀ u : List UInt8, (∀ c ∈ u, isC (c.toNat : Int) 1 = true) → ∀ c ∈ trimL u, isC (c.toNat : Int) 1 = true
  | [], _, c, hc => by
    rw [trimL] at hc
    rcases List.mem_singleton.1 hc with rfl
    decide
  | x :: r, h, c, hc => by
    rw [trimL] at hc
    split at hc
    · exact trim_dig r (fun y hy => h y (List.mem_cons_of_mem _ hy)) c hc
    · exact h c hc
theorem trim_trim : ∀ u : List UInt8, trimL (trimL u) = trimL u
  | [] => rfl
  | x :: r => by
    rw [trimL]
    split
    · exact trim_trim r
    · rename_i hx
      rw [trimL, if_neg hx]
theorem trim_len : ∀ u : List UInt8, u ≠ [] → (trimL u).length ≤ u.length
  | [], h => absurd rfl h
  | x :: r, _ => by
    rw [trimL]
    split
    · have := trimL_le r; simp; omega
    · exact Nat.le_refl _

/-- What stands behind the version. -/
def tailW (v : RpmL) : List UInt8 := if v.has then 45 :: v.rel else []
theorem no58 {l : List UInt8} (h : ∀ c ∈ l, okV c = true) : 58 ∉ l := fun hm => absurd (h 58 hm) (by decide)

/-- A text with an epoch, or without: what is read behind it. -/
theorem parse_body {l pre : List UInt8} {v : RpmL} (hl : l = pre ++ (v.ver ++ tailW v)) (h64 : l.length ≤ 64) (hS : epS l = pre.length) (hE : epE l = v.ep) (h : FitC v) : parseL l = .ok v := by
  have hd : l.drop (epS l) = v.ver ++ tailW v := by rw [hS, hl, List.drop_left]
  have htw : twV (v.ver ++ tailW v) = v.ver.length := tw_app v.ver (tailW v) h.ve1 (fun c r e => by
    unfold tailW at e
    split at e
    · cases e; decide
    · cases e)
  have hV : verE l = pre.length + v.ver.length := by unfold verE endR; rw [hd, hS, htw]
  have hvl : 0 < v.ver.length := List.length_pos_iff.2 h.ve0
  have hlen : l.length = pre.length + v.ver.length + (tailW v).length := by rw [hl, List.length_append, List.length_append]; omega
  have hsv : seg l (epS l) (verE l) = v.ver := by
    rw [hV, hS, seg_run]
    rw [hl, List.drop_left, List.take_left]
  have hdv : l.drop (verE l) = tailW v := by
    rw [hV, ← List.drop_drop, hl, List.drop_left, List.drop_left]
  unfold parseL
  rw [if_neg (by omega)]
  cases hh : v.has
  · have ht : tailW v = [] := by unfold tailW; rw [hh]; rfl
    have hR : relB l = false := by
      unfold relB
      have : atB l (verE l) 45 = false := by
        cases ha : atB l (verE l) 45
        · rfl
        · have := atB_lt ha; rw [hV] at this; rw [hlen, ht] at this; simp at this
      rw [this, Bool.and_false]
    rw [hR, if_neg (by simp), hsv, hE]
    unfold tailL
    rw [if_neg (by rw [hV, hlen, ht]; simp), if_neg (by rw [hV, hS]; omega), ← h.re2 hh, ← hh]
  · have ht : tailW v = 45 :: v.rel := by unfold tailW; rw [hh]; rfl
    have ha : atB l (verE l) 45 = true := by
      rw [atB_iff]
      have : (l.drop (verE l))[0]? = some 45 := by rw [hdv, ht]; rfl
      rwa [List.getElem?_drop, Nat.add_zero] at this
    have hR : relB l = true := by unfold relB; rw [ha, hV, hS]; simp; omega
    have hd2 : l.drop (verE l + 1) = v.rel := by rw [← List.drop_drop, hdv, ht]; rfl
    have hr : relE l = l.length := by
      unfold relE endR
      rw [hd2, tw_all v.rel h.re1, hV, hlen, ht, List.length_cons]
      omega
    have hrl : 0 < v.rel.length := List.length_pos_iff.2 (h.re0 hh)
    have hs2 : seg l (verE l + 1) (relE l) = v.rel := by
      rw [hr]; unfold seg; rw [List.take_length]; exact hd2
    rw [hR, if_pos rfl, hsv, hs2, hE]
    unfold tailL
    rw [if_neg (by rw [hr]; omega), if_neg (by rw [hr, hV, hlen, ht, List.length_cons]; omega), ← hh]

/-- What is fit is read back from its text. -/
theorem fit_back {v : RpmL} (h : FitC v) (h64 : (writeL v).length ≤ 64) : parseL (writeL v) = .ok v := by
  have t58 : 58 ∉ tailW v := by
    unfold tailW
    split
    · intro hm
      rcases List.mem_cons.1 hm with hm | hm
      · cases hm
      · exact no58 h.re1 hm
    · intro hm; cases hm
  by_cases he : v.ep = [48]
  · have hl : writeL v = [] ++ (v.ver ++ tailW v) := by unfold writeL headL tailW; rw [if_pos he]; rfl
    have hB : epB (writeL v) = false := by
      cases hB : epB (writeL v)
      · rfl
      · unfold epB at hB
        rw [Bool.and_eq_true, atB_iff] at hB
        have hm := List.mem_of_getElem? hB.2
        rw [hl, List.nil_append] at hm
        rcases List.mem_append.1 hm with hm | hm
        · exact absurd hm (no58 h.ve1)
        · exact absurd hm t58
    exact parse_body hl h64 (by unfold epS; rw [hB]; rfl) (by unfold epE; rw [hB, he]; rfl) h
  · have hl : writeL v = (v.ep ++ [58]) ++ (v.ver ++ tailW v) := by unfold writeL headL tailW; rw [if_neg he]; simp
    have hr : runL 1 (writeL v) = v.ep.length := by
      rw [hl, List.append_assoc]
      exact run_app 1 v.ep _ h.ep1 (fun c r e => by cases e; decide)
    have hp : 0 < v.ep.length := List.length_pos_iff.2 h.ep0
    have hB : epB (writeL v) = true := by
      unfold epB
      rw [Bool.and_eq_true, hr]
      refine ⟨by simpa using hp, (atB_iff _ _ _).2 ?_⟩
      rw [hl, List.append_assoc, List.getElem?_append_right (by omega)]
      simp
    refine parse_body hl h64 (by unfold epS; rw [hB, hr]; simp) ?_ h
    unfold epE
    rw [hB, if_pos rfl, hr, hl, List.append_assoc, List.take_left, h.ep2]

theorem ep_fit (l : List UInt8) : epE l ≠ [] ∧ (∀ c ∈ epE l, isC (c.toNat : Int) 1 = true) ∧ trimL (epE l) = epE l ∧ (if epE l = [48] then 0 else (epE l).length + 1) ≤ epS l := by
  unfold epE epS
  cases hB : epB l
  · refine ⟨by simp, ?_, by rfl, by simp⟩
    intro c hc
    rcases List.mem_singleton.1 hc with rfl
    decide
  · rw [if_pos rfl, if_pos rfl]
    have hp := trimL_pos (l.take (runL 1 l))
    refine ⟨fun e => by rw [e] at hp; simp at hp, trim_dig _ (all_run 1 l), trim_trim _, ?_⟩
    have h0 : 0 < runL 1 l := by unfold epB at hB; rw [Bool.and_eq_true] at hB; simpa using hB.1
    have h1 := runL_le 1 l
    have hne : l.take (runL 1 l) ≠ [] := fun e => by
      have := congrArg List.length e
      rw [List.length_take, List.length_nil] at this
      omega
    have := trim_len _ hne
    rw [List.length_take] at this
    split <;> omega

theorem tail_ok' {n st en : Nat} {v u : RpmL} (h : tailL n st en v = .ok u) : u = v ∧ n ≤ en ∧ en ≠ st := by
  unfold tailL at h
  split at h
  · cases h
  · split at h
    · cases h
    · cases h; exact ⟨rfl, by omega, by assumption⟩
/-- What is read is fit, and its text is no longer than what was read. -/
theorem read_fit {l : List UInt8} {v : RpmL} (h : parseL l = .ok v) : FitC v ∧ (writeL v).length ≤ l.length := by
  obtain ⟨e1, e2, e3, e4⟩ := ep_fit l
  have hSV : epS l ≤ verE l := endR_ge _ _
  have hVl := verE_le l
  have hsv : seg l (epS l) (verE l) = (l.drop (epS l)).take (twV (l.drop (epS l))) := by
    have : verE l = epS l + twV (l.drop (epS l)) := rfl
    rw [this, seg_run]
  have hlv : (seg l (epS l) (verE l)).length = verE l - epS l := seg_len l _ _ hVl
  have hvo : ∀ c ∈ seg l (epS l) (verE l), okV c = true := by rw [hsv]; exact all_take _ _ (Nat.le_refl _)
  unfold parseL at h
  split at h
  · cases h
  · split at h
    · rename_i hR
      obtain ⟨rfl, h1, h2⟩ := tail_ok' h
      have hlt := relB_lt hR
      have hrl : relE l ≤ l.length := endR_le l _ (by omega)
      have hRV : verE l + 1 ≤ relE l := endR_ge _ _
      have hsr : seg l (verE l + 1) (relE l) = (l.drop (verE l + 1)).take (twV (l.drop (verE l + 1))) := by
        have : relE l = verE l + 1 + twV (l.drop (verE l + 1)) := rfl
        rw [this, seg_run]
      have hlr : (seg l (verE l + 1) (relE l)).length = relE l - (verE l + 1) := seg_len l _ _ hrl
      have hsvlt : epS l < verE l := by unfold relB at hR; rw [Bool.and_eq_true] at hR; simpa using hR.1
      refine ⟨⟨e1, e2, e3, ?_, hvo, fun _ => ?_, ?_, fun e => by cases e⟩, ?_⟩
      · intro e; dsimp only at e; rw [e] at hlv; simp at hlv; omega
      · intro e; dsimp only at e; rw [e] at hlr; simp at hlr; omega
      · dsimp only; rw [hsr]; exact all_take _ _ (Nat.le_refl _)
      · unfold writeL headL
        dsimp only
        split
        · rename_i he
          rw [if_pos he] at e4
          rw [if_pos rfl, List.length_append, List.length_cons, hlv, hlr]; omega
        · rename_i he
          rw [if_neg he] at e4
          rw [if_pos rfl, List.length_append, List.length_append, List.length_cons, List.length_cons, hlv, hlr]; omega
    · obtain ⟨rfl, h1, h2⟩ := tail_ok' h
      refine ⟨⟨e1, e2, e3, ?_, hvo, (fun e => by cases e), (fun c hc => by cases hc), fun _ => rfl⟩, ?_⟩
      · intro e; dsimp only at e; rw [e] at hlv; simp at hlv; omega
      · unfold writeL headL
        dsimp only
        split
        · rename_i he
          rw [if_pos he] at e4
          rw [if_neg (by simp), List.append_nil, hlv]; omega
        · rename_i he
          rw [if_neg he] at e4
          rw [if_neg (by simp), List.append_nil, List.length_append, List.length_cons, hlv]; omega
theorem read_back {l : List UInt8} {v : RpmL} (h : parseL l = .ok v) : parseL (writeL v) = .ok v := by
  obtain ⟨h1, h2⟩ := read_fit h
  have hl : l.length ≤ 64 := by
    unfold parseL at h
    split at h
    · cases h
    · omega
  exact fit_back h1 (by omega)

/-- Are two versions the same? -/
def sameB (u v : RpmL) : Bool := (u.ep == v.ep) && (u.ver == v.ver) && (u.rel == v.rel) && (u.has == v.has)
theorem same_iff (u v : RpmL) : sameB u v = true ↔ u = v := by
  unfold sameB
  cases u; cases v
  simp [and_assoc]
/-- Is a version one? -/
def fitB (v : RpmL) : Bool := match parseL (writeL v) with
  | .ok u => sameB u v
  | .error _ => false
theorem fitB_iff (v : RpmL) : fitB v = true ↔ parseL (writeL v) = .ok v := by
  unfold fitB
  cases h : parseL (writeL v) with
  | error x => simp
  | ok u => rw [show (match (Except.ok u : Except (Int × Nat) RpmL) with | .ok u => sameB u v | .error _ => false) = sameB u v from rfl, same_iff]; simp
/-- A version's text, where it is one. -/
def formL (v : RpmL) : List UInt8 := if fitB v then writeL v else []
theorem read_fitB {l : List UInt8} {v : RpmL} (h : parseL l = .ok v) : fitB v = true := (fitB_iff v).2 (read_back h)
theorem read_cmp {l : List UInt8} {v : RpmL} (h : parseL l = .ok v) : cmpT (formL v) l = 0 := by
  have hf := read_fitB h
  have e : formL v = writeL v := by unfold formL; rw [hf]; rfl
  unfold cmpT
  rw [e, read_back h, h]
  exact ordO_cmp3.self v
/-- Segments alone, as the document says it. -/
def segB (l : List UInt8) : Bool := !l.isEmpty && (twV l == l.length)
theorem segB_iff (l : List UInt8) : segB l = true ↔ l ≠ [] ∧ ∀ c ∈ l, okV c = true := by
  unfold segB
  rw [Bool.and_eq_true]
  constructor
  · rintro ⟨h1, h2⟩
    exact ⟨by simpa using h1, all_tw l (by simpa using h2)⟩
  · rintro ⟨h1, h2⟩
    exact ⟨by simpa using h1, by simpa using tw_all l h2⟩
/-- A fit version, as the document says it. -/
def fitD (v : RpmL) : Bool := !v.ep.isEmpty && (runL 1 v.ep == v.ep.length) && (trimL v.ep == v.ep) && segB v.ver && decide ((writeL v).length ≤ 64) && (if v.has then segB v.rel else v.rel.isEmpty)
theorem all_run_iff (l : List UInt8) : runL 1 l = l.length ↔ ∀ c ∈ l, isC (c.toNat : Int) 1 = true :=
  ⟨fun h => by have := all_run 1 l; rwa [h, List.take_length] at this, run_all 1 l⟩
theorem fitD_iff (v : RpmL) : fitD v = true ↔ FitC v ∧ (writeL v).length ≤ 64 := by
  unfold fitD
  simp only [Bool.and_eq_true]
  constructor
  · rintro ⟨⟨⟨⟨⟨h1, h2⟩, h3⟩, h4⟩, h5⟩, h6⟩
    obtain ⟨v1, v2⟩ := (segB_iff _).1 h4
    refine ⟨⟨by simpa using h1, (all_run_iff _).1 (by simpa using h2), by simpa using h3, v1, v2, fun hh => ?_, ?_, fun hh => ?_⟩, by simpa using h5⟩
    · rw [hh, if_pos rfl] at h6; exact ((segB_iff _).1 h6).1
    · cases hh : v.has
      · rw [hh, if_neg (by simp)] at h6
        rw [show v.rel = [] by simpa using h6]
        intro c hc; cases hc
      · rw [hh, if_pos rfl] at h6; exact ((segB_iff _).1 h6).2
    · rw [hh, if_neg (by simp)] at h6; simpa using h6
  · rintro ⟨h, h5⟩
    refine ⟨⟨⟨⟨⟨by simpa using h.ep0, by simpa using (all_run_iff _).2 h.ep1⟩, by simpa using h.ep2⟩, (segB_iff _).2 ⟨h.ve0, h.ve1⟩⟩, by simpa using h5⟩, ?_⟩
    cases hh : v.has
    · rw [if_neg (by simp)]; simpa using h.re2 hh
    · rw [if_pos rfl]; exact (segB_iff _).2 ⟨h.re0 hh, h.re1⟩
theorem fit_doc (v : RpmL) : fitB v = fitD v := by
  rw [Bool.eq_iff_iff, fitB_iff, fitD_iff]
  constructor
  · intro h
    have hl : (writeL v).length ≤ 64 := by
      unfold parseL at h
      split at h
      · cases h
      · omega
    exact ⟨(read_fit h).1, hl⟩
  · rintro ⟨h1, h2⟩; exact fit_back h1 h2

/-! ### Signs behind a row of segments -/

/-- What does not go on with a segment. -/
def Brk (x : List UInt8) : Prop := ∀ c r, x = c :: r → joinB (kindB c) = false
theorem sk_app : ∀ (s x : List UInt8), skL s = [] → skL (s ++ x) = skL x
  | [], x, _ => rfl
  | c :: s, x, h => by
    have hc : (kindB c == 1) = true := by
      cases hk : (kindB c == 1)
      · unfold skL skN at h; rw [List.takeWhile_cons, hk] at h; simp at h
      · rfl
    have h' : skL s = [] := by unfold skL skN at *; rw [List.takeWhile_cons, if_pos hc] at h; simpa using h
    have ih := sk_app s x h'
    unfold skL skN at *
    rw [List.cons_append, List.takeWhile_cons, if_pos hc]
    simpa using ih
theorem sk_cons : ∀ (s x : List UInt8) (c : UInt8) (r : List UInt8), skL s = c :: r → skL (s ++ x) = c :: (r ++ x)
  | [], x, c, r, h => by cases h
  | d :: s, x, c, r, h => by
    cases hk : (kindB d == 1)
    · have e : skL (d :: s) = d :: s := by unfold skL skN; rw [List.takeWhile_cons, hk]; rfl
      rw [e] at h
      cases h
      unfold skL skN; rw [List.cons_append, List.takeWhile_cons, hk]; rfl
    · have h' : skL s = c :: r := by unfold skL skN at *; rw [List.takeWhile_cons, hk] at h; simpa using h
      have ih := sk_cons s x c r h'
      unfold skL skN at *
      rw [List.cons_append, List.takeWhile_cons, hk]
      simpa using ih
theorem kn_app (k : Int) (hk : joinB k = true) : ∀ (r x : List UInt8), Brk x → knN k (r ++ x) = knN k r
  | [], x, hx => by
    cases x with
    | nil => rfl
    | cons c y =>
      have := hx c y rfl
      have hne : (kindB c == k) = false := by
        cases he : (kindB c == k)
        · rfl
        · rw [eq_of_beq he] at this; rw [hk] at this; cases this
      unfold knN; rw [List.nil_append, List.takeWhile_cons, hne]; rfl
  | d :: r, x, hx => by
    have ih := kn_app k hk r x hx
    unfold knN at *
    rw [List.cons_append, List.takeWhile_cons, List.takeWhile_cons]
    cases hd : (kindB d == k)
    · rfl
    · simp only [if_true, List.length_cons, ih]
/-- The first segment of a text that is gone on with. -/
theorem first_app {s x : List UInt8} (hx : Brk x) {c : UInt8} {r : List UInt8} (h : skL s = c :: r) : knL (s ++ x) = knL s ∧ txL (s ++ x) = txL s ∧ restL (s ++ x) = restL s ++ x := by
  have h' := sk_cons s x c r h
  have htk : tkN (s ++ x) = tkN s := by
    unfold tkN
    rw [h', h]
    dsimp only
    cases hj : joinB (kindB c)
    · rfl
    · rw [if_pos rfl, if_pos rfl, kn_app _ hj r x hx]
  have hle := tkN_le s
  rw [h] at hle
  refine ⟨by unfold knL; rw [h', h], ?_, ?_⟩
  · unfold txL
    rw [htk, h', h, ← List.cons_append, List.take_append_of_le_length hle]
  · unfold restL
    rw [htk, h', h, ← List.cons_append, List.drop_append_of_le_length hle]
theorem row_self (a b : List UInt8) (h1 : knL a = knL b) (h2 : txL a = txL b) : rowO a b = 0 := by
  unfold rowO
  rw [if_pos h1, h2]
  split
  · exact cmpD_cmp3.self _
  · exact bytes_cmp3.self _
theorem none_app (s x : List UInt8) (h : skL s = []) : knL (s ++ x) = knL x ∧ txL (s ++ x) = txL x ∧ restL (s ++ x) = restL x := by
  have h' := sk_app s x h
  have htk : tkN (s ++ x) = tkN x := by unfold tkN; rw [h']
  exact ⟨by unfold knL; rw [h'], by unfold txL; rw [htk, h'], by unfold restL; rw [htk, h']⟩
/-- What two texts begin with alike plays no part. -/
theorem part_app : ∀ (n : Nat) (s x y : List UInt8), s.length ≤ n → Brk x → Brk y → partO (s ++ x) (s ++ y) = partO x y
  | n, s, x, y, hn, hx, hy => by
    cases h : skL s with
    | nil =>
      obtain ⟨a1, a2, a3⟩ := none_app s x h
      obtain ⟨b1, b2, b3⟩ := none_app s y h
      rw [partO_step, partO_step x y]
      unfold rowO
      rw [a1, a2, a3, b1, b2, b3]
    | cons c r =>
      obtain ⟨a1, a2, a3⟩ := first_app hx h
      obtain ⟨b1, b2, b3⟩ := first_app hy h
      have hs : s ≠ [] := by rintro rfl; cases h
      have hlt := restL_lt s hs
      rw [partO_step, if_pos (row_self _ _ (by rw [a1, b1]) (by rw [a2, b2])), a3, b3]
      match n with
      | 0 => omega
      | n + 1 => exact part_app n (restL s) x y (by omega) hx hy
theorem brk_nil : Brk [] := fun c r e => by cases e
theorem brk_cons (c : UInt8) (m : List UInt8) (h : joinB (kindB c) = false) : Brk (c :: m) := fun d r e => by cases e; exact h
theorem first_sign (c : UInt8) (m : List UInt8) (h : (kindB c == 1) = false) : knL (c :: m) = kindB c := by
  unfold knL skL skN; rw [List.takeWhile_cons, h]; rfl
theorem sign_tilde (s m : List UInt8) : partO (s ++ 126 :: m) s = -1 := by
  have := part_app s.length s (126 :: m) [] (Nat.le_refl _) (brk_cons 126 m (by decide)) brk_nil
  rw [List.append_nil] at this
  rw [this, partO_step]
  have e : rowO (126 :: m) [] = -1 := by
    unfold rowO
    rw [first_sign 126 m (by decide), if_neg (by decide)]
    decide
  rw [e]; rfl
theorem sign_caret (s m : List UInt8) : partO (s ++ 94 :: m) s = 1 := by
  have := part_app s.length s (94 :: m) [] (Nat.le_refl _) (brk_cons 94 m (by decide)) brk_nil
  rw [List.append_nil] at this
  rw [this, partO_step]
  have e : rowO (94 :: m) [] = 1 := by
    unfold rowO
    rw [first_sign 94 m (by decide), if_neg (by decide)]
    decide
  rw [e]; rfl
theorem sign_more (s m : List UInt8) : partO (s ++ 94 :: m) (s ++ [46, 49]) = -1 := by
  have := part_app s.length s (94 :: m) [46, 49] (Nat.le_refl _) (brk_cons 94 m (by decide)) (brk_cons 46 [49] (by decide))
  rw [this, partO_step]
  have e : rowO (94 :: m) [46, 49] = -1 := by
    unfold rowO
    rw [first_sign 94 m (by decide), if_neg (by decide)]
    decide
  rw [e]; rfl

end Go.Proofs.Ytmcabgjcppnihaa
