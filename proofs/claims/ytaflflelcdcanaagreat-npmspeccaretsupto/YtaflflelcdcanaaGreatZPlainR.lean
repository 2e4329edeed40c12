/-
  Plain laws of texts: what is read is written as it stood.
-/
import Derived.Test.YtaflflelcdcanaaGreatZSg
namespace Go.Proofs.YtaflflelcdcanaaGreat

/-- Identifiers, each behind a dot. -/
def dotted (ts : List (List UInt8)) : List UInt8 := ts.flatMap fun t => 46 :: t
/-- Identifiers with dots between. -/
def joinL : List (List UInt8) → List UInt8
  | [] => []
  | t :: r => t ++ dotted r
theorem joinL_snoc (t u : List UInt8) (r : List (List UInt8)) : joinL ((t :: r) ++ [u]) = joinL (t :: r) ++ (46 :: u) := by
  simp [joinL, dotted]
/-- A version's text. -/
def textL (x : SemL) : List UInt8 := x.maj ++ [46] ++ x.min ++ [46] ++ x.pat ++ (if x.pre = [] then [] else 45 :: joinL x.pre) ++ (if x.bld = [] then [] else 43 :: joinL x.bld)

theorem seg_app (l : List UInt8) (a b c : Nat) (h1 : a ≤ b) (h2 : b ≤ c) : seg l a b ++ seg l b c = seg l a c := by
  unfold seg
  have : l.take b = (l.take c).take b := by rw [List.take_take]; congr 1; omega
  rw [this]
  by_cases hb : b ≤ (l.take c).length
  · have e : (l.take c).drop a = ((l.take c).take b ++ (l.take c).drop b).drop a := by rw [List.take_append_drop]
    rw [e, List.drop_append_of_le_length (by rw [List.length_take]; omega)]
  · rw [List.take_of_length_le (by omega), List.drop_eq_nil_of_le (by omega : (l.take c).length ≤ b), List.append_nil]
theorem seg_one (l : List UInt8) (a : Nat) (c : UInt8) (h : l[a]? = some c) : seg l a (a + 1) = [c] := by
  unfold seg
  have hlt := (List.getElem?_eq_some_iff.1 h).1
  have hx := (List.getElem?_eq_some_iff.1 h).2
  rw [List.take_succ_eq_append_getElem hlt, List.drop_append_of_le_length (by rw [List.length_take]; omega), List.drop_eq_nil_of_le (by rw [List.length_take]; omega), hx]
  rfl
theorem seg_all (l : List UInt8) : seg l 0 l.length = l := by simp [seg]

/-- Identifiers from a place on, joined, are what stands there. -/
theorem join_segs (l : List UInt8) : ∀ (n a : Nat), l.length - a = n → a ≤ l.length → joinL ((segs l a).map fun x => seg l x.1 x.2) = seg l a (lastE a (segs l a)) ∧ a ≤ lastE a (segs l a) := by
  intro n
  induction n using Nat.strongRecOn with
  | _ n ih =>
    intro a hn ha
    have he := idL_le (l.drop a)
    rw [List.length_drop] at he
    by_cases h : l[a + idL (l.drop a)]? = some 46
    · have hlt := (List.getElem?_eq_some_iff.1 h).1
      obtain ⟨i1, i2⟩ := ih (l.length - (a + idL (l.drop a) + 1)) (by omega) (a + idL (l.drop a) + 1) rfl (by omega)
      have hs := segs_dot l a _ rfl h
      have hl : lastE a (segs l a) = lastE (a + idL (l.drop a) + 1) (segs l (a + idL (l.drop a) + 1)) := by
        rw [hs]
        unfold lastE
        rw [List.getLast?_cons]
        cases hx : (segs l (a + idL (l.drop a) + 1)).getLast? with
        | none => exact absurd (List.getLast?_eq_none_iff.1 hx) (segs_ne _ _)
        | some x => simp
      rw [hl]
      refine ⟨?_, by omega⟩
      rw [hs, List.map_cons, joinL]
      simp only
      have hne := segs_ne l (a + idL (l.drop a) + 1)
      cases hm : (segs l (a + idL (l.drop a) + 1)).map fun x => seg l x.1 x.2 with
      | nil => exact absurd (List.map_eq_nil_iff.1 hm) hne
      | cons t r =>
        rw [hm] at i1
        have : dotted (t :: r) = 46 :: joinL (t :: r) := by simp [dotted, joinL]
        have e1 := seg_app l a (a + idL (l.drop a)) _ (by omega) (Nat.le_trans (Nat.le_succ _) i2)
        have e2 := seg_app l (a + idL (l.drop a)) (a + idL (l.drop a) + 1) _ (by omega) i2
        rw [seg_one l _ 46 h] at e2
        rw [this, i1, ← e1, ← e2]
        rfl
    · have hs := segs_last l a _ rfl h
      rw [hs]
      simp [joinL, lastE, dotted]
theorem ids_join {p : Bool} {l : List UInt8} {a : Nat} {xs : List (Nat × Nat)} {q : Nat} (h : idsR p l a = .ok (xs, q)) (ha : a ≤ l.length) : joinL (xs.map fun x => seg l x.1 x.2) = seg l a q ∧ a ≤ q ∧ q ≤ l.length ∧ xs ≠ [] ∧ badOf p l xs = none := by
  unfold idsR at h
  split at h
  · cases h
  · rename_i hb
    cases h
    have := join_segs l _ a rfl ha
    exact ⟨this.1, this.2, (lastE_ends l a ha).1, segs_ne l a, hb⟩
theorem numR_okle {l : List UInt8} {a b : Nat} (h : numR l a = .ok b) : a ≤ b ∧ (a ≤ l.length → b ≤ l.length) ∧ numB (seg l a b) = true := by
  unfold numR at h
  split at h
  · cases h
  · rename_i h1
    split at h
    · cases h
    · rename_i h2
      cases h
      have hle := runL_le 1 (l.drop a)
      rw [List.length_drop] at hle
      refine ⟨by omega, by omega, ?_⟩
      have hd : digB (seg l a (a + runL 1 (l.drop a))) = true := by
        have e : seg l a (a + runL 1 (l.drop a)) = (l.drop a).take (runL 1 (l.drop a)) := by
          unfold seg; rw [List.drop_take]; congr 1; omega
        have hr : ∀ m : List UInt8, runL 1 (m.take (runL 1 m)) = runL 1 m := by
          intro m
          induction m with
          | nil => rfl
          | cons c r ih =>
            by_cases hc : isC (c.toNat : Int) 1 = true
            · have e : runL 1 (c :: r) = runL 1 r + 1 := by rw [runL, if_pos hc]
              rw [e, List.take_succ_cons, runL, if_pos hc, ih]
            · have e : runL 1 (c :: r) = 0 := by rw [runL, if_neg hc]
              rw [e, List.take_zero]; rfl
        have hlen : ((l.drop a).take (runL 1 (l.drop a))).length = runL 1 (l.drop a) := by rw [List.length_take, List.length_drop]; omega
        rw [e]
        unfold digB
        rw [hr, hlen]
        cases hx : (l.drop a).take (runL 1 (l.drop a)) with
        | nil => rw [hx] at hlen; simp at hlen; omega
        | cons _ _ => simp
      unfold numB
      rw [hd]
      simp only [Bool.not_eq_true] at h2
      rw [h2]
      rfl
theorem dotR_ok {l : List UInt8} {a b : Nat} (h : dotR l a = .ok b) : b = a + 1 ∧ l[a]? = some 46 := by
  unfold dotR at h
  split at h
  · rename_i h1; cases h; exact ⟨rfl, h1⟩
  · cases h
theorem build_join {l : List UInt8} {p : Nat} {pre pr b : List (Nat × Nat)} (h : buildR l p pre = .ok (pr, b)) (hp : p ≤ l.length) :
    seg l p l.length = (if b.map (fun x => seg l x.1 x.2) = [] then [] else 43 :: joinL (b.map fun x => seg l x.1 x.2)) ∧ (b ≠ [] → badOf false l b = none) := by
  unfold buildR at h
  split at h
  · rename_i h43
    have hlt := (List.getElem?_eq_some_iff.1 h43).1
    cases hi : idsR false l (p + 1) with
    | error x => rw [hi] at h; cases h
    | ok y =>
      obtain ⟨xs, q⟩ := y
      rw [hi] at h
      simp only at h
      split at h
      · cases h
      · cases h
        obtain ⟨j1, j2, j3, j4, j5⟩ := ids_join hi (by omega)
        obtain rfl : q = l.length := by omega
        refine ⟨?_, fun _ => j5⟩
        rw [if_neg (by simpa using j4), j1, ← seg_app l p (p + 1) _ (by omega) (by omega), seg_one l p 43 h43]
        rfl
  · split at h
    · cases h
    · cases h
      obtain rfl : p = l.length := by omega
      refine ⟨?_, fun h => absurd rfl h⟩
      simp [seg]
theorem tail_join {l : List UInt8} {e : Nat} {pr b : List (Nat × Nat)} (h : tailR l e = .ok (pr, b)) (he : e ≤ l.length) :
    seg l e l.length = (if pr.map (fun x => seg l x.1 x.2) = [] then [] else 45 :: joinL (pr.map fun x => seg l x.1 x.2)) ++ (if b.map (fun x => seg l x.1 x.2) = [] then [] else 43 :: joinL (b.map fun x => seg l x.1 x.2)) ∧ (pr ≠ [] → badOf true l pr = none) ∧ (b ≠ [] → badOf false l b = none) := by
  unfold tailR at h
  split at h
  · rename_i h45
    have hlt := (List.getElem?_eq_some_iff.1 h45).1
    cases hi : idsR true l (e + 1) with
    | error x => rw [hi] at h; cases h
    | ok y =>
      obtain ⟨xs, q⟩ := y
      rw [hi] at h
      simp only at h
      obtain ⟨j1, j2, j3, j4, j5⟩ := ids_join hi (by omega)
      obtain ⟨k1, k2⟩ := build_join h j3
      obtain ⟨rfl, _⟩ := build_lists h
      refine ⟨?_, fun _ => j5, k2⟩
      rw [← k1, if_neg (by simpa using j4), j1, ← seg_app l e (e + 1) _ (by omega) (by omega), seg_one l e 45 h45, ← seg_app l (e + 1) q _ j2 j3]
      rfl
  · obtain ⟨k1, k2⟩ := build_join h he
    obtain ⟨rfl, _⟩ := build_lists h
    exact ⟨by rw [k1]; rfl, fun h => absurd rfl h, k2⟩
theorem nums_join {l : List UInt8} {a b c d e : Nat} (h : numsR l = .ok (a, b, c, d, e)) : seg l 0 a ++ [46] ++ seg l b c ++ [46] ++ seg l d e = seg l 0 e ∧ e ≤ l.length ∧ numB (seg l 0 a) = true ∧ numB (seg l b c) = true ∧ numB (seg l d e) = true := by
  unfold numsR at h
  cases h1 : numR l 0 with
  | error y => rw [h1] at h; cases h
  | ok a' =>
    rw [h1] at h; simp only at h
    cases h2 : dotR l a' with
    | error y => rw [h2] at h; cases h
    | ok b' =>
      rw [h2] at h; simp only at h
      cases h3 : numR l b' with
      | error y => rw [h3] at h; cases h
      | ok c' =>
        rw [h3] at h; simp only at h
        cases h4 : dotR l c' with
        | error y => rw [h4] at h; cases h
        | ok d' =>
          rw [h4] at h; simp only at h
          cases h5 : numR l d' with
          | error y => rw [h5] at h; cases h
          | ok e' =>
            rw [h5] at h; simp only at h
            cases h
            have n1 := numR_okle h1
            have n3 := numR_okle h3
            have n5 := numR_okle h5
            obtain ⟨rfl, g2⟩ := dotR_ok h2
            obtain ⟨rfl, g4⟩ := dotR_ok h4
            have l2 := (List.getElem?_eq_some_iff.1 g2).1
            have l4 := (List.getElem?_eq_some_iff.1 g4).1
            refine ⟨?_, n5.2.1 (by omega), n1.2.2, n3.2.2, n5.2.2⟩
            have e1 : seg l 0 a ++ [46] = seg l 0 (a + 1) := by rw [← seg_one l a 46 g2, seg_app l 0 a (a + 1) (by omega) (by omega)]
            have e2 : seg l 0 c ++ [46] = seg l 0 (c + 1) := by rw [← seg_one l c 46 g4, seg_app l 0 c (c + 1) (by omega) (by omega)]
            rw [e1, seg_app l 0 (a + 1) c (by omega) (by omega), e2, seg_app l 0 (c + 1) e (by omega) (by omega)]

/-- What is read is written as it stood. -/
theorem parse_text {l : List UInt8} {c : Cuts} (h : parseR l = .ok c) : textL (semOf l c) = l := by
  unfold parseR at h
  split at h
  · cases h
  · cases hn : numsR l with
    | error y => rw [hn] at h; cases h
    | ok y =>
      obtain ⟨a, b, c', d, e⟩ := y
      rw [hn] at h
      simp only at h
      cases ht : tailR l e with
      | error y => rw [ht] at h; cases h
      | ok y =>
        obtain ⟨pr, bl⟩ := y
        rw [ht] at h
        simp only at h
        cases h
        obtain ⟨m1, m2, _⟩ := nums_join hn
        obtain ⟨t1, _⟩ := tail_join ht m2
        unfold textL semOf
        simp only
        rw [m1, List.append_assoc, ← t1, seg_app l 0 e _ (by omega) m2, seg_all]

/-- No plus stands in these bytes. -/
def NoP (l : List UInt8) : Prop := ∀ c ∈ l, c ≠ 43
theorem NoP.app {a b : List UInt8} (ha : NoP a) (hb : NoP b) : NoP (a ++ b) := fun c hc => (List.mem_append.1 hc).elim (ha c) (hb c)
theorem noP_digits : ∀ l : List UInt8, runL 1 l = l.length → NoP l
  | [], _ => by intro c hc; cases hc
  | d :: r, h => by
    rw [runL] at h
    split at h
    · rename_i hd
      have ih := noP_digits r (by simpa using h)
      intro c hc
      rcases List.mem_cons.1 hc with rfl | hc
      · intro e; subst e; exact absurd hd (by decide)
      · exact ih c hc
    · simp at h
theorem noP_id : ∀ l : List UInt8, idL l = l.length → NoP l
  | [], _ => by intro c hc; cases hc
  | d :: r, h => by
    rw [idL] at h
    split at h
    · rename_i hd
      have ih := noP_id r (by simpa using h)
      intro c hc
      rcases List.mem_cons.1 hc with rfl | hc
      · intro e; subst e; exact absurd hd (by decide)
      · exact ih c hc
    · simp at h
theorem noP_num {l : List UInt8} (h : numB l = true) : NoP l := by
  unfold numB digB at h
  simp only [Bool.and_eq_true, beq_iff_eq] at h
  exact noP_digits l h.1.2
theorem idB_seg (l : List UInt8) (a : Nat) : idL (seg l a (a + idL (l.drop a))) = (seg l a (a + idL (l.drop a))).length := by
  have e : seg l a (a + idL (l.drop a)) = (l.drop a).take (idL (l.drop a)) := by
    unfold seg; rw [List.drop_take]; congr 1; omega
  have hr : ∀ m : List UInt8, idL (m.take (idL m)) = (m.take (idL m)).length := by
    intro m
    induction m with
    | nil => rfl
    | cons c r ih =>
      by_cases hc : isId c = true
      · have e : idL (c :: r) = idL r + 1 := by rw [idL, if_pos hc]
        rw [e, List.take_succ_cons, idL, if_pos hc, ih]; rfl
      · have e : idL (c :: r) = 0 := by rw [idL, if_neg hc]
        rw [e, List.take_zero]; rfl
  rw [e]
  exact hr _
theorem segs_id (l : List UInt8) : ∀ (n a : Nat), l.length - a = n → a ≤ l.length → ∀ x ∈ segs l a, idL (seg l x.1 x.2) = (seg l x.1 x.2).length := by
  intro n
  induction n using Nat.strongRecOn with
  | _ n ih =>
    intro a hn ha x hx
    by_cases h : l[a + idL (l.drop a)]? = some 46
    · rw [segs_dot l a _ rfl h] at hx
      have hlt := (List.getElem?_eq_some_iff.1 h).1
      rcases List.mem_cons.1 hx with rfl | hx
      · exact idB_seg l a
      · exact ih (l.length - (a + idL (l.drop a) + 1)) (by omega) (a + idL (l.drop a) + 1) rfl (by omega) x hx
    · rw [segs_last l a _ rfl h] at hx
      obtain rfl : x = _ := List.mem_singleton.1 hx
      exact idB_seg l a
theorem noP_dotted : ∀ ts : List (List UInt8), (∀ t ∈ ts, NoP t) → NoP (dotted ts)
  | [], _ => by intro c hc; cases hc
  | t :: r, h => by
    have ih := noP_dotted r (fun u hu => h u (List.mem_cons_of_mem _ hu))
    have h0 := h t List.mem_cons_self
    intro c hc
    have hc' : c ∈ (46 :: t) ++ dotted r := by simpa [dotted] using hc
    rcases List.mem_append.1 hc' with hc | hc
    · rcases List.mem_cons.1 hc with rfl | hc
      · decide
      · exact h0 c hc
    · exact ih c hc
theorem noP_join (ts : List (List UInt8)) (h : ∀ t ∈ ts, NoP t) : NoP (joinL ts) := by
  cases ts with
  | nil => intro c hc; cases hc
  | cons t r => exact (h t List.mem_cons_self).app (noP_dotted r fun u hu => h u (List.mem_cons_of_mem _ hu))
/-- A text's parts are numbers and identifiers. -/
theorem parse_parts {l : List UInt8} {c : Cuts} (h : parseR l = .ok c) : numB (semOf l c).maj = true ∧ numB (semOf l c).min = true ∧ numB (semOf l c).pat = true ∧ (∀ t ∈ (semOf l c).pre, preB t = true) ∧ (∀ t ∈ (semOf l c).bld, idB t = true) := by
  have hl := parse_lists h
  unfold parseR at h
  split at h
  · cases h
  · cases hn : numsR l with
    | error y => rw [hn] at h; cases h
    | ok y =>
      obtain ⟨a, b, c', d, e⟩ := y
      rw [hn] at h
      simp only at h
      cases ht : tailR l e with
      | error y => rw [ht] at h; cases h
      | ok y =>
        obtain ⟨pr, bl⟩ := y
        rw [ht] at h
        simp only at h
        cases h
        obtain ⟨m1, m2, m3, m4, m5⟩ := nums_join hn
        obtain ⟨t1, t2, t3⟩ := tail_join ht m2
        have bad : ∀ (p : Bool) (xs : List (Nat × Nat)), badOf p l xs = none → ∀ x ∈ xs, wrongL p l (seg l x.1 x.2) x.2 = 0 := by
          intro p xs
          induction xs with
          | nil => intro _ x hx; cases hx
          | cons y r ih =>
            intro hb x hx
            unfold badOf at hb
            split at hb
            · rename_i h0
              rcases List.mem_cons.1 hx with rfl | hx
              · exact h0
              · exact ih hb x hx
            · cases hb
        have wr : ∀ (p : Bool) (x : Nat × Nat), wrongL p l (seg l x.1 x.2) x.2 = 0 → seg l x.1 x.2 ≠ [] ∧ (p && zeroB (seg l x.1 x.2)) = false := by
          intro p x h0
          unfold wrongL at h0
          split at h0
          · exfalso; unfold misL at h0; split at h0 <;> cases h0
          · rename_i hne
            refine ⟨hne, ?_⟩
            split at h0
            · rename_i hz; cases p <;> simp_all
            · exfalso
              split at h0
              · cases h0
              · unfold misL at h0; split at h0 <;> cases h0
        have ids : ∀ xs : List (Nat × Nat), (xs = [] ∨ ∃ a, xs = segs l a) → ∀ x ∈ xs, seg l x.1 x.2 ≠ [] → idB (seg l x.1 x.2) = true := by
          intro xs hxs x hx hne
          rcases hxs with rfl | ⟨a, rfl⟩
          · cases hx
          · have hal : a ≤ l.length := by
              rcases Nat.lt_or_ge l.length a with h | h
              · exfalso
                have hd : l.drop a = [] := List.drop_eq_nil_of_le (by omega)
                have hi : a + idL (l.drop a) = a := by rw [hd]; rfl
                have hg : ¬ l[a]? = some 46 := by rw [List.getElem?_eq_none (by omega)]; simp
                rw [segs_last l a a hi hg] at hx
                obtain rfl : x = _ := List.mem_singleton.1 hx
                apply hne
                unfold seg
                exact List.drop_eq_nil_of_le (by simp; omega)
              · exact h
            unfold idB
            rw [segs_id l _ a rfl hal x hx]
            cases hs : seg l x.1 x.2 with
            | nil => exact absurd hs hne
            | cons _ _ => simp
        refine ⟨m3, m4, m5, ?_, ?_⟩
        · intro t htm
          obtain ⟨x, hx, rfl⟩ := List.mem_map.1 htm
          have hne : pr ≠ [] := fun e => by rw [e] at hx; cases hx
          have w0 := wr true x (bad true pr (t2 hne) x hx)
          unfold preB
          rw [ids pr hl.1 x hx w0.1]
          simpa using w0.2
        · intro t htm
          obtain ⟨x, hx, rfl⟩ := List.mem_map.1 htm
          have hne : bl ≠ [] := fun e => by rw [e] at hx; cases hx
          have w0 := wr false x (bad false bl (t3 hne) x hx)
          exact ids bl hl.2 x hx w0.1

theorem takeWhile_no (a b : List UInt8) (h : NoP a) : (a ++ 43 :: b).takeWhile (fun c => c != 43) = a := by
  induction a with
  | nil => rfl
  | cons c r ih =>
    have hc := h c List.mem_cons_self
    rw [List.cons_append, List.takeWhile_cons, if_pos (by simpa using hc), ih fun d hd => h d (List.mem_cons_of_mem _ hd)]
theorem takeWhile_none (a : List UInt8) (h : NoP a) : a.takeWhile (fun c => c != 43) = a := by
  induction a with
  | nil => rfl
  | cons c r ih =>
    have hc := h c List.mem_cons_self
    rw [List.takeWhile_cons, if_pos (by simpa using hc), ih fun d hd => h d (List.mem_cons_of_mem _ hd)]

theorem noP_preB {t : List UInt8} (h : idB t = true) : NoP t := by
  unfold idB at h
  simp only [Bool.and_eq_true, beq_iff_eq] at h
  exact noP_id t h.2
/-- A text without its build. -/
theorem canon_text {l : List UInt8} {c : Cuts} (h : parseR l = .ok c) : cutP l = textL ⟨(semOf l c).maj, (semOf l c).min, (semOf l c).pat, (semOf l c).pre, []⟩ := by
  have ht := parse_text h
  obtain ⟨h1, h2, h3, h4, h5⟩ := parse_parts h
  generalize semOf l c = x at *
  have e : textL x = textL ⟨x.maj, x.min, x.pat, x.pre, []⟩ ++ (if x.bld = [] then [] else 43 :: joinL x.bld) := by
    unfold textL; simp
  have hd : NoP [46] := by intro c hc; rw [List.mem_singleton.1 hc]; decide
  have np : NoP (textL ⟨x.maj, x.min, x.pat, x.pre, []⟩) := by
    unfold textL
    simp only [if_true, List.append_nil]
    refine ((((noP_num h1).app hd).app (noP_num h2)).app hd).app (noP_num h3) |>.app ?_
    split
    · intro c hc; cases hc
    · intro c hc
      rcases List.mem_cons.1 hc with rfl | hc
      · decide
      · refine noP_join x.pre (fun t ht => noP_preB ?_) c hc
        have := h4 t ht
        unfold preB at this
        simp only [Bool.and_eq_true] at this
        exact this.1
  rw [← ht, e]
  unfold cutP
  split
  · rw [List.append_nil]; exact takeWhile_none _ np
  · exact takeWhile_no _ _ np

end Go.Proofs.YtaflflelcdcanaaGreat
