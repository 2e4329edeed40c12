/-
  The document's answer: Parse and Canon.
-/
import Derived.Test.YtaflflelcdcanaaGreatZRh
namespace Go.Proofs.YtaflflelcdcanaaGreat
open Go.RowKit Go.Shelf
set_option linter.unusedVariables false

set_option maxRecDepth 100000 in
theorem rparse_long (s : ByteArray) (w : World) (hs : ¬ s.size ≤ 64) : Calls Tryz.prog 76 #[.string s] w (RPost s.data.toList w) := by
  have hl : (64 : Int) < (s.size : Int) := by omega
  have hp : parseR s.data.toList = .error (12, 64) := by unfold parseR; rw [len_data, if_pos (by omega)]
  have HP := hide hp
  clear hp
  go_enter Tryz.func76, Tryz.ntmps76
  go_wp2_with fail
  refine fin32 _ _ w.heap.size ⟨#[]⟩ ⟨#[]⟩ ⟨#[]⟩ (.slice none 0 0) (.slice none 0 0) 12 64 ⟨_, _, _, rfl⟩ ⟨_, _, _, rfl⟩ rfl rfl rfl (World.alloc_heap_new _ _) ?_
  exact rpost_err (x := (64, 12)) HP.out ((Below.refl _ w).alloc (Nat.le_refl _) _)

theorem rparse_any (s : ByteArray) (w : World) : Calls Tryz.prog 76 #[.string s] w (RPost s.data.toList w) := by
  by_cases hs : s.size ≤ 64
  · exact rparse_short s w hs
  · exact rparse_long s w hs

/-- The version that is read, or none. -/
def semP (l : List UInt8) : SemL := match parseR l with | .ok c => semOf l c | .error _ => semN
/-- The fault, or none. -/
def fauP (l : List UInt8) : Int × Nat := match parseR l with | .ok _ => (0, 0) | .error y => y
theorem semP_short (l : List UInt8) : ShortS (semP l) := by
  unfold semP
  cases h : parseR l with
  | ok c => exact parse_short h
  | error y => exact ⟨by simp [semN], by simp [semN], by simp [semN], ⟨by simp [semN], by simp [semN]⟩, ⟨by simp [semN], by simp [semN]⟩⟩
theorem semN_at (n : Nat) (W : World) : SemF n W semZ semN := ⟨_, _, rfl, txt_nil W, txt_nil W, (by rintro a i c h; cases h), (by rintro a i c h; cases h)⟩

theorem Parse_two (PA : ∀ (s : ByteArray) (w : World), s.size ≤ 64 → Calls Tryz.prog 39 #[.string s] w (PPost s w)) (s : ByteArray) (w : World) :
    Calls Tryz.prog 39 #[.string s] w fun e w' => Below w.heap.size w w' ∧ ∃ v, e = .returned (.tuple #[v, .agg #[.int .i64 (fauP s.data.toList).1, .int .i64 ((fauP s.data.toList).2 : Int)]]) ∧ SemF w.heap.size w' v (semP s.data.toList) := by
  refine (Parse_sem PA s w).mono ?_
  rintro e w' ⟨hb, h⟩
  refine ⟨hb, ?_⟩
  unfold PRes at h
  unfold fauP semP
  cases hp : parseR s.data.toList with
  | error x => rw [hp] at h; exact ⟨_, h, semN_at _ w'⟩
  | ok c =>
    rw [hp] at h
    obtain ⟨vp, vb, he, h1, h2, h3, h4⟩ := h
    exact ⟨_, he, vp, vb, rfl, h1, h2, h3, h4⟩
theorem rparse_two (s : ByteArray) (w : World) :
    Calls Tryz.prog 76 #[.string s] w fun e w' => Below w.heap.size w w' ∧ ∃ v, e = .returned (.tuple #[v, .int .i64 (fauP s.data.toList).1, .int .i64 ((fauP s.data.toList).2 : Int)]) ∧ SemF w.heap.size w' v (semP s.data.toList) := by
  refine (rparse_any s w).mono ?_
  rintro e w' ⟨hb, h⟩
  refine ⟨hb, ?_⟩
  unfold fauP semP
  cases hp : parseR s.data.toList with
  | error x => rw [hp] at h; exact ⟨_, h, semN_at _ w'⟩
  | ok c =>
    rw [hp] at h
    obtain ⟨v, he, h1⟩ := h
    exact ⟨v, he, h1⟩

theorem fin10 {R : Ending → World → Prop} (tmps : Array Value) (W : World) (B : Nat) (a b c : ByteArray) (vp vb : Value) (x y : Int) (op : ∃ a i c, vp = .slice a i c) (ob : ∃ a i c, vb = .slice a i c)
    (h2 : tmps.getD 2 undef = .pointer (some ⟨B, 0, none⟩)) (h3 : tmps.getD 3 undef = .pointer (some ⟨B + 1, 0, none⟩)) (e1 : W.heap[B]? = some (.cells #[.string a, .string b, .string c, vp, vb] 33 (0, 0))) (e2 : W.heap[B + 1]? = some (.cells #[.int .i64 x, .int .i64 y] 25 (0, 0)))
    (hR : R (.returned (.tuple #[.agg #[.string a, .string b, .string c, vp, vb], .agg #[.int .i64 x, .int .i64 y]])) W) :
    bodyPost Tryz.prog Tryz.f44 R .ret { tmps := tmps, defers := [] } W := by
  obtain ⟨a1, i1, c1, rfl⟩ := op
  obtain ⟨a2, i2, c2, rfl⟩ := ob
  obtain ⟨r0, r1, r2, r3, r4⟩ := seen5 e1
  have r5 := cell_at 0 e2 rfl
  have r6 := cell_at 1 e2 rfl
  rw [Array.getD_eq_getD_getElem?] at h2 h3
  refine ⟨rfl, _, ?_, hR⟩
  simp [results, Tryz.results44, go_sem, h2, h3, r0, r1, r2, r3, r4, r5, r6]
  try rfl

set_option maxRecDepth 100000 in
set_option maxHeartbeats 1000000 in
theorem rParse_any (s : ByteArray) (w : World) :
    Calls Tryz.prog 44 #[.string s] w fun e w' => Below w.heap.size w w' ∧ ∃ v, e = .returned (.tuple #[v, .agg #[.int .i64 (fauP s.data.toList).1, .int .i64 ((fauP s.data.toList).2 : Int)]]) ∧ SemF w.heap.size w' v (semP s.data.toList) := by
  have R1 := hide (fun W => rparse_two s W)
  generalize semP s.data.toList = x at *
  generalize fauP s.data.toList = f at *
  obtain ⟨f1, f2⟩ := f
  simp only at R1 ⊢
  have b0 := ((Below.refl w.heap.size w).alloc (Nat.le_refl _) (.cells #[.string ⟨#[]⟩, .string ⟨#[]⟩, .string ⟨#[]⟩, .slice none 0 0, .slice none 0 0] 33)).alloc (by simp) (.cells #[.int .i64 0, .int .i64 0] 25)
  have k1 := World.alloc_heap_new w (.cells #[.string ⟨#[]⟩, .string ⟨#[]⟩, .string ⟨#[]⟩, .slice none 0 0, .slice none 0 0] 33)
  have k2 := World.alloc_heap_new (w.alloc (.cells #[.string ⟨#[]⟩, .string ⟨#[]⟩, .string ⟨#[]⟩, .slice none 0 0, .slice none 0 0] 33)) (.cells #[.int .i64 0, .int .i64 0] 25)
  simp only [World.size_alloc] at k2
  have k1' := hide ((Below.heap_alloc (w.alloc (.cells #[.string ⟨#[]⟩, .string ⟨#[]⟩, .string ⟨#[]⟩, .slice none 0 0, .slice none 0 0] 33)) (.cells #[.int .i64 0, .int .i64 0] 25) w.heap.size (by simp)).trans k1)
  have k2' := hide k2
  clear k1 k2
  go_enter Tryz.func44, Tryz.ntmps44
  go_wp2_with fail
  refine (R1.out _).mono ?_
  rintro e w1 ⟨b1, v, rfl, hv⟩
  simp only [World.size_alloc] at b1
  have B1 := b0.trans (b1.mono (by omega))
  have g1 := (b1.block w.heap.size (by omega)).trans k1'.out
  have g2 := (b1.block (w.heap.size + 1) (by omega)).trans k2'.out
  obtain ⟨q0, q1, q2, q3, q4⟩ := seen5 g1
  have z0 := one_free 0 g1
  have z1 := one_free 1 g1
  have z2 := one_free 2 g1
  have z3 := one_free 3 g1
  have z4 := one_free 4 g1
  have y0 := one_free 0 g2
  have y1 := one_free 1 g2
  have y2 := cell_at 0 g2 rfl
  have y3 := cell_at 1 g2 rfl
  have hlt1 := (Array.getElem?_eq_some_iff.1 g1).1
  have hlt2 := (Array.getElem?_eq_some_iff.1 g2).1
  have G1 := hide g1
  have G2 := hide g2
  clear g1 g2
  have HV := hide hv
  obtain ⟨vp, vb, rfl, ⟨a3, c3, rfl, _⟩, ⟨a4, c4, rfl, _⟩, _, _⟩ := hv
  go_wp2_with fail
  obtain ⟨W5, hW5, g5, hb5⟩ := five_world (W := w1) (.string (ofL x.maj)) (.string (ofL x.min)) (.string (ofL x.pat)) (.slice a3 x.pre.length c3) (.slice a4 x.bld.length c4) G1.out
  have t5 := five_turn hW5
  rw [← hW5]
  have g6 := (t5.block (w.heap.size + 1) hlt2 (by omega)).trans G2.out
  obtain ⟨W6, hW6, h61, h62, h63, h64⟩ := one_set 0 (.int .i64 f1) g6
  rw [← hW6]
  obtain ⟨W7, hW7, h71, h72, h73, h74⟩ := one_set 1 (.int .i64 (f2 : Int)) h61
  rw [← hW7]
  have k5 := (h72 w.heap.size (by omega)).trans ((h62 w.heap.size (by omega)).trans g5)
  have s5 := t5.size
  have B7 := ((B1.trans (hb5 _ (Nat.le_refl _))).trans (h63 _ (by omega))).trans (h73 _ (by omega))
  have S7 := HV.out.young (W' := W7) (fun j h1 h2 => by
    simp only [World.size_alloc] at h1
    rw [h72 j (by omega), h62 j (by omega), t5.block j h2 (by omega)]) (by rw [h74, h64]; exact s5)
  refine fin10 _ _ w.heap.size _ _ _ _ _ f1 f2 ⟨_, _, _, rfl⟩ ⟨_, _, _, rfl⟩ rfl rfl ((Below.heap_alloc _ _ _ (by rw [h74, h64]; omega)).trans k5) ((Below.heap_alloc _ _ _ (by rw [h74, h64]; omega)).trans h71) ?_
  refine ⟨B7.alloc B7.size _, _, rfl, ?_⟩
  refine (S7.young (fun j _ h2 => Below.heap_alloc _ _ _ h2) (by simp)).mono (by simp only [World.size_alloc]; omega)

theorem canon_ok (l : List UInt8) (h : (fauP l).1 = 0) : canonL l = textL ⟨(semP l).maj, (semP l).min, (semP l).pat, (semP l).pre, []⟩ := by
  unfold fauP at h
  unfold canonL semP
  cases hp : parseR l with
  | error y => rw [hp] at h; exact absurd h (parse_err hp)
  | ok c => exact canon_text hp
theorem canon_none (l : List UInt8) (h : (fauP l).1 ≠ 0) : canonL l = [] := by
  unfold fauP at h
  unfold canonL
  cases hp : parseR l with
  | error y => rfl
  | ok c => rw [hp] at h; exact absurd rfl h
theorem textL_len (x : SemL) : (textL x).length ≤ lenS x := by
  have h1 := joinL_len x.pre
  have h2 := joinL_len x.bld
  unfold textL lenS
  simp only [List.length_append, List.length_cons, List.length_nil]
  have h3 : (if x.pre = [] then ([] : List UInt8) else 45 :: joinL x.pre).length ≤ lenI x.pre := by
    split
    · simp
    · cases hx : x.pre with
      | nil => rename_i h; exact absurd hx h
      | cons t r =>
        have hd : ∀ us : List (List UInt8), (dotted us).length = lenI us := by
          intro us
          induction us with
          | nil => rfl
          | cons u v ih => simp only [dotted, List.flatMap_cons, List.length_append, List.length_cons, lenI] at ih ⊢; omega
        simp only [joinL, List.length_cons, List.length_append, lenI, hd]
        omega
  have h4 : (if x.bld = [] then ([] : List UInt8) else 43 :: joinL x.bld).length ≤ lenI x.bld := by
    split
    · simp
    · cases hx : x.bld with
      | nil => rename_i h; exact absurd hx h
      | cons t r =>
        have hd : ∀ us : List (List UInt8), (dotted us).length = lenI us := by
          intro us
          induction us with
          | nil => rfl
          | cons u v ih => simp only [dotted, List.flatMap_cons, List.length_append, List.length_cons, lenI] at ih ⊢; omega
        simp only [joinL, List.length_cons, List.length_append, lenI, hd]
        omega
  omega
theorem lenI_bound (n m : Nat) : ∀ ts : List (List UInt8), ts.length ≤ n → (∀ t ∈ ts, t.length ≤ m) → lenI ts ≤ n * (m + 1) := by
  intro ts
  induction ts generalizing n with
  | nil => intro _ _; simp [lenI]
  | cons t r ih =>
    intro h1 h2
    cases n with
    | zero => simp at h1
    | succ n =>
      have := ih n (by simpa using h1) (fun u hu => h2 u (List.mem_cons_of_mem _ hu))
      have ht := h2 t List.mem_cons_self
      simp only [lenI]
      rw [Nat.succ_mul]
      omega
theorem semP_len (l : List UInt8) : lenS ⟨(semP l).maj, (semP l).min, (semP l).pat, (semP l).pre, []⟩ ≤ 1048576 ∧ lenS (semP l) ≤ 1048576 := by
  unfold semP
  cases h : parseR l with
  | error y => simp [semN, lenS, lenI]
  | ok c =>
    have hl := parse_len h
    have hx := parse_lists h
    have b1 := lenI_bound 65 64 (semOf l c).pre (by simpa [semOf] using segs_short l hl c.pre hx.1) (by intro t ht; obtain ⟨x, _, rfl⟩ := List.mem_map.1 ht; exact seg_short l hl _ _)
    have b2 := lenI_bound 65 64 (semOf l c).bld (by simpa [semOf] using segs_short l hl c.bld hx.2) (by intro t ht; obtain ⟨x, _, rfl⟩ := List.mem_map.1 ht; exact seg_short l hl _ _)
    have s1 : (semOf l c).maj.length ≤ 64 := seg_short l hl _ _
    have s2 : (semOf l c).min.length ≤ 64 := seg_short l hl _ _
    have s3 : (semOf l c).pat.length ≤ 64 := seg_short l hl _ _
    simp only [lenS, lenI]
    omega

end Go.Proofs.YtaflflelcdcanaaGreat
