/-
  Walks: the version with one part raised.
-/
import Derived.Test.YtaflflelcdcanaaGreatZFc
import Derived.Test.YtaflflelcdcanaaGreatZSd
import Derived.Deep.RegionWith
namespace Go.Proofs.YtaflflelcdcanaaGreat
open Go.RowKit Go.Shelf
set_option linter.unusedVariables false

/-- The version that is none. -/
def semN : SemL := ⟨[], [], [], [], []⟩
/-- One part raised. -/
def rais (x : SemL) (p : Int) : SemL :=
  if p = 0 then ⟨nextL x.maj, [48], [48], [], []⟩ else if p = 1 then ⟨x.maj, nextL x.min, [48], [], []⟩ else ⟨x.maj, x.min, nextL x.pat, [], []⟩
/-- The next version, as the program counts. -/
def nextW (x : SemL) (p : Int) : SemL :=
  if fitW x then (if p = 0 ∨ p = 1 ∨ p = 2 then (if fitW (rais x p) then rais x p else semN) else semN) else semN

theorem txt_nil (W : World) : Txt W (.slice none 0 0) [] := ⟨none, 0, rfl, .inl rfl⟩
theorem next_ofL (a : List UInt8) (w : World) (ha : a.length ≤ 9223372036854775805) :
    Calls Tryz.prog 159 #[.string (ofL a)] w fun e w' => e = .returned (.string (ofL (nextL a))) ∧ Below w.heap.size w w' := by
  have := Next_any (ofL a) w (by rw [ofL_size]; exact ha)
  rw [ofL_data] at this
  exact this

theorem five_world {W : World} {B : Nat} {x0 x1 x2 x3 x4 : Value} (a b c d e : Value) (h : W.heap[B]? = some (.cells #[x0, x1, x2, x3, x4] 33 (0, 0))) :
    ∃ W', W' = ((((W.setCell ⟨B, 0, none⟩ a).setCell ⟨B, 1, none⟩ b).setCell ⟨B, 2, none⟩ c).setCell ⟨B, 3, none⟩ d).setCell ⟨B, 4, none⟩ e ∧ W'.heap[B]? = some (.cells #[a, b, c, d, e] 33 (0, 0)) ∧ (∀ n₀, n₀ ≤ B → Below n₀ W W') :=
  ⟨_, rfl, five_set a b c d e h, fun n₀ h1 => (((((Below.refl n₀ W).setCell (p := ⟨B, 0, none⟩) h1 a).setCell (p := ⟨B, 1, none⟩) h1 b).setCell (p := ⟨B, 2, none⟩) h1 c).setCell (p := ⟨B, 3, none⟩) h1 d).setCell (p := ⟨B, 4, none⟩) h1 e⟩
theorem one_set {W : World} {B : Nat} {cs : Array Value} {t : TypeId} (o : Nat) (v : Value) (h : W.heap[B]? = some (.cells cs t (0, 0))) :
    ∃ W', W' = W.setCell ⟨B, o, none⟩ v ∧ W'.heap[B]? = some (.cells (cs.setIfInBounds o v) t (0, 0)) ∧ (∀ j, j ≠ B → W'.heap[j]? = W.heap[j]?) ∧ (∀ n₀, n₀ ≤ B → Below n₀ W W') ∧ W'.heap.size = W.heap.size :=
  ⟨_, rfl, set_lies o v h, fun j hj => Below.heap_setCell _ _ _ j hj, fun n₀ h1 => (Below.refl n₀ W).setCell (p := ⟨B, o, none⟩) h1 v, Array.size_modify⟩
theorem rais_short (x : SemL) (p : Int) (s1 : x.maj.length ≤ 140737488355328) (s2 : x.min.length ≤ 140737488355328) (s3 : x.pat.length ≤ 140737488355328) : ShortS (rais x p) := by
  have n1 := nextL_len x.maj
  have n2 := nextL_len x.min
  have n3 := nextL_len x.pat
  unfold rais
  split
  · exact ⟨by simp only; omega, by simp, by simp, ⟨by simp, by simp⟩, ⟨by simp, by simp⟩⟩
  · split
    · exact ⟨by simp only; omega, by simp only; omega, by simp, ⟨by simp, by simp⟩, ⟨by simp, by simp⟩⟩
    · exact ⟨by simp only; omega, by simp only; omega, by simp only; omega, ⟨by simp, by simp⟩, ⟨by simp, by simp⟩⟩

theorem fin19 {R : Ending → World → Prop} (tmps : Array Value) (W : World) (B : Nat) (x : SemL)
    (h2 : tmps.getD 4 undef = .pointer (some ⟨B, 0, none⟩)) (hp : x.pre = []) (hb : x.bld = []) (e1 : W.heap[B]? = some (.cells #[.string (ofL x.maj), .string (ofL x.min), .string (ofL x.pat), .slice none 0 0, .slice none 0 0] 33 (0, 0)))
    (hR : ∀ v, SemAt W v x → R (.returned v) W) :
    bodyPost Tryz.prog Tryz.f149 R .ret { tmps := tmps, defers := [] } W := by
  obtain ⟨r0, r1, r2, r3, r4⟩ := seen5 e1
  rw [Array.getD_eq_getD_getElem?] at h2
  refine ⟨rfl, _, ?_, hR _ ⟨.slice none 0 0, .slice none 0 0, rfl, by rw [hp]; exact txt_nil W, by rw [hb]; exact txt_nil W⟩⟩
  simp [results, Tryz.results149, go_sem, h2, r0, r1, r2, r3, r4]
  try rfl

set_option maxRecDepth 100000 in
set_option maxHeartbeats 1000000 in
theorem NextV_any (v : Value) (x : SemL) (p : Int) (w : World) (hv : SemAt w v x) (sx : ShortS x) (s1 : x.maj.length ≤ 140737488355328) (s2 : x.min.length ≤ 140737488355328) (s3 : x.pat.length ≤ 140737488355328) :
    Calls Tryz.prog 149 #[v, .int .i64 p] w fun e w' => Below w.heap.size w w' ∧ ∃ u, e = .returned u ∧ SemAt w' u (nextW x p) := by
  have F1 := hide (fun W (hW : Below w.heap.size w W) => Fit_any v x W (hv.below hW) sx)
  obtain ⟨p1, q1, rfl, t1, u1⟩ := hv
  obtain ⟨a1, c1, rfl, y1⟩ := t1
  obtain ⟨a2, c2, rfl, y2⟩ := u1
  clear y1 y2 sx
  have HX : Hid (nextW x p = if fitW x then (if p = 0 ∨ p = 1 ∨ p = 2 then (if fitW (rais x p) then rais x p else semN) else semN) else semN) := rfl
  generalize nextW x p = X at *
  have b0 : Below w.heap.size w ((w.alloc (.cells #[.string (ofL x.maj), .string (ofL x.min), .string (ofL x.pat), .slice a1 x.pre.length c1, .slice a2 x.bld.length c2] 33)).alloc (.cells #[.string ⟨#[]⟩, .string ⟨#[]⟩, .string ⟨#[]⟩, .slice none 0 0, .slice none 0 0] 33)) := ((Below.refl _ w).alloc (Nat.le_refl _) _).alloc (by simp) _
  have k1 := World.alloc_heap_new w (.cells #[.string (ofL x.maj), .string (ofL x.min), .string (ofL x.pat), .slice a1 x.pre.length c1, .slice a2 x.bld.length c2] 33)
  have k2 := World.alloc_heap_new (w.alloc (.cells #[.string (ofL x.maj), .string (ofL x.min), .string (ofL x.pat), .slice a1 x.pre.length c1, .slice a2 x.bld.length c2] 33)) (.cells #[.string ⟨#[]⟩, .string ⟨#[]⟩, .string ⟨#[]⟩, .slice none 0 0, .slice none 0 0] 33)
  simp only [World.size_alloc] at k2
  have k1' := (Below.heap_alloc (w.alloc (.cells #[.string (ofL x.maj), .string (ofL x.min), .string (ofL x.pat), .slice a1 x.pre.length c1, .slice a2 x.bld.length c2] 33)) (.cells #[.string ⟨#[]⟩, .string ⟨#[]⟩, .string ⟨#[]⟩, .slice none 0 0, .slice none 0 0] 33) w.heap.size (by simp)).trans k1
  clear k1
  have L0 := hide (Lies.cons k1' (Lies.cons k2 (Lies.nil _)))
  clear k1' k2
  cases hf : fitW x
  · rw [hf] at F1
    have HR : Hid (X = semN) := by show _ = _; rw [HX.out, hf, if_neg (by simp)]
    clear hf
    go_enter Tryz.func149, Tryz.ntmps149
    go_wp2_with fail
    refine (F1.out _ b0).mono ?_
    rintro e w1 ⟨rfl, b1⟩
    simp only [World.size_alloc] at b1
    have L1 := L0.out.below b1 (by intro q hq; simp only [List.mem_cons, List.not_mem_nil, or_false] at hq; rcases hq with rfl | rfl <;> simp only <;> omega)
    obtain ⟨r0, r1, r2, r3, r4⟩ := seen5 L1.tail.head
    have z0 := one_free 0 L1.tail.head
    have z1 := one_free 1 L1.tail.head
    have z2 := one_free 2 L1.tail.head
    have z3 := one_free 3 L1.tail.head
    have z4 := one_free 4 L1.tail.head
    have HE := hide L1.tail.head
    clear L1
    have B1 := b0.trans (b1.mono (by omega))
    go_wp2_with fail
    obtain ⟨W9, hW9, g9, hb9⟩ := five_world (W := w1) (.string ⟨#[]⟩) (.string ⟨#[]⟩) (.string ⟨#[]⟩) (.slice none 0 0) (.slice none 0 0) HE.out
    rw [← hW9]
    refine fin19 _ W9 (w.heap.size + 1) semN rfl rfl rfl g9 ?_
    exact fun v hv => ⟨B1.trans (hb9 _ (by omega)), v, rfl, by rw [HR.out]; exact hv⟩
  · rw [hf] at F1
    have hX : X = if p = 0 ∨ p = 1 ∨ p = 2 then (if fitW (rais x p) then rais x p else semN) else semN := by rw [HX.out, hf, if_pos rfl]
    have FR := hide (fun W v (h : SemAt W v (rais x p)) => Fit_any v (rais x p) W h (rais_short x p s1 s2 s3))
    clear hf HX
    go_enter Tryz.func149, Tryz.ntmps149
    go_wp2_with fail
    refine (F1.out _ b0).mono ?_
    rintro e w1 ⟨rfl, b1⟩
    simp only [World.size_alloc] at b1
    have B1 := b0.trans (b1.mono (by omega))
    have L1 := L0.out.below b1 (by intro q hq; simp only [List.mem_cons, List.not_mem_nil, or_false] at hq; rcases hq with rfl | rfl <;> simp only <;> omega)
    obtain ⟨m0, m1, m2, m3, m4⟩ := seen5 L1.head
    have hl0 := (Array.getElem?_eq_some_iff.1 L1.tail.head).1
    have hl1 : w.heap.size < w1.heap.size := by omega
    by_cases h0 : p = 0
    · subst h0
      have hra : rais x 0 = ⟨nextL x.maj, [48], [48], [], []⟩ := by unfold rais; simp
      rw [if_pos (by simp)] at hX
      have FR2 := hide (fun W => FR.out W (.agg #[.string (ofL (nextL x.maj)), .string ⟨#[48]⟩, .string ⟨#[48]⟩, .slice none 0 0, .slice none 0 0]) (by rw [hra]; exact ⟨_, _, rfl, txt_nil W, txt_nil W⟩))
      have HRA := hide hra
      clear FR hra
      go_wp2_with fail
      refine (next_ofL x.maj _ (by omega)).mono ?_
      rintro e w2 ⟨rfl, b2⟩
      simp only [World.size_alloc] at b2
      have hN := (b2.block w1.heap.size (by omega)).trans (World.alloc_heap_new w1 (.cells #[.string (ofL x.maj), .string ⟨#[48]⟩, .string ⟨#[48]⟩, .slice none 0 0, .slice none 0 0] 33))
      have hR1 := (b2.block (w.heap.size + 1) (by omega)).trans ((Below.heap_alloc _ _ _ (by omega)).trans L1.tail.head)
      obtain ⟨n0, n1, n2, n3, n4⟩ := seen5 hN
      have y0 := one_free 0 hN
      have y1 := one_free 1 hN
      have y2 := one_free 2 hN
      have y3 := one_free 3 hN
      have y4 := one_free 4 hN
      have B2 : Below w.heap.size w w2 := (B1.alloc (by omega) _).trans (b2.mono (by omega))
      have hl2 := (Array.getElem?_eq_some_iff.1 hN).1
      clear m0 m1 m2 m3 m4
      go_wp2_with fail
      obtain ⟨W5, hW5, hN5, hO5, hB5, hS5⟩ := one_set 0 (.string (ofL (nextL x.maj))) hN
      rw [← hW5]
      refine (FR2.out _).mono ?_
      rintro e w3 ⟨rfl, b3⟩
      have B3 := (B2.trans (hB5 _ (by omega))).trans (b3.mono (by rw [hS5]; omega))
      have hN3 := (b3.block w1.heap.size (by rw [hS5]; omega)).trans hN5
      have hR3 := (b3.block (w.heap.size + 1) (by rw [hS5]; omega)).trans ((hO5 _ (by omega)).trans hR1)
      have HE := hide hR3
      clear n0 n1 n2 n3 n4 y0 y1 y2 y3 y4
      obtain ⟨r0, r1, r2, r3, r4⟩ := seen5 hR3
      obtain ⟨n0, n1, n2, n3, n4⟩ := seen5 hN3
      have z0 := one_free 0 hR3
      have z1 := one_free 1 hR3
      have z2 := one_free 2 hR3
      have z3 := one_free 3 hR3
      have z4 := one_free 4 hR3
      generalize hF : fitW (rais x 0) = F at *
      cases F
      · have HR : Hid (X = semN) := hX.trans (if_neg (by simp))
        go_wp2_with fail
        obtain ⟨W9, hW9, g9, hb9⟩ := five_world (W := w3) (.string ⟨#[]⟩) (.string ⟨#[]⟩) (.string ⟨#[]⟩) (.slice none 0 0) (.slice none 0 0) HE.out
        rw [← hW9]
        refine fin19 _ W9 (w.heap.size + 1) semN rfl rfl rfl g9 ?_
        exact fun v hv => ⟨B3.trans (hb9 _ (by omega)), v, rfl, by rw [HR.out]; exact hv⟩
      · have HR : Hid (X = ⟨nextL x.maj, [48], [48], [], []⟩) := by show _ = _; rw [hX, if_pos rfl, HRA.out]
        go_wp2_with fail
        obtain ⟨W9, hW9, g9, hb9⟩ := five_world (W := w3) (.string (ofL (nextL x.maj))) (.string ⟨#[48]⟩) (.string ⟨#[48]⟩) (.slice none 0 0) (.slice none 0 0) HE.out
        rw [← hW9]
        refine fin19 _ W9 (w.heap.size + 1) ⟨nextL x.maj, [48], [48], [], []⟩ rfl rfl rfl g9 ?_
        exact fun v hv => ⟨B3.trans (hb9 _ (by omega)), v, rfl, by rw [HR.out]; exact hv⟩
    · by_cases h1 : p = 1
      · subst h1
        have hra : rais x 1 = ⟨x.maj, nextL x.min, [48], [], []⟩ := by unfold rais; simp
        rw [if_pos (by simp)] at hX
        have FR2 := hide (fun W => FR.out W (.agg #[.string (ofL x.maj), .string (ofL (nextL x.min)), .string ⟨#[48]⟩, .slice none 0 0, .slice none 0 0]) (by rw [hra]; exact ⟨_, _, rfl, txt_nil W, txt_nil W⟩))
        have HRA := hide hra
        clear FR hra
        go_wp2_with fail
        refine (next_ofL x.min _ (by omega)).mono ?_
        rintro e w2 ⟨rfl, b2⟩
        simp only [World.size_alloc] at b2
        have hN := (b2.block w1.heap.size (by omega)).trans (World.alloc_heap_new w1 (.cells #[.string (ofL x.maj), .string ⟨#[48]⟩, .string ⟨#[48]⟩, .slice none 0 0, .slice none 0 0] 33))
        have hR1 := (b2.block (w.heap.size + 1) (by omega)).trans ((Below.heap_alloc _ _ _ (by omega)).trans L1.tail.head)
        obtain ⟨n0, n1, n2, n3, n4⟩ := seen5 hN
        have y0 := one_free 0 hN
        have y1 := one_free 1 hN
        have y2 := one_free 2 hN
        have y3 := one_free 3 hN
        have y4 := one_free 4 hN
        have B2 : Below w.heap.size w w2 := (B1.alloc (by omega) _).trans (b2.mono (by omega))
        have hl2 := (Array.getElem?_eq_some_iff.1 hN).1
        clear m0 m1 m2 m3 m4
        go_wp2_with fail
        obtain ⟨W5, hW5, hN5, hO5, hB5, hS5⟩ := one_set 1 (.string (ofL (nextL x.min))) hN
        rw [← hW5]
        refine (FR2.out _).mono ?_
        rintro e w3 ⟨rfl, b3⟩
        have B3 := (B2.trans (hB5 _ (by omega))).trans (b3.mono (by rw [hS5]; omega))
        have hN3 := (b3.block w1.heap.size (by rw [hS5]; omega)).trans hN5
        have hR3 := (b3.block (w.heap.size + 1) (by rw [hS5]; omega)).trans ((hO5 _ (by omega)).trans hR1)
        have HE := hide hR3
        clear n0 n1 n2 n3 n4 y0 y1 y2 y3 y4
        obtain ⟨r0, r1, r2, r3, r4⟩ := seen5 hR3
        obtain ⟨n0, n1, n2, n3, n4⟩ := seen5 hN3
        have z0 := one_free 0 hR3
        have z1 := one_free 1 hR3
        have z2 := one_free 2 hR3
        have z3 := one_free 3 hR3
        have z4 := one_free 4 hR3
        generalize hF : fitW (rais x 1) = F at *
        cases F
        · have HR : Hid (X = semN) := hX.trans (if_neg (by simp))
          go_wp2_with fail
          obtain ⟨W9, hW9, g9, hb9⟩ := five_world (W := w3) (.string ⟨#[]⟩) (.string ⟨#[]⟩) (.string ⟨#[]⟩) (.slice none 0 0) (.slice none 0 0) HE.out
          rw [← hW9]
          refine fin19 _ W9 (w.heap.size + 1) semN rfl rfl rfl g9 ?_
          exact fun v hv => ⟨B3.trans (hb9 _ (by omega)), v, rfl, by rw [HR.out]; exact hv⟩
        · have HR : Hid (X = ⟨x.maj, nextL x.min, [48], [], []⟩) := by show _ = _; rw [hX, if_pos rfl, HRA.out]
          go_wp2_with fail
          obtain ⟨W9, hW9, g9, hb9⟩ := five_world (W := w3) (.string (ofL x.maj)) (.string (ofL (nextL x.min))) (.string ⟨#[48]⟩) (.slice none 0 0) (.slice none 0 0) HE.out
          rw [← hW9]
          refine fin19 _ W9 (w.heap.size + 1) ⟨x.maj, nextL x.min, [48], [], []⟩ rfl rfl rfl g9 ?_
          exact fun v hv => ⟨B3.trans (hb9 _ (by omega)), v, rfl, by rw [HR.out]; exact hv⟩
      · by_cases h2 : p = 2
        · subst h2
          have hra : rais x 2 = ⟨x.maj, x.min, nextL x.pat, [], []⟩ := by unfold rais; simp
          rw [if_pos (by simp)] at hX
          have FR2 := hide (fun W => FR.out W (.agg #[.string (ofL x.maj), .string (ofL x.min), .string (ofL (nextL x.pat)), .slice none 0 0, .slice none 0 0]) (by rw [hra]; exact ⟨_, _, rfl, txt_nil W, txt_nil W⟩))
          have HRA := hide hra
          clear FR hra
          go_wp2_with fail
          go_region_with (go_at_call 159; refine (next_ofL x.pat _ (by omega)).mono ?_; rintro e w2 ⟨rfl, b2⟩; have b2' : Below (w1.heap.size + 1) (w1.alloc (.cells #[.string (ofL x.maj), .string ⟨#[48]⟩, .string ⟨#[48]⟩, .slice none 0 0, .slice none 0 0] 33)) w2 := ((Below.refl (w1.heap.size + 1) (w1.alloc (.cells #[.string (ofL x.maj), .string ⟨#[48]⟩, .string ⟨#[48]⟩, .slice none 0 0, .slice none 0 0] 33))).drew).trans (b2.mono (Nat.le_of_eq (World.size_alloc w1 _).symm)); have hN := (b2'.block w1.heap.size (by omega)).trans (World.alloc_heap_new w1 (.cells #[.string (ofL x.maj), .string ⟨#[48]⟩, .string ⟨#[48]⟩, .slice none 0 0, .slice none 0 0] 33)); obtain ⟨n0, n1, n2, n3, n4⟩ := seen5 hN; have y1 := one_free 1 hN; have y2 := one_free 2 hN; obtain ⟨m0, m1, m2, m3, m4⟩ := seen5 ((b2'.block w.heap.size (by omega)).trans ((Below.heap_alloc _ _ _ (by omega)).trans L1.head)))
          all_goals
            have hR1 := (b2'.block (w.heap.size + 1) (by omega)).trans ((Below.heap_alloc _ _ _ (by omega)).trans L1.tail.head)
            have B2 : Below w.heap.size w w2 := (B1.alloc (by omega) _).trans (b2'.mono (by omega))
            have hl2 := (Array.getElem?_eq_some_iff.1 hN).1
            go_wp2_with fail
            obtain ⟨W4, hW4, hN4, hO4, hB4, hS4⟩ := one_set 1 (.string (ofL x.min)) hN
            rw [← hW4]
            obtain ⟨W5, hW5, hN5, hO5, hB5, hS5⟩ := one_set 2 (.string (ofL (nextL x.pat))) hN4
            rw [← hW5]
            refine (FR2.out _).mono ?_
            rintro e w3 ⟨rfl, b3⟩
            have B3 := ((B2.trans (hB4 _ (by omega))).trans (hB5 _ (by omega))).trans (b3.mono (by rw [hS5, hS4]; omega))
            have hN3 := (b3.block w1.heap.size (by rw [hS5, hS4]; omega)).trans hN5
            have hR3 := (b3.block (w.heap.size + 1) (by rw [hS5, hS4]; omega)).trans ((hO5 _ (by omega)).trans ((hO4 _ (by omega)).trans hR1))
            have HE := hide hR3
            clear n0 n1 n2 n3 n4 y1 y2 m0 m1 m2 m3 m4
            obtain ⟨r0, r1, r2, r3, r4⟩ := seen5 hR3
            obtain ⟨n0, n1, n2, n3, n4⟩ := seen5 hN3
            have z0 := one_free 0 hR3
            have z1 := one_free 1 hR3
            have z2 := one_free 2 hR3
            have z3 := one_free 3 hR3
            have z4 := one_free 4 hR3
            generalize hF : fitW (rais x 2) = F at *
            cases F
            · have HR : Hid (X = semN) := hX.trans (if_neg (by simp))
              go_wp2_with fail
              obtain ⟨W9, hW9, g9, hb9⟩ := five_world (W := w3) (.string ⟨#[]⟩) (.string ⟨#[]⟩) (.string ⟨#[]⟩) (.slice none 0 0) (.slice none 0 0) HE.out
              rw [← hW9]
              refine fin19 _ W9 (w.heap.size + 1) semN rfl rfl rfl g9 ?_
              exact fun v hv => ⟨B3.trans (hb9 _ (by omega)), v, rfl, by rw [HR.out]; exact hv⟩
            · have HR : Hid (X = ⟨x.maj, x.min, nextL x.pat, [], []⟩) := by show _ = _; rw [hX, if_pos rfl, HRA.out]
              go_wp2_with fail
              obtain ⟨W9, hW9, g9, hb9⟩ := five_world (W := w3) (.string (ofL x.maj)) (.string (ofL x.min)) (.string (ofL (nextL x.pat))) (.slice none 0 0) (.slice none 0 0) HE.out
              rw [← hW9]
              refine fin19 _ W9 (w.heap.size + 1) ⟨x.maj, x.min, nextL x.pat, [], []⟩ rfl rfl rfl g9 ?_
              exact fun v hv => ⟨B3.trans (hb9 _ (by omega)), v, rfl, by rw [HR.out]; exact hv⟩
        · have HR : Hid (X = semN) := by show _ = _; rw [hX, if_neg (by omega)]
          have c0 : (p == 0) = false := by simpa using h0
          have c1 : (p == 1) = false := by simpa using h1
          have c2 : (p == 2) = false := by simpa using h2
          obtain ⟨r0, r1, r2, r3, r4⟩ := seen5 L1.tail.head
          have z0 := one_free 0 L1.tail.head
          have z1 := one_free 1 L1.tail.head
          have z2 := one_free 2 L1.tail.head
          have z3 := one_free 3 L1.tail.head
          have z4 := one_free 4 L1.tail.head
          have HE := hide L1.tail.head
          clear h0 h1 h2
          go_wp2_with fail
          obtain ⟨W9, hW9, g9, hb9⟩ := five_world (W := w1) (.string ⟨#[]⟩) (.string ⟨#[]⟩) (.string ⟨#[]⟩) (.slice none 0 0) (.slice none 0 0) HE.out
          rw [← hW9]
          have B9 := B1.trans (hb9 _ (by omega))
          refine fin19 _ _ (w.heap.size + 1) semN rfl rfl rfl ((Below.heap_alloc _ _ _ (Array.getElem?_eq_some_iff.1 g9).1).trans g9) ?_
          exact fun v hv => ⟨B9.alloc B9.size _, v, rfl, by rw [HR.out]; exact hv⟩

end Go.Proofs.YtaflflelcdcanaaGreat
