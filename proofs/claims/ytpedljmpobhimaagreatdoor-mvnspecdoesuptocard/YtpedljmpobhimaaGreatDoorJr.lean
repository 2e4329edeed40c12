/-
  Walks: a copy of a requirement; the law on what is done with one.
-/
import Derived.Test.YtpedljmpobhimaaGreatDoorJq
import Derived.Laws.AppendOwnNone
namespace Go.Proofs.YtpedljmpobhimaaGreatDoor
open Go.RowKit Go.Shelf
set_option linter.unusedVariables false

theorem rowM_all (ms : List Mr) : ∀ u ∈ flatM ms, u.oneCell' = true := by
  intro u hu
  obtain ⟨p, _, hp⟩ := List.mem_flatMap.1 hu
  exact rowM_one p u hp
theorem mrow_add {W : World} {b off : Nat} {ms : List Mr} (h : MRow W b off ms) : ∀ j u, (flatM ms)[j]? = some u → W.cell? ((⟨b, off, none⟩ : Addr).add j) = some u := by
  intro j u hj
  have ea : (Addr.add ⟨b, off, none⟩ j) = ⟨b, off + j, none⟩ := by
    by_cases e0 : j = 0
    · subst e0; rfl
    · simp [Addr.add, e0]
  rw [ea]
  exact h j u hj
theorem fin12 {R : Ending → World → Prop} (tmps : Array Value) (W : World) (A : Nat) (s : ByteArray) (a : Option Addr) (n c : Nat) (h1 : tmps.getD 2 undef = .pointer (some ⟨A, 0, none⟩))
    (e0 : W.heap[A]? = some (.cells #[.string s, .slice a n c] 24 (0, 0)))
    (hR : R (.returned (.agg #[.string s, .slice a n c])) W) :
    bodyPost Tryz.prog Tryz.f12 R .ret { tmps := tmps, defers := [] } W := by
  have q0 := cell_at 0 e0 rfl
  have q1 := cell_at 1 e0 rfl
  rw [Array.getD_eq_getD_getElem?] at h1
  refine ⟨rfl, _, ?_, hR⟩
  simp [results, Tryz.results12, go_sem, h1, q0, q1]
  try rfl
/-- What a copy leaves. -/
def CpPost (t : List UInt8) (ms : List Mr) (w : World) (e : Ending) (w' : World) : Prop :=
  ∃ a c, e = .returned (.agg #[.string (ofL t), .slice a ms.length c]) ∧ Mrs w' (.slice a ms.length c) ms ∧ Below w.heap.size w w'
/-- The two boxes of a copy. -/
structure Cp (w : World) (t : List UInt8) (v : Value) (W : World) : Prop where
  bel : Below w.heap.size w W
  box : W.heap[w.heap.size]? = some (.cells #[.string (ofL t), v] 24 (0, 0))
  res : W.heap[w.heap.size + 1]? = some (.cells #[.string ⟨#[]⟩, .slice none 0 0] 24 (0, 0))
theorem Cp.start (w : World) (t : List UInt8) (v : Value) : Cp w t v ((w.alloc (.cells #[.string (ofL t), v] 24)).alloc (.cells #[.string ⟨#[]⟩, .slice none 0 0] 24)) :=
  ⟨((Below.refl _ w).alloc (Nat.le_refl _) _).alloc (by simp only [World.size_alloc]; omega) _, (Below.heap_alloc _ _ _ (by simp only [World.size_alloc]; omega)).trans (World.alloc_heap_new w _), alloc_at _ _ _ (by simp only [World.size_alloc])⟩
theorem Cp.grown {w W W' : World} {t : List UInt8} {v : Value} {row : Option Nat} (h : Cp w t v W) (hg : W.grownBy W' row) (hr : ∀ k, row = some k → w.heap.size + 2 ≤ k) : Cp w t v W' := by
  have l1 := (Array.getElem?_eq_some_iff.1 h.box).1
  have l2 := (Array.getElem?_eq_some_iff.1 h.res).1
  refine ⟨h.bel.grown hg h.bel.size (fun k hk => by have := hr k hk; omega), (hg.block _ l1 (fun e => by have := hr _ e.symm; omega)).trans h.box, (hg.block _ l2 (fun e => by have := hr _ e.symm; omega)).trans h.res⟩
theorem Cp.seen {w W : World} {t : List UInt8} {v : Value} (h : Cp w t v W) : (W.cell? ⟨w.heap.size, 0, none⟩ = some (.string (ofL t)) ∧ W.cell? ⟨w.heap.size, 1, none⟩ = some v ∧ W.frozen? ⟨w.heap.size, 0, none⟩ = false ∧ W.frozen? ⟨w.heap.size, 1, none⟩ = false) ∧
    (W.cell? ⟨w.heap.size + 1, 0, none⟩ = some (.string ⟨#[]⟩) ∧ W.cell? ⟨w.heap.size + 1, 1, none⟩ = some (.slice none 0 0) ∧ W.frozen? ⟨w.heap.size + 1, 0, none⟩ = false ∧ W.frozen? ⟨w.heap.size + 1, 1, none⟩ = false) :=
  ⟨⟨cell_at 0 h.box rfl, cell_at 1 h.box rfl, one_free 0 h.box, one_free 1 h.box⟩, cell_at 0 h.res rfl, cell_at 1 h.res rfl, one_free 0 h.res, one_free 1 h.res⟩
theorem cp_end {w W : World} {t : List UInt8} {v : Value} {a : Option Addr} {c n : Nat} {ms : List Mr} (h : Cp w t v W) (hn : ms.length = n) (hr : W.ownsRow (w.heap.size + 2) 54 6 (.slice a n c) n (flatM ms)) (tmps : Array Value) (h1 : tmps.getD 2 undef = .pointer (some ⟨w.heap.size + 1, 0, none⟩)) :
    bodyPost Tryz.prog Tryz.f12 (CpPost t ms w) .ret { tmps := tmps, defers := [] } (((W.setCell ⟨w.heap.size, 1, none⟩ (.slice a n c)).setCell ⟨w.heap.size + 1, 0, none⟩ (.string (ofL t))).setCell ⟨w.heap.size + 1, 1, none⟩ (.slice a n c)) := by
  subst hn
  have k0 : (W.setCell ⟨w.heap.size, 1, none⟩ (.slice a ms.length c)).heap[w.heap.size + 1]? = some (.cells #[.string ⟨#[]⟩, .slice none 0 0] 24 (0, 0)) := (Below.heap_setCell _ _ _ _ (by simp only; omega)).trans h.res
  have k1 := put2 (.string (ofL t)) (.slice a ms.length c) k0
  refine fin12 tmps _ (w.heap.size + 1) (ofL t) a ms.length c h1 k1 ⟨a, c, rfl, ?_, ?_⟩
  · refine (MrsN.keep (m := 0) (own_mrs hr) (Nat.zero_le _) (fun b hb _ => ?_)).mrs
    exact (Below.heap_setCell _ _ _ _ (by simp only; omega)).trans ((Below.heap_setCell _ _ _ _ (by simp only; omega)).trans (Below.heap_setCell _ _ _ _ (by simp only; omega)))
  · exact ((h.bel.setCell (p := ⟨w.heap.size, 1, none⟩) (by simp only; omega) _).setCell (p := ⟨w.heap.size + 1, 0, none⟩) (by simp only; omega) _).setCell (p := ⟨w.heap.size + 1, 1, none⟩) (by simp only; omega) _

theorem own_form {W : World} {base n : Nat} {v : Value} {xs : List Value} (h : W.ownsRow base 54 6 v n xs) : ∃ a c, v = .slice a n c := by
  rcases h.2 with ⟨rfl, rfl⟩ | ⟨g, cap, cur, rfl, _⟩
  · exact ⟨_, _, rfl⟩
  · exact ⟨_, _, rfl⟩
set_option maxRecDepth 100000 in
set_option maxHeartbeats 4000000 in
theorem copied_any (t : List UInt8) (a : Option Addr) (c : Nat) (ms : List Mr) (w : World) (hv : Mrs w (.slice a ms.length c) ms) (hl : ms.length ≤ 2000000) (hnil : a = none → c = 0) :
    Calls Tryz.prog 12 #[.agg #[.string (ofL t), .slice a ms.length c]] w (CpPost t ms w) := by
  obtain ⟨i0, hi, hz0, hz1, hz2⟩ := info_parts Tryz.info54
  obtain ⟨n, hn⟩ : ∃ n, ms.length = n := ⟨_, rfl⟩
  have HN := hide hn
  rw [hn] at hv hl ⊢
  clear hn
  have Q0 := Cp.start w t (.slice a n c)
  have hsz : ((w.alloc (.cells #[.string (ofL t), .slice a n c] 24)).alloc (.cells #[.string ⟨#[]⟩, .slice none 0 0] 24)).heap.size = w.heap.size + 2 := by simp only [World.size_alloc]
  have hV0 := hv.below Q0.bel
  have HV := hide hV0
  clear hv hV0
  generalize hW0 : (w.alloc (.cells #[.string (ofL t), .slice a n c] 24)).alloc (.cells #[.string ⟨#[]⟩, .slice none 0 0] 24) = W0 at *
  have own0 : (W0.alloc (.cells #[] 54)).ownsRow (w.heap.size + 2) 54 6 (.slice (some ⟨w.heap.size + 2, 0, none⟩) 0 0) 0 [] := ⟨rfl, .inr ⟨w.heap.size + 2, 0, #[], rfl, Nat.le_refl _, alloc_at _ _ _ hsz.symm, Nat.le_refl _, by unfold maxLen; omega, rfl, rfl⟩⟩
  have Q1 := hide (Q0.grown (World.grownBy_alloc W0 (.cells #[] 54) none) (fun k hk => by cases hk))
  have bV := (Below.refl _ W0).alloc (Nat.le_refl _) (.cells #[] 54)
  have HV1 := hide (HV.out.below bV)
  have HO := hide own0
  clear own0 bV HV Q0
  obtain ⟨⟨s0, s1, f0, f1⟩, r0, r1, g0, g1⟩ := Q1.out.seen
  cases a with
  | none =>
    obtain rfl := hnil rfl
    have hms : ms = [] := by
      rcases HV1.out with ⟨a', cap, hv', h0 | ⟨b, off, ha, _⟩⟩
      · exact h0
      · cases hv'; cases ha
    have hn0 : n = 0 := by rw [← HN.out, hms]; rfl
    subst hn0 hms
    subst hW0
    go_enter Tryz.func12, Tryz.ntmps12
    go_wp2_with (at_builtin; refine wpList_append_own_none rfl (.tmp 3) (.tmp 5) 22 rfl (w.heap.size + 2) 54 i0 6 Tryz.underlying22 hi _ 0 _ rfl HO.out rfl ?_; generalize ((w.alloc (.cells #[.string (ofL t), .slice none 0 0] 24)).alloc (.cells #[.string ⟨#[]⟩, .slice none 0 0] 24)).alloc (.cells #[] 54) = WZ at *)
    exact cp_end (ms := []) (n := 0) Q1.out rfl HO.out _ (by rfl)
  | some ad =>
    by_cases h0 : ms = []
    · have hn0 : n = 0 := by rw [← HN.out, h0]; rfl
      subst hn0 h0
      subst hW0
      go_enter Tryz.func12, Tryz.ntmps12
      go_wp2_with (at_builtin; refine wpList_append_own _ rfl (.tmp 3) (.tmp 5) 22 rfl (w.heap.size + 2) 54 i0 (.agg #[.bool false, .string .empty, .bool false, .bool false, .string .empty, .bool false]) 6 56 Tryz.underlying22 hi hz0 hz1 hz2 rfl (by decide) _ _ _ rfl HO.out ad 0 c [] rfl rfl (fun j u h => by simp at h) (fun u h => by cases h) (by decide) (by decide) (by simp) ?_; intro v' w3 own1 grow1 _; obtain ⟨a3, c3, rfl⟩ := own_form own1; have Q3 := Q1.out.grown grow1 (fun k hk => (HO.out.lt k hk).1); obtain ⟨⟨t0, t1, u0, u1⟩, v0, v1, x0, x1⟩ := Q3.seen)
      exact cp_end Q3 rfl own1 _ (by rfl)
    · obtain ⟨b, off, hab, hlb, hc⟩ := mrs_at HV1.out (by rw [HN.out]; have : ms.length ≠ 0 := fun e => h0 (List.length_eq_zero_iff.1 e); have := HN.out; omega)
      cases hab
      have HC := hide (mrow_add hc)
      have HFL : Hid ((flatM ms).length = n * 6) := by show _ = _; rw [flatM_len, HN.out]
      clear hc
      subst hW0
      go_enter Tryz.func12, Tryz.ntmps12
      go_wp2_with (at_builtin; refine wpList_append_own _ rfl (.tmp 3) (.tmp 5) 22 rfl (w.heap.size + 2) 54 i0 (.agg #[.bool false, .string .empty, .bool false, .bool false, .string .empty, .bool false]) 6 56 Tryz.underlying22 hi hz0 hz1 hz2 rfl (by decide) _ _ _ rfl HO.out ⟨b, off, none⟩ n c (flatM ms) rfl HFL.out HC.out (rowM_all ms) (by unfold maxLen; omega) (by omega) (by simp) ?_; intro v' w3 own1 grow1 _; obtain ⟨a3, c3, rfl⟩ := own_form own1; have Q3 := Q1.out.grown grow1 (fun k hk => (HO.out.lt k hk).1); obtain ⟨⟨t0, t1, u0, u1⟩, v0, v1, x0, x1⟩ := Q3.seen)
      have own2 : w3.ownsRow (w.heap.size + 2) 54 6 (.slice a3 n c3) n (flatM ms) := by
        have := own1
        simp only [Nat.zero_add, List.nil_append] at this
        exact this
      exact cp_end Q3 HN.out own2 _ (by rfl)

/-- A requirement and its copy at work. -/
structure Dw (w : World) (t : List UInt8) (a : Option Addr) (n c : Nat) (ms : List Mr) (K : Nat) (a2 : Option Addr) (c2 : Nat) (W : World) : Prop where
  bel : Below w.heap.size w W
  box : W.heap[w.heap.size]? = some (.cells #[.string (ofL t), .slice a n c] 24 (0, 0))
  own : W.heap[K]? = some (.cells #[.string (ofL t), .slice a2 n c2] 24 (0, 0))
  mrs : Mrs W (.slice a n c) ms
  mro : Mrs W (.slice a2 n c2) ms
  kn : Kn W
theorem Dw.next {w W W' : World} {t : List UInt8} {a : Option Addr} {n c : Nat} {ms : List Mr} {K : Nat} {a2 : Option Addr} {c2 : Nat} (h : Dw w t a n c ms K a2 c2 W) (hb : Below W.heap.size W W') : Dw w t a n c ms K a2 c2 W' :=
  ⟨h.bel.trans (hb.mono h.bel.size), (hb.block _ (Array.getElem?_eq_some_iff.1 h.box).1).trans h.box, (hb.block _ (Array.getElem?_eq_some_iff.1 h.own).1).trans h.own, h.mrs.below hb, h.mro.below hb, h.kn.below h.kn.pos hb⟩
theorem Dw.seen {w W : World} {t : List UInt8} {a : Option Addr} {n c : Nat} {ms : List Mr} {K : Nat} {a2 : Option Addr} {c2 : Nat} (h : Dw w t a n c ms K a2 c2 W) : W.cell? ⟨w.heap.size, 0, none⟩ = some (.string (ofL t)) ∧ W.cell? ⟨w.heap.size, 1, none⟩ = some (.slice a n c) ∧ W.cell? ⟨K, 0, none⟩ = some (.string (ofL t)) ∧ W.cell? ⟨K, 1, none⟩ = some (.slice a2 n c2) :=
  ⟨cell_at 0 h.box rfl, cell_at 1 h.box rfl, cell_at 0 h.own rfl, cell_at 1 h.own rfl⟩

set_option maxRecDepth 100000 in
set_option maxHeartbeats 16000000 in
theorem does_walk (t : List UInt8) (a : Option Addr) (c : Nat) (ms : List Mr) (u : ByteArray) (w : World) (hv : Mrs w (.slice a ms.length c) ms) (hs : Small ms) (ht : t.length ≤ 10000000) (hnil : a = none → c = 0) (hk : Kn w) :
    Calls Tryz.prog 4 #[.agg #[.string (ofL t), .slice a ms.length c], .string u] w fun e w' => e = .returned (.bool true) ∧ Below w.heap.size w w' := by
  have CP := hide (fun W (hW : Mrs W (.slice a ms.length c) ms) => copied_any t a c ms W hW hs.1 hnil)
  obtain ⟨n, hn⟩ : ∃ n, ms.length = n := ⟨_, rfl⟩
  have HN := hide hn
  have hn2 : n ≤ 2000000 := by rw [← hn]; exact hs.1
  unfold CpPost at CP
  rw [hn] at hv CP ⊢
  have C13 := hide (fun K a2 c2 W (q : Dw w t a n c ms K a2 c2 W) => Fit_any t (.slice a2 n c2) ms W q.mro hs q.kn)
  have C14 := hide (fun K a2 c2 W (q : Dw w t a n c ms K a2 c2 W) => RFitM_any t a n c ms W q.mrs hs ht)
  have C15 := hide (fun K a2 c2 W (q : Dw w t a n c ms K a2 c2 W) => TextM_any t a2 n c2 ms W q.mro hs q.kn)
  have C16 := hide (fun K a2 c2 W (q : Dw w t a n c ms K a2 c2 W) => RTextM_any t a n c ms W q.mrs hs ht)
  have C17 := hide (fun K a2 c2 W (q : Dw w t a n c ms K a2 c2 W) => Wants_any t (.slice a2 n c2) ms u W q.mro hs q.kn)
  have C18 := hide (fun K a2 c2 W (q : Dw w t a n c ms K a2 c2 W) => RWantsM_any t a n c ms u W q.mrs hs ht)
  have C8 := hide (fun K a2 c2 W (q : Dw w t a n c ms K a2 c2 W) => RSameM_true t a2 a n c2 c ms W q.mro q.mrs hn2)
  have AW := hide awake_any
  generalize fitL t ms = F at *
  generalize txtL t ms = T at *
  generalize wantL t ms u.data.toList = X at *
  have Q0 := hide (Fb.start (t := t) hv)
  have HK := hide hk
  clear hn hv hk hs ht hnil
  obtain ⟨s0, s1⟩ := Q0.out.seen
  go_enter Tryz.func4, Tryz.ntmps4
  go_wp2_with fail
  generalize w.alloc (.cells #[.string (ofL t), .slice a n c] 24) = W0 at *
  refine (CP.out _ Q0.out.mrs).mono ?_
  rintro e w1 ⟨a2, c2, rfl, hm2, b1⟩
  have Q1 := Q0.out.next b1
  have bb := (Below.refl _ w1).alloc (Nat.le_refl _) (.cells #[.string (ofL t), .slice a2 n c2] 24)
  have Q2 := Q1.next bb
  have Q3 : Hid (Dw w t a n c ms w1.heap.size a2 c2 (w1.alloc (.cells #[.string (ofL t), .slice a2 n c2] 24))) := ⟨Q2.bel, Q2.box, World.alloc_heap_new w1 _, Q2.mrs, hm2.below bb, HK.out.below HK.out.pos Q2.bel⟩
  clear b1 Q0 Q1 bb Q2 hm2 s0 s1 CP HK
  obtain ⟨s0, s1, s2, s3⟩ := Q3.out.seen
  go_wp2_with fail
  generalize w1.alloc (.cells #[.string (ofL t), .slice a2 n c2] 24) = W1 at *
  generalize w1.heap.size = K at *
  have Qz := Q3.out.next (drew_below _ _)
  clear Q3
  go_region_held3 (fun W' => W'.cell? ⟨w.heap.size, 0, none⟩ = some (.string (ofL t)) ∧ W'.cell? ⟨w.heap.size, 1, none⟩ = some (.slice a n c) ∧ W'.cell? ⟨K, 0, none⟩ = some (.string (ofL t)) ∧ W'.cell? ⟨K, 1, none⟩ = some (.slice a2 n c2)) (go_keep) ((first
    | (go_at_call 11; refine (AW.out _ Qg.kn).mono ?_; rintro e w9 ⟨rfl, b9⟩; have Qh := Qg.next b9; obtain ⟨kh0, kh1, kh2, kh3⟩ := Qh.seen)
    | (go_at_call 8; refine (C8.out _ _ _ _ Qf).mono ?_; rintro e w8 ⟨rfl, b8⟩; have Qg := Qf.next b8; obtain ⟨kg0, kg1, kg2, kg3⟩ := Qg.seen)
    | (go_at_call 18; refine (C18.out _ _ _ _ Qe).mono ?_; rintro e w7 ⟨rfl, b7⟩; have Qf := Qe.next b7; obtain ⟨kf0, kf1, kf2, kf3⟩ := Qf.seen)
    | (go_at_call 17; refine (C17.out _ _ _ _ Qd).mono ?_; rintro e w6 ⟨rfl, b6⟩; have Qe := Qd.next b6; obtain ⟨ke0, ke1, ke2, ke3⟩ := Qe.seen)
    | (go_at_call 16; refine (C16.out _ _ _ _ Qc).mono ?_; rintro e w5 ⟨rfl, b5⟩; have Qd := Qc.next b5; obtain ⟨kd0, kd1, kd2, kd3⟩ := Qd.seen)
    | (go_at_call 15; refine (C15.out _ _ _ _ Qb).mono ?_; rintro e w4 ⟨rfl, b4⟩; have Qc := Qb.next b4; obtain ⟨kc0, kc1, kc2, kc3⟩ := Qc.seen)
    | (go_at_call 14; refine (C14.out _ _ _ _ Qa).mono ?_; rintro e w3 ⟨rfl, b3⟩; have Qb := Qa.next b3; obtain ⟨kb0, kb1, kb2, kb3⟩ := Qb.seen)
    | (go_at_call 13; refine (C13.out _ _ _ _ Qz).mono ?_; rintro e w2 ⟨rfl, b2⟩; have Qa := Qz.next b2; obtain ⟨ka0, ka1, ka2, ka3⟩ := Qa.seen)))
  all_goals
    have QH := hide Qh
    clear Qz Qa Qb Qc Qd Qe Qf Qg Qh
    go_wp2_with fail
    go_ret
    exact ⟨by rfl, QH.out.bel⟩

end Go.Proofs.YtpedljmpobhimaaGreatDoor
