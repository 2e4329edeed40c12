/-
  Walks: the document's own word on versions; the law on the order.
-/
import Derived.Test.YtpedljmpobhimaaGreatDoorHq
import Derived.Test.YtpedljmpobhimaaGreatDoorFf
import Derived.Deep.RegionHeld3
namespace Go.Proofs.YtpedljmpobhimaaGreatDoor
open Go.RowKit Go.Shelf
set_option linter.unusedVariables false

theorem RVersion_any (s : ByteArray) (w : World) :
    Calls Tryz.prog 19 #[.string s] w fun e w' => e = .returned (.bool (isVer s.data.toList)) ∧ Below w.heap.size w w' := by
  have C := hide (RTokens_any s w)
  go_enter Tryz.func19, Tryz.ntmps19
  go_wp2_with fail
  refine C.out.mono ?_
  rintro e w1 (⟨x, hx, rfl, b1⟩ | ⟨ts, ao, cv, hx, rfl, _, b1⟩)
  · have hv : isVer s.data.toList = false := by unfold isVer okT; rw [hx]
    have hx0 : (x.1 == 0) = false := by simpa using toks_errs hx
    have HV := hide hv
    clear hx hv
    go_wp2_with fail
    go_ret
    exact ⟨ret_b HV.out.symm, b1.alloc b1.size _⟩
  · have hv : isVer s.data.toList = true := by unfold isVer okT; rw [hx]
    have HV := hide hv
    clear hx hv
    go_wp2_with fail
    go_ret
    exact ⟨ret_b HV.out.symm, b1.alloc b1.size _⟩

/-- What the law asks of a requirement and three versions. -/
theorem order_plain (l a b c : List UInt8) (he : (paL l).err = 0) (ha : isVer a = true) (hb : isVer b = true) (hc : isVer c = true) :
    (cmpT a b = 0 → wantL (paL l).soft (paL l).ms a = wantL (paL l).soft (paL l).ms b) ∧
    ((paL l).ms.length ≤ 1 → cmpT a b ≤ 0 → cmpT b c ≤ 0 → wantL (paL l).soft (paL l).ms a = true → wantL (paL l).soft (paL l).ms c = true → wantL (paL l).soft (paL l).ms b = true) ∧
    ((paL l).ms.length = 0 → wantL (paL l).soft (paL l).ms a = true ∧ wantL (paL l).soft (paL l).ms b = true ∧ wantL (paL l).soft (paL l).ms c = true) := by
  have hf := read_fit he
  have hsoft : (paL l).ms = [] → (paL l).soft ≠ [] := by
    intro h0 h1
    rw [h0, h1] at hf
    rw [fit_none] at hf
    cases hf
  unfold wantL
  rw [hf, ha, hb, hc]
  simp only [Bool.true_and]
  refine ⟨fun h => ?_, fun h1 h2 h3 hx hz => ?_, fun h => ?_⟩
  · have : (paL l).ms.any (liesL a) = (paL l).ms.any (liesL b) := by
      congr 1
      funext m
      exact lies_alike m h
    rw [this]
  · by_cases hs : (paL l).soft = []
    · rw [hs] at hx hz ⊢
      simp only [ne_eq, not_true_eq_false, decide_false, Bool.false_or] at hx hz ⊢
      cases hm : (paL l).ms with
      | nil => rw [hm] at hx; cases hx
      | cons m r =>
        cases r with
        | nil =>
          rw [hm] at hx hz
          simp only [List.any_cons, List.any_nil, Bool.or_false] at hx hz ⊢
          exact lies_between m h2 h3 hx hz
        | cons m2 r2 => rw [hm] at h1; simp at h1
    · simp [hs]
  · have := hsoft (List.length_eq_zero_iff.1 h)
    simp [this]

end Go.Proofs.YtpedljmpobhimaaGreatDoor

/-
  Walks: the law on the order.
-/
namespace Go.Proofs.YtpedljmpobhimaaGreatDoor
open Go.RowKit Go.Shelf
set_option linter.unusedVariables false

/-- A requirement in its box. -/
structure OW (w : World) (B : Nat) (t : List UInt8) (a : Option Addr) (c : Nat) (ms : List Mr) (W : World) : Prop where
  bel : Below w.heap.size w W
  box : W.heap[B]? = some (.cells #[.string (ofL t), .slice a ms.length c] 24 (0, 0))
  mrs : Mrs W (.slice a ms.length c) ms
  kn : Kn W
theorem OW.next {w W W' : World} {B : Nat} {t : List UInt8} {a : Option Addr} {c : Nat} {ms : List Mr} (h : OW w B t a c ms W) (hb : Below W.heap.size W W') : OW w B t a c ms W' :=
  ⟨h.bel.trans (hb.mono h.bel.size), (hb.block _ (Array.getElem?_eq_some_iff.1 h.box).1).trans h.box, h.mrs.below hb, h.kn.below h.kn.pos hb⟩
theorem OW.seen {w W : World} {B : Nat} {t : List UInt8} {a : Option Addr} {c : Nat} {ms : List Mr} (h : OW w B t a c ms W) : W.cell? ⟨B, 0, none⟩ = some (.string (ofL t)) ∧ W.cell? ⟨B, 1, none⟩ = some (.slice a ms.length c) :=
  ⟨cell_at 0 h.box rfl, cell_at 1 h.box rfl⟩

theorem OW.seenN {w W : World} {B : Nat} {t : List UInt8} {a : Option Addr} {c n : Nat} {ms : List Mr} (h : OW w B t a c ms W) (hn : ms.length = n) : W.cell? ⟨B, 0, none⟩ = some (.string (ofL t)) ∧ W.cell? ⟨B, 1, none⟩ = some (.slice a n c) := by
  subst hn
  exact h.seen

set_option maxRecDepth 100000 in
set_option maxHeartbeats 20000000 in
theorem order_walk (s a b c : ByteArray) (w : World) (hk : Kn w) :
    Calls Tryz.prog 5 #[.string s, .string a, .string b, .string c] w fun e w' => e = .returned (.bool true) ∧ Below w.heap.size w w' := by
  have PA := hide (Parse_any s w hk)
  have AW := hide awake_any
  have VA := hide (RVersion_any a)
  have VB := hide (RVersion_any b)
  have VC := hide (RVersion_any c)
  have CAB := hide (RCompare_any a b)
  have CBC := hide (RCompare_any b c)
  have HOP := hide (order_plain s.data.toList a.data.toList b.data.toList c.data.toList)
  have hs := pa_small s.data.toList
  have WA := hide (fun v W (hv : Mrs W v (paL s.data.toList).ms) hk => Wants_any (paL s.data.toList).soft v (paL s.data.toList).ms a W hv hs hk)
  have WB := hide (fun v W (hv : Mrs W v (paL s.data.toList).ms) hk => Wants_any (paL s.data.toList).soft v (paL s.data.toList).ms b W hv hs hk)
  have WC := hide (fun v W (hv : Mrs W v (paL s.data.toList).ms) hk => Wants_any (paL s.data.toList).soft v (paL s.data.toList).ms c W hv hs hk)
  clear hs
  generalize paL s.data.toList = P at *
  generalize isVer a.data.toList = A at *
  generalize isVer b.data.toList = B at *
  generalize isVer c.data.toList = C at *
  generalize wantL P.soft P.ms a.data.toList = X at *
  generalize wantL P.soft P.ms b.data.toList = Y at *
  generalize wantL P.soft P.ms c.data.toList = Z at *
  generalize cmpT a.data.toList b.data.toList = C1 at *
  generalize cmpT b.data.toList c.data.toList = C2 at *
  obtain ⟨perr, pat, psoft, pms⟩ := P
  dsimp only at *
  go_enter Tryz.func5, Tryz.ntmps5
  go_wp2_with fail
  refine PA.out.mono ?_
  rintro e w1 ⟨v, rfl, hm, b1⟩
  obtain ⟨a1, c1, rfl, _⟩ := id hm
  dsimp only at hm ⊢
  have hB1 := (b1.alloc b1.size (.cells #[.string (ofL psoft), .slice a1 pms.length c1] 24)).alloc (by rw [World.size_alloc]; have := b1.size; omega) (.cells #[.int .i64 perr, .int .i64 (pat : Int)] 27)
  have bb := ((Below.refl _ w1).alloc (Nat.le_refl _) (.cells #[.string (ofL psoft), .slice a1 pms.length c1] 24)).alloc (by simp) (.cells #[.int .i64 perr, .int .i64 (pat : Int)] 27)
  have n0 := (Below.heap_alloc (w1.alloc (.cells #[.string (ofL psoft), .slice a1 pms.length c1] 24)) (.cells #[.int .i64 perr, .int .i64 (pat : Int)] 27) w1.heap.size (by simp)).trans (World.alloc_heap_new w1 (.cells #[.string (ofL psoft), .slice a1 pms.length c1] 24))
  have Q1 : Hid (OW w w1.heap.size psoft a1 c1 pms ((w1.alloc (.cells #[.string (ofL psoft), .slice a1 pms.length c1] 24)).alloc (.cells #[.int .i64 perr, .int .i64 (pat : Int)] 27))) := ⟨hB1, n0, hm.mrs.below bb, hk.below hk.pos hB1⟩
  clear hm b1 hB1 bb n0 hk PA
  by_cases he : perr = 0
  · have HO := hide (HOP.out he)
    subst he
    clear HOP
    go_wp2_with fail
    generalize (w1.alloc (.cells #[.string (ofL psoft), .slice a1 pms.length c1] 24)).alloc (.cells #[.int .i64 0, .int .i64 (pat : Int)] 27) = W1 at *
    generalize w1.heap.size = B1 at *
    refine (VA.out _).mono ?_
    rintro e w2 ⟨rfl, b2⟩
    dsimp only
    have Q2 := hide (Q1.out.next b2)
    clear b2 Q1
    cases A with
    | false =>
      go_wp2_with fail
      refine (AW.out _ Q2.out.kn).mono ?_
      rintro e w9 ⟨rfl, b9⟩
      dsimp only
      have Q9 := Q2.out.next b9
      go_wp2_with fail
      go_ret
      exact ⟨rfl, Q9.bel⟩
    | true =>
      go_wp2_with fail
      refine (VB.out _).mono ?_
      rintro e w3 ⟨rfl, b3⟩
      dsimp only
      have Q3 := hide (Q2.out.next b3)
      clear b3 Q2
      cases B with
      | false =>
        go_wp2_with fail
        refine (AW.out _ Q3.out.kn).mono ?_
        rintro e w9 ⟨rfl, b9⟩
        dsimp only
        have Q9 := Q3.out.next b9
        go_wp2_with fail
        go_ret
        exact ⟨rfl, Q9.bel⟩
      | true =>
        go_wp2_with fail
        refine (VC.out _).mono ?_
        rintro e w4 ⟨rfl, b4⟩
        dsimp only
        have Q4 := hide (Q3.out.next b4)
        clear b4 Q3
        cases C with
        | false =>
          go_wp2_with fail
          refine (AW.out _ Q4.out.kn).mono ?_
          rintro e w9 ⟨rfl, b9⟩
          dsimp only
          have Q9 := Q4.out.next b9
          go_wp2_with fail
          go_ret
          exact ⟨rfl, Q9.bel⟩
        | true =>
          obtain ⟨o1, o2, o3⟩ := HO.out (by first | rfl | trivial) (by first | rfl | trivial) (by first | rfl | trivial)
          have O1 := hide o1
          have O2 := hide o2
          have O3 := hide o3
          clear o1 o2 o3 HO VA VB VC
          obtain ⟨k0, k1⟩ := Q4.out.seen
          have WA4 := hide (fun W (q : OW w B1 psoft a1 c1 pms W) => WA.out _ W q.mrs q.kn)
          have WB4 := hide (fun W (q : OW w B1 psoft a1 c1 pms W) => WB.out _ W q.mrs q.kn)
          have WC4 := hide (fun W (q : OW w B1 psoft a1 c1 pms W) => WC.out _ W q.mrs q.kn)
          clear WA WB WC
          have Q5 := Q4.out.next (drew_below _ _)
          clear Q4
          go_wp2_with fail
          go_region_held3 (fun W' => W'.cell? ⟨B1, 0, none⟩ = some (.string (ofL psoft)) ∧ W'.cell? ⟨B1, 1, none⟩ = some (.slice a1 pms.length c1)) (go_keep) ((first
            | (go_at_call 17; refine (WC4.out _ Qb).mono ?_; rintro e w7 ⟨rfl, b7⟩; have Qc := Qb.next b7; obtain ⟨kc0, kc1⟩ := Qc.seen)
            | (go_at_call 17; refine (WB4.out _ Qa).mono ?_; rintro e w6 ⟨rfl, b6⟩; have Qb := Qa.next b6; obtain ⟨kb0, kb1⟩ := Qb.seen)
            | (go_at_call 17; refine (WA4.out _ Q5).mono ?_; rintro e w5 ⟨rfl, b5⟩; have Qa := Q5.next b5; obtain ⟨ka0, ka1⟩ := Qa.seen)))
          have Q6 := hide Qc
          clear Qa Qb Qc Q5 WA4 WB4 WC4 ka0 ka1 kb0 kb1 kc0 kc1 k0 k1 b5 b6 b7
          have hex : ∃ n, pms.length = n := ⟨_, rfl⟩
          obtain ⟨n, hn⟩ := hex
          have HN := hide hn
          obtain ⟨kc0, kc1⟩ := Q6.out.seenN HN.out
          rw [hn] at O2 O3 ⊢
          clear hn
          go_wp2_with fail
          refine (CAB.out _).mono ?_
          rintro e w8 ⟨rfl, b8⟩
          dsimp only
          have QA := hide (Q6.out.next b8)
          clear b8 Q6 kc0 kc1
          obtain ⟨kc0, kc1⟩ := QA.out.seenN HN.out
          by_cases h1 : C1 = 0
          · have hXY := O1.out h1
            subst hXY h1
            go_wp2_with fail
            refine (CAB.out _).mono ?_
            rintro e w7 ⟨rfl, b7⟩
            dsimp only
            have Q7 := hide (QA.out.next b7)
            clear b7
            obtain ⟨k0, k1⟩ := Q7.out.seenN HN.out
            go_wp2_with fail
            refine (CBC.out _).mono ?_
            rintro e w8 ⟨rfl, b8⟩
            dsimp only
            have Q8 := hide (Q7.out.next b8)
            clear b8 k0 k1
            obtain ⟨k0, k1⟩ := Q8.out.seenN HN.out
            by_cases h3 : C2 ≤ 0
            · by_cases hn2 : 1 < n
              · have hn2' : (1 : Int) < (n : Int) := by omega
                have hn1' : (0 : Int) < (n : Int) := by omega
                go_wp2_with fail
                refine (AW.out _ Q8.out.kn).mono ?_
                rintro e w9 ⟨rfl, b9⟩
                dsimp only
                have Q9 := Q8.out.next b9
                go_wp2_with fail
                go_ret
                exact ⟨rfl, Q9.bel⟩
              · have hn2' : ¬ (1 : Int) < (n : Int) := by omega
                by_cases hn0 : n = 0
                · obtain ⟨hX, _, hZ⟩ := O3.out hn0
                  subst hX hZ
                  have hn1' : ¬ (0 : Int) < (n : Int) := by omega
                  go_wp2_with fail
                  refine (AW.out _ Q8.out.kn).mono ?_
                  rintro e w9 ⟨rfl, b9⟩
                  dsimp only
                  have Q9 := Q8.out.next b9
                  go_wp2_with fail
                  go_ret
                  exact ⟨rfl, Q9.bel⟩
                · have hn1' : (0 : Int) < (n : Int) := by omega
                  cases X with
                  | false =>
                    go_wp2_with fail
                    refine (AW.out _ Q8.out.kn).mono ?_
                    rintro e w9 ⟨rfl, b9⟩
                    dsimp only
                    have Q9 := Q8.out.next b9
                    go_wp2_with fail
                    go_ret
                    exact ⟨rfl, Q9.bel⟩
                  | true =>
                    cases Z with
                    | false =>
                      go_wp2_with fail
                      refine (AW.out _ Q8.out.kn).mono ?_
                      rintro e w9 ⟨rfl, b9⟩
                      dsimp only
                      have Q9 := Q8.out.next b9
                      go_wp2_with fail
                      go_ret
                      exact ⟨rfl, Q9.bel⟩
                    | true =>
                      go_wp2_with fail
                      refine (AW.out _ Q8.out.kn).mono ?_
                      rintro e w9 ⟨rfl, b9⟩
                      dsimp only
                      have Q9 := Q8.out.next b9
                      go_wp2_with fail
                      go_ret
                      exact ⟨rfl, Q9.bel⟩
            · by_cases hn2 : 1 < n
              · have hn2' : (1 : Int) < (n : Int) := by omega
                have hn1' : (0 : Int) < (n : Int) := by omega
                go_wp2_with fail
                refine (AW.out _ Q8.out.kn).mono ?_
                rintro e w9 ⟨rfl, b9⟩
                dsimp only
                have Q9 := Q8.out.next b9
                go_wp2_with fail
                go_ret
                exact ⟨rfl, Q9.bel⟩
              · have hn2' : ¬ (1 : Int) < (n : Int) := by omega
                by_cases hn0 : n = 0
                · obtain ⟨hX, _, hZ⟩ := O3.out hn0
                  subst hX hZ
                  have hn1' : ¬ (0 : Int) < (n : Int) := by omega
                  go_wp2_with fail
                  refine (AW.out _ Q8.out.kn).mono ?_
                  rintro e w9 ⟨rfl, b9⟩
                  dsimp only
                  have Q9 := Q8.out.next b9
                  go_wp2_with fail
                  go_ret
                  exact ⟨rfl, Q9.bel⟩
                · have hn1' : (0 : Int) < (n : Int) := by omega
                  go_wp2_with fail
                  refine (AW.out _ Q8.out.kn).mono ?_
                  rintro e w9 ⟨rfl, b9⟩
                  dsimp only
                  have Q9 := Q8.out.next b9
                  go_wp2_with fail
                  go_ret
                  exact ⟨rfl, Q9.bel⟩
          · have h1b : (C1 == 0) = false := by simpa using h1
            go_wp2_with fail
            refine (CAB.out _).mono ?_
            rintro e w7 ⟨rfl, b7⟩
            dsimp only
            have Q7 := hide (QA.out.next b7)
            clear b7
            obtain ⟨k0, k1⟩ := Q7.out.seenN HN.out
            by_cases h2 : C1 ≤ 0
            · go_wp2_with fail
              refine (CBC.out _).mono ?_
              rintro e w8 ⟨rfl, b8⟩
              dsimp only
              have Q8 := hide (Q7.out.next b8)
              clear b8 k0 k1
              obtain ⟨k0, k1⟩ := Q8.out.seenN HN.out
              by_cases h3 : C2 ≤ 0
              · by_cases hn2 : 1 < n
                · have hn2' : (1 : Int) < (n : Int) := by omega
                  have hn1' : (0 : Int) < (n : Int) := by omega
                  go_wp2_with fail
                  refine (AW.out _ Q8.out.kn).mono ?_
                  rintro e w9 ⟨rfl, b9⟩
                  dsimp only
                  have Q9 := Q8.out.next b9
                  go_wp2_with fail
                  go_ret
                  exact ⟨rfl, Q9.bel⟩
                · have hn2' : ¬ (1 : Int) < (n : Int) := by omega
                  by_cases hn0 : n = 0
                  · obtain ⟨hX, hY, hZ⟩ := O3.out hn0
                    subst hX hY hZ
                    have hn1' : ¬ (0 : Int) < (n : Int) := by omega
                    go_wp2_with fail
                    refine (AW.out _ Q8.out.kn).mono ?_
                    rintro e w9 ⟨rfl, b9⟩
                    dsimp only
                    have Q9 := Q8.out.next b9
                    go_wp2_with fail
                    go_ret
                    exact ⟨rfl, Q9.bel⟩
                  · have hn1' : (0 : Int) < (n : Int) := by omega
                    cases X with
                    | false =>
                      go_wp2_with fail
                      refine (AW.out _ Q8.out.kn).mono ?_
                      rintro e w9 ⟨rfl, b9⟩
                      dsimp only
                      have Q9 := Q8.out.next b9
                      go_wp2_with fail
                      go_ret
                      exact ⟨rfl, Q9.bel⟩
                    | true =>
                      cases Z with
                      | false =>
                        go_wp2_with fail
                        refine (AW.out _ Q8.out.kn).mono ?_
                        rintro e w9 ⟨rfl, b9⟩
                        dsimp only
                        have Q9 := Q8.out.next b9
                        go_wp2_with fail
                        go_ret
                        exact ⟨rfl, Q9.bel⟩
                      | true =>
                        have hY : Y = true := O2.out (by omega) h2 h3 rfl rfl
                        subst hY
                        go_wp2_with fail
                        refine (AW.out _ Q8.out.kn).mono ?_
                        rintro e w9 ⟨rfl, b9⟩
                        dsimp only
                        have Q9 := Q8.out.next b9
                        go_wp2_with fail
                        go_ret
                        exact ⟨rfl, Q9.bel⟩
              · by_cases hn2 : 1 < n
                · have hn2' : (1 : Int) < (n : Int) := by omega
                  have hn1' : (0 : Int) < (n : Int) := by omega
                  go_wp2_with fail
                  refine (AW.out _ Q8.out.kn).mono ?_
                  rintro e w9 ⟨rfl, b9⟩
                  dsimp only
                  have Q9 := Q8.out.next b9
                  go_wp2_with fail
                  go_ret
                  exact ⟨rfl, Q9.bel⟩
                · have hn2' : ¬ (1 : Int) < (n : Int) := by omega
                  by_cases hn0 : n = 0
                  · obtain ⟨hX, hY, hZ⟩ := O3.out hn0
                    subst hX hY hZ
                    have hn1' : ¬ (0 : Int) < (n : Int) := by omega
                    go_wp2_with fail
                    refine (AW.out _ Q8.out.kn).mono ?_
                    rintro e w9 ⟨rfl, b9⟩
                    dsimp only
                    have Q9 := Q8.out.next b9
                    go_wp2_with fail
                    go_ret
                    exact ⟨rfl, Q9.bel⟩
                  · have hn1' : (0 : Int) < (n : Int) := by omega
                    go_wp2_with fail
                    refine (AW.out _ Q8.out.kn).mono ?_
                    rintro e w9 ⟨rfl, b9⟩
                    dsimp only
                    have Q9 := Q8.out.next b9
                    go_wp2_with fail
                    go_ret
                    exact ⟨rfl, Q9.bel⟩
            · by_cases hn2 : 1 < n
              · have hn2' : (1 : Int) < (n : Int) := by omega
                have hn1' : (0 : Int) < (n : Int) := by omega
                go_wp2_with fail
                refine (AW.out _ Q7.out.kn).mono ?_
                rintro e w9 ⟨rfl, b9⟩
                dsimp only
                have Q9 := Q7.out.next b9
                go_wp2_with fail
                go_ret
                exact ⟨rfl, Q9.bel⟩
              · have hn2' : ¬ (1 : Int) < (n : Int) := by omega
                by_cases hn0 : n = 0
                · obtain ⟨hX, hY, hZ⟩ := O3.out hn0
                  subst hX hY hZ
                  have hn1' : ¬ (0 : Int) < (n : Int) := by omega
                  go_wp2_with fail
                  refine (AW.out _ Q7.out.kn).mono ?_
                  rintro e w9 ⟨rfl, b9⟩
                  dsimp only
                  have Q9 := Q7.out.next b9
                  go_wp2_with fail
                  go_ret
                  exact ⟨rfl, Q9.bel⟩
                · have hn1' : (0 : Int) < (n : Int) := by omega
                  go_wp2_with fail
                  refine (AW.out _ Q7.out.kn).mono ?_
                  rintro e w9 ⟨rfl, b9⟩
                  dsimp only
                  have Q9 := Q7.out.next b9
                  go_wp2_with fail
                  go_ret
                  exact ⟨rfl, Q9.bel⟩
  · have heb : (perr == 0) = false := by simpa using he
    have hen : (perr != 0) = true := by simpa using he
    clear HOP
    go_wp2_with fail
    refine (AW.out _ Q1.out.kn).mono ?_
    rintro e w9 ⟨rfl, b9⟩
    dsimp only
    have Q9 := Q1.out.next b9
    go_wp2_with fail
    go_ret
    exact ⟨rfl, Q9.bel⟩

end Go.Proofs.YtpedljmpobhimaaGreatDoor
