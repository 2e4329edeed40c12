/-
  Walks: a range, as the document reads it. · Walks: the document's Sets, where both are the same. · Walks: NpmspecReads.
-/
import Derived.Test.YtpdlgiioahjhiaaGreatQLf
import Derived.Test.YtpdlgiioahjhiaaGreatQMf
import Derived.Deep.RegionHeld3
import Derived.BigQuiet
namespace Go.Proofs.YtpdlgiioahjhiaaGreat
open Go.RowKit Go.Shelf
set_option linter.unusedVariables false


def P30 (R : Int × Int × List (List Comp)) (w : World) (e : Ending) (w' : World) : Prop :=
  ∃ v, e = .returned (.tuple #[v, .int .i64 R.1, .int .i64 R.2.1]) ∧ SetsO w.heap.size w' v R.2.2 ∧ Below w.heap.size w w'
theorem SetsO.mono {lo lo' : Nat} {W : World} {v : Value} {l : List (List Comp)} (h : SetsO lo W v l) (hl : lo' ≤ lo) : SetsO lo' W v l := by
  obtain ⟨us, h1, h2⟩ := h
  refine ⟨us, own_mono h1 hl, fun i hi => ?_⟩
  obtain ⟨u, h3, h4⟩ := h2 i hi
  exact ⟨u, h3, h4.keep (A' := fun b => lo' ≤ b ∧ v.ownBlock ≠ some b) ⟨Nat.le_refl _, fun _ _ _ _ _ h => h⟩ (fun b hb _ => ⟨Nat.le_trans hl hb.1, hb.2⟩)⟩
def slcLen : Value → Nat
  | .slice _ n _ => n
  | _ => 0
theorem below_turn {w0 w W : World} {B : Nat} (h : Below w0.heap.size w0 w) (t : Turn B w W) (hB : w0.heap.size ≤ B) : Below w0.heap.size w0 W :=
  ⟨t.os.trans h.os, t.tape.trans h.tape, t.output.trans h.output, Nat.le_trans h.size t.size, fun k hk => (t.block k (Nat.lt_of_lt_of_le hk h.size) (by omega)).trans (h.block k hk)⟩
structure PW (w W : World) (s : ByteArray) (c : Nat) (e q : Int) (v : Value) (sets : List (List Comp)) : Prop where
  rd : NrAt W w.heap.size s c e q
  st : SetsO (w.heap.size + 1) W v sets
  bel : Below w.heap.size w W
section
variable {w W W' : World} {c c' : Nat} {s : ByteArray} {e e' q q' : Int} {v : Value} {sets : List (List Comp)}
theorem PW.turn (h : PW w W s c e q v sets) (t : Turn w.heap.size W W') (r : NrAt W' w.heap.size s c' e' q') : PW w W' s c' e' q' v sets :=
  ⟨r, h.st.keep (keep_turn t (fun b hb => by omega)), below_turn h.bel t (Nat.le_refl _)⟩
theorem PW.drewN (h : PW w W s c e q v sets) (k : Nat) : PW w (W.drewN k) s c e q v sets := h.turn (Turn.drewN _ W k) (h.rd.drewN k)
theorem PW.drew (h : PW w W s c e q v sets) : PW w W.drew s c e q v sets := h.drewN 1
theorem PW.step (h : PW w W s c e q v sets) : PW w (W.setCell ⟨w.heap.size, 1, none⟩ (.int .i64 ((c : Int) + 1))) s (c + 1) e q v sets := h.turn (Turn.set _ 1 W _) h.rd.step
theorem PW.seen (h : PW w W s c e q v sets) : (W.cell? ⟨w.heap.size, 0, none⟩ = some (.string s) ∧ W.cell? ⟨w.heap.size, 1, none⟩ = some (.int .i64 (c : Int)) ∧ W.cell? ⟨w.heap.size, 2, none⟩ = some (.int .i64 e)) ∧ W.frozen? ⟨w.heap.size, 1, none⟩ = false :=
  ⟨⟨h.rd.seen.1, h.rd.seen.2.1, h.rd.seen.2.2.1⟩, one_free 1 h.rd⟩
theorem PW.slice (h : PW w W s c e q v sets) : ∃ a k, v = .slice a sets.length k := by
  obtain ⟨us, h1, _⟩ := h.st
  obtain ⟨a, k, hv, _⟩ := own_cells h1
  exact ⟨a, k, hv⟩
theorem PW.app (h : PW w W s c e q v sets) {u : Value} {cs : List Comp} {xs : List Value} {w0 : World} (hs0 : w.heap.size + 1 ≤ w0.heap.size) (hv0 : ∀ g, v.ownBlock = some g → g < w0.heap.size) (hu : W.ownsRow w0.heap.size 35 6 u cs.length xs) (hc : CompsC (fun b => w0.heap.size ≤ b) W cs xs) (hul : u.oneCell' = true) (hn : sets.length ≤ 1048576) :
    ∃ v' W', (Builtin.append_ #[22, 22] 22 #[v, .slice (some ⟨W.heap.size, 0, none⟩) 1 1]).run Tryz.prog (W.alloc (.cells #[u] 39)) = .ok v' W' ∧ PW w W' s c e q v' (sets ++ [cs]) := by
  obtain ⟨i0, hi, hz0, hz1, hz2⟩ := info_parts info39
  obtain ⟨us, h1, h2⟩ := h.st
  have hlo : w.heap.size + 1 ≤ W.heap.size := by have := h.rd.lt; omega
  have hkb : ∀ {A : Nat → Prop}, Keep A W (W.alloc (.cells #[u] 39)) := keep_below ((Below.refl _ W).alloc (Nat.le_refl _) _)
  have h1' := own_keep (A := fun _ => True) h1 hkb (fun _ _ => trivial)
  have hsz : (W.alloc (.cells #[u] 39)).heap.size = W.heap.size + 1 := by simp
  obtain ⟨v', W', r1, r2, r3, _, r4⟩ := run_append_own_at (P := Tryz.prog) (w := W.alloc (.cells #[u] 39)) (w.heap.size + 1) 22 22 39 i0 _ 1 24 Tryz.underlying22 hi hz0 hz1 hz2 rfl (by decide) v sets.length us h1' ⟨W.heap.size, 0, none⟩ 1 1 [u] rfl
    (fun j x hx => cell_add (cell_at j (World.alloc_heap_new W (.cells #[u] 39)) (by rw [List.getElem?_toArray]; exact hx))) (fun x hx => by rw [List.mem_singleton.1 hx]; exact hul) (by unfold maxLen; omega) (by omega) (by rw [hsz]; omega)
  have hlt := own_lt h1'
  have hgb : ∀ k, k < W.heap.size → k < w.heap.size + 1 → W'.heap[k]? = W.heap[k]? := fun k h3 h4 => (r3.block k (by rw [hsz]; omega) (fun e => by have := (hlt k e.symm).1; omega)).trans (Below.heap_alloc _ _ _ h3)
  refine ⟨v', W', r1, ?_, ?_, ?_⟩
  · exact (hgb _ h.rd.lt (by omega)).trans h.rd
  · refine SetsO.snoc h1' (fun i hi => ?_) ?_ r2 r3 r4
    · obtain ⟨x, q1, q2⟩ := h2 i hi
      exact ⟨x, q1, q2.keep hkb (fun _ hb _ => hb)⟩
    · refine SetO.keep (A := fun b => w0.heap.size ≤ b) ⟨xs, own_mono hu (Nat.zero_le _), fun g hg => (own_lt hu g hg).1, hc⟩ hkb (fun b hb _ => ⟨by omega, fun e => by have := hv0 b e; omega⟩)
  · have ha : Below w.heap.size w (W.alloc (.cells #[u] 39)) := h.bel.alloc h.bel.size _
    exact ⟨r3.os.trans ha.os, r3.tape.trans ha.tape, r3.output.trans ha.output, Nat.le_trans ha.size r3.size, fun k hk => (hgb k (Nat.lt_of_lt_of_le hk h.bel.size) (by omega)).trans (h.bel.block k hk)⟩
end
theorem PW.start (w : World) (s : ByteArray) : PW w (w.alloc (.cells #[.string s, .int .i64 0, .int .i64 0, .int .i64 0] 86)) s 0 0 0 (.slice none 0 0) [] :=
  ⟨World.alloc_heap_new w _, ⟨[], World.ownsRow_nil _ _ _ _, fun i h => by cases h⟩, (Below.refl _ w).alloc (Nat.le_refl _) _⟩
theorem one_le (l : List UInt8) (a : Nat) : setA l a = if (oneSet l a).1 = 0 then blk l (oneSet l a).2.1.toNat else (oneSet l a).2.1.toNat := rfl
theorem sets_nil (lo : Nat) (W : World) : SetsO lo W (.slice none 0 0) [] := ⟨[], World.ownsRow_nil _ _ _ _, fun i h => by cases h⟩
structure PWI (l : List UInt8) (c : Nat) (sets : List (List Comp)) (G : Int × Int × List (List Comp)) : Prop where
  cl : c ≤ l.length
  num : sets.length ≤ 31
  eq : G = npGo l (33 - sets.length) c sets
section
variable {l : List UInt8} {c : Nat} {sets : List (List Comp)} {G : Int × Int × List (List Comp)}
theorem PWI.bad (h : PWI l c sets G) (he : (oneSet l c).1 ≠ 0) : G = ((oneSet l c).1, (oneSet l c).2.1, []) := by
  have := h.num
  rw [h.eq, show 33 - sets.length = (32 - sets.length) + 1 by omega, npGo, if_pos he]
theorem PWI.done (h : PWI l c sets G) (he : (oneSet l c).1 = 0) (hb : setA l c = l.length) : G = (0, 0, sets ++ [(oneSet l c).2.2]) := by
  have := h.num
  unfold setA at hb
  rw [if_pos he] at hb
  rw [h.eq, show 33 - sets.length = (32 - sets.length) + 1 by omega, npGo, if_neg (by simp [he]), if_pos hb]
theorem PWI.more (h : PWI l c sets G) (he : (oneSet l c).1 = 0) (hb : setA l c ≠ l.length) :
    (¬ l[setA l c + 1]? = some 124 → G = (misL l.length (setA l c + 1), ((setA l c + 1 : Nat) : Int), [])) ∧
    (l[setA l c + 1]? = some 124 → sets.length + 1 = 32 → G = (12, ((setA l c + 1 : Nat) : Int), [])) ∧
    (l[setA l c + 1]? = some 124 → sets.length + 1 ≠ 32 → PWI l (setA l c + 2) (sets ++ [(oneSet l c).2.2]) G) := by
  have hn := h.num
  have hA : setA l c = blk l (oneSet l c).2.1.toNat := if_pos he
  have hG : G = npGo l ((32 - sets.length) + 1) c sets := by rw [h.eq, show 33 - sets.length = (32 - sets.length) + 1 by omega]
  rw [npGo, if_neg (by simp [he]), if_neg (by rw [← hA]; exact hb), ← hA] at hG
  refine ⟨fun h1 => ?_, fun h1 h2 => ?_, fun h1 h2 => ?_⟩
  · have hB : barsL l (setA l c) (sets.length + 1) = (setA l c + 1, misL l.length (setA l c + 1)) := by unfold barsL; rw [if_neg h1]
    rw [hG, hB, if_pos (misL_ne _ _)]
  · have hB : barsL l (setA l c) (sets.length + 1) = (setA l c + 1, 12) := by unfold barsL; rw [if_pos h1, if_pos h2]
    rw [hG, hB, if_pos (by simp)]
  · have hB : barsL l (setA l c) (sets.length + 1) = (setA l c + 2, 0) := by unfold barsL; rw [if_pos h1, if_neg h2]
    rw [hB, if_neg (by simp)] at hG
    have hlt := (List.getElem?_eq_some_iff.1 h1).1
    refine ⟨by omega, by rw [List.length_append]; simp; omega, ?_⟩
    rw [hG, List.length_append]
    simp only [List.length_cons, List.length_nil]
    congr 1
    omega
end

set_option maxRecDepth 100000 in
theorem nparse_long (s : ByteArray) (w : World) (hs : 256 < s.size) : Calls Tryz.prog 30 #[.string s] w (P30 (12, 256, []) w) := by
  have hs' : decide ((256 : Int) < (s.size : Int)) = true := by simp; omega
  clear hs
  go_enter Tryz.func30, Tryz.ntmps30
  go_wp2_with fail
  go_ret3
  exact ⟨_, rfl, sets_nil _ _, Below.refl _ _⟩

set_option maxRecDepth 100000 in
set_option maxHeartbeats 8000000 in
theorem nparse_in (s : ByteArray) (w : World) (hs : s.size ≤ 256) : Calls Tryz.prog 30 #[.string s] w (P30 (npGo s.data.toList 33 0 []) w) := by
  have hs' : decide ((256 : Int) < (s.size : Int)) = false := by simp; omega
  have HL : Hid (s.data.toList.length = s.size) := len_data s
  obtain ⟨G, hG⟩ : ∃ G, npGo s.data.toList 33 0 [] = G := ⟨_, rfl⟩
  rw [hG]
  have HG := hide hG
  clear hG
  have Q0 := hide (PW.start w s)
  go_enter Tryz.func30, Tryz.ntmps30
  go_wp2_with fail
  generalize w.alloc _ = W0 at *
  go_loopw [6] (fun vv wr => ∃ (c : Nat) (q : Int) (v : Value) (sets : List (List Comp)), vv = v ∧ c ≤ s.size ∧ Hid (PW w wr s c 0 q v sets) ∧ Hid (PWI s.data.toList c sets G)) (fun v _ => 33 - slcLen v)
  case atStart => exact ⟨0, 0, _, [], rfl, Nat.zero_le _, Q0, ⟨Nat.zero_le _, Nat.zero_le _, HG.out.symm⟩⟩
  case round =>
    clear Q0
    obtain ⟨c, q, v, sets, rfl, hcs, Q1, HI⟩ := hrel
    obtain ⟨va, vk, hv⟩ := Q1.out.slice
    obtain ⟨N, hN⟩ : ∃ N, sets.length = N := ⟨_, rfl⟩
    rw [hN] at hv
    subst hv
    have HN := hide hN
    clear hN
    go_wp2_with fail
    refine (nset_any w.heap.size s c q wr Q1.out.rd hcs hs).mono ?_
    rintro r w2 ⟨⟨q2, h2⟩, t2, u, rfl, ⟨ua, un, uc, rfl⟩, hok, hpos⟩
    have Q2 := hide (Q1.out.turn t2 h2)
    have HOK := hide hok
    have HPOS := hide hpos
    have HBAD := hide (fun h => HI.out.bad h)
    have HDONE := hide (fun h1 h2 => HI.out.done h1 h2)
    have HMORE := hide (fun h1 h2 => HI.out.more h1 h2)
    have HA := hide (one_le s.data.toList c)
    have OL1 := hide (own_lt Q1.out.st.choose_spec.1)
    have LO1 : Hid (w.heap.size + 1 ≤ wr.heap.size) := Q1.out.rd.lt
    clear h2 t2 hok hpos
    generalize setA s.data.toList c = d at *
    generalize oneSet s.data.toList c = X at *
    obtain ⟨xe, xp, cs⟩ := X
    dsimp only at *
    obtain ⟨⟨c0, c1, c2⟩, f1⟩ := Q2.out.seen
    by_cases hx : xe = 0
    · subst hx
      have b1 : ((0 : Int) != 0) = false := rfl
      obtain ⟨hds, xs, hr, hc⟩ := HOK.out rfl
      obtain ⟨v', w3, hrun, hpw⟩ := Q2.out.app (u := .slice ua un uc) (w0 := wr) LO1.out (fun g hg => (OL1.out g hg).2) hr hc rfl (by have := HI.out.num; omega)
      obtain ⟨va', vk', hv'⟩ := hpw.slice
      obtain ⟨M, hM⟩ : ∃ M, (sets ++ [cs]).length = M := ⟨_, rfl⟩
      have HM : Hid (M = N + 1) := by show _ = _; rw [← hM, List.length_append, HN.out]; rfl
      rw [hM] at hv'
      subst hv'
      have HDN := hide (HDONE.out rfl)
      have HMR := hide (HMORE.out rfl)
      have Q3 := hide hpw
      have HLN := hide hM
      clear hr hc hpw HOK HBAD HDONE HMORE hM
      obtain ⟨⟨m0, m1, m2⟩, g1⟩ := Q3.out.seen
      by_cases hd : s.size ≤ d
      · have k1 : decide ((s.size : Int) ≤ (d : Int)) = true := decide_eq_true (by omega)
        have k2 : decide (s.size ≤ d) = true := decide_eq_true hd
        have HGD := hide (HDN.out (by rw [HL.out]; omega))
        clear hd
        go_wp2_with (at_builtin; refine wpList_append_run rfl _ _ 22 rfl _ _ _ rfl rfl hrun ?_)
        go_ret3
        unfold P30
        rw [HGD.out]
        exact ⟨_, rfl, Q3.out.st.mono (Nat.le_succ _), Q3.out.bel⟩
      · have k1 : decide ((s.size : Int) ≤ (d : Int)) = false := decide_eq_false (by omega)
        have k2 : decide (s.size ≤ d) = false := decide_eq_false hd
        obtain ⟨hm1, hm2, hm3⟩ := HMR.out (by rw [HL.out]; omega)
        have HM1 := hide hm1
        have HM2 := hide hm2
        have HM3 := hide hm3
        have Q4 := hide Q3.out.step
        have hd1 : d + 1 ≤ s.size := by omega
        clear hd hm1 hm2 hm3 HMR HDN
        go_wp2_with (at_builtin; refine wpList_append_run rfl _ _ 22 rfl _ _ _ rfl rfl hrun ?_)
        generalize w3.setCell _ _ = W4 at *
        clear m0 m1 m2 g1 c0 c1 c2 f1 hrun k1 k2
        obtain ⟨z, hz⟩ : ∃ z, d + 1 = z := ⟨_, rfl⟩
        have HZ : Hid (d + 2 = z + 1) := by show _ = _; omega
        rw [HZ.out] at HM3
        rw [hz] at HM1 HM2 HM3 Q4 hd1
        clear hz
        have IS0 := nis_any w.heap.size s z 0 q2 124 _ Q4.out.rd
        rw [show (decide ((0 : Int) = 0) && atB s.data.toList z 124) = atB s.data.toList z 124 by simp] at IS0
        cases h124 : atB s.data.toList z 124
        · rw [h124] at IS0
          have IS := hide IS0
          have HGB := hide (HM1.out (fun h => by rw [(atB_iff _ _ 124).2 h] at h124; cases h124))
          clear IS0 h124 HM1 HM2 HM3
          refine IS.out.mono ?_
          rintro r w5 ⟨rfl, n5, rfl⟩
          have Q5 := hide (Q4.out.drewN n5)
          clear IS
          go_wp2_with fail
          refine (nnone_any w.heap.size s z 0 q2 _ Q5.out.rd hd1).mono ?_
          rintro r w6 ⟨rfl, h6, t6⟩
          rw [rerr_0] at h6
          have Q6 := hide (Q5.out.turn t6 h6)
          clear h6 t6
          obtain ⟨⟨c0, c1, c2⟩, f1⟩ := Q6.out.seen
          go_wp2_with fail
          go_region
          all_goals
            go_wp2_with fail
            go_ret3
            unfold P30
            rw [HGB.out, HL.out]
            exact ⟨_, rfl, sets_nil _ _, Q6.out.drew.bel⟩
        · rw [h124] at IS0
          have IS := hide IS0
          have h9 := (atB_iff _ _ 124).1 h124
          have HG2 := hide (HM2.out h9)
          have HG3 := hide (HM3.out h9)
          clear IS0 h124 HM1 HM2 HM3 h9
          refine IS.out.mono ?_
          rintro r w5 ⟨rfl, n5, rfl⟩
          have Q5 := hide (Q4.out.drewN n5)
          clear IS
          generalize W4.drewN n5 = W5 at *
          obtain ⟨⟨c0, c1, c2⟩, f1⟩ := Q5.out.seen
          by_cases h32 : M = 32
          · have k5 : ((M : Int) == 32) = true := by simp; omega
            have HGB := hide (HG2.out (by have := HM.out; have := HN.out; omega))
            clear h32
            go_wp2_with fail
            go_region
            all_goals
              go_wp2_with fail
              go_ret3
              unfold P30
              rw [HGB.out]
              exact ⟨_, rfl, sets_nil _ _, Q5.out.drew.bel⟩
          · have k5 : ((M : Int) == 32) = false := by simp; omega
            have HI3 := hide (HG3.out (by have := HM.out; have := HN.out; omega))
            have Q6 := hide Q5.out.step
            have hnum := HI.out.num
            clear h32
            go_wp2_with fail
            go_roundw
            case rel => exact ⟨z + 1, q2, _, _, rfl, by have := HI3.out.cl; rw [HL.out] at this; exact this, Q6, HI3.out⟩
            case measure => simp [slcLen]; have := HM.out; have := HN.out; omega
    · have b1 : (xe != 0) = true := by simpa using hx
      have HGB := hide (HBAD.out hx)
      have HXP := hide (HPOS.out hx)
      clear hx HOK HBAD HDONE HMORE
      go_wp2_with fail
      go_region
      all_goals
        go_wp2_with fail
        go_ret3
        unfold P30
        rw [HGB.out, HXP.out]
        exact ⟨_, rfl, sets_nil _ _, Q2.out.drew.bel⟩
theorem nparse_any (s : ByteArray) (w : World) : Calls Tryz.prog 30 #[.string s] w (P30 (nParse s.data.toList) w) := by
  unfold nParse
  rw [len_data]
  by_cases h : 256 < s.size
  · rw [if_pos h]
    exact nparse_long s w h
  · rw [if_neg h]
    exact nparse_in s w (by omega)

end Go.Proofs.YtpdlgiioahjhiaaGreat

namespace Go.Proofs.YtpdlgiioahjhiaaGreat
open Go.RowKit Go.Shelf
set_option linter.unusedVariables false

set_option maxRecDepth 100000 in
set_option maxHeartbeats 4000000 in
theorem SetsR_eq (va vb : Value) (l : List (List Comp)) (w : World) (ha : SetsAt w va l) (hb : SetsAt w vb l) (hs : ShortL l) :
    Calls Tryz.prog 10 #[va, vb] w fun e w' => e = .returned (.bool true) ∧ Below w.heap.size w w' := by
  obtain ⟨n, hn⟩ : ∃ n, l.length = n := ⟨_, rfl⟩
  have HN := hide hn
  have HA := hide ha
  have HB := hide hb
  have HS := hide hs
  have hn9 : n ≤ 9000000000000000000 := by rw [← hn]; exact hs.1
  obtain ⟨a, ka, rfl, hjunk⟩ := ha
  clear hjunk
  obtain ⟨b, kb, rfl, hjunk⟩ := hb
  clear hjunk hs
  rw [hn] at HA HB ⊢
  clear hn
  go_enter Tryz.func10, Tryz.ntmps10
  go_wp2_with fail
  go_loopw [5, 6] (fun j _ wr => ∃ i : Nat, i ≤ n ∧ j = .int .i64 i ∧ Hid (Below w.heap.size w wr)) (fun j _ _ => n - (intOf j).toNat)
  case atStart => exact ⟨0, by omega, rfl, Below.refl _ _⟩
  case round =>
    obtain ⟨i, hin, rfl, HW⟩ := hrel
    by_cases hlt : i < n
    · have hlt' : (i : Int) < (n : Int) := by omega
      have hi0 : (0 : Int) ≤ (i : Int) := by omega
      have i1 : i < l.length := by rw [HN.out]; exact hlt
      obtain ⟨a', k', hv', h0 | ⟨b1, o1, rfl, hbl1, hrow1⟩⟩ := HA.out
      · exfalso
        rw [h0] at i1
        simp at i1
      injection hv' with z1 z2 z3
      subst z1
      subst z3
      clear z2
      obtain ⟨a', k', hv', h0 | ⟨b2, o2, rfl, hbl2, hrow2⟩⟩ := HB.out
      · exfalso
        rw [h0] at i1
        simp at i1
      injection hv' with z1 z2 z3
      subst z1
      subst z3
      clear z2
      obtain ⟨u, d0, hcu⟩ := hrow1 i i1
      obtain ⟨v, d1, hcv⟩ := hrow2 i i1
      obtain ⟨hm0, hsc⟩ := HS.out.2 l[i] (List.getElem_mem i1)
      obtain ⟨m, hm⟩ : ∃ m, l[i].length = m := ⟨_, rfl⟩
      have HM := hide hm
      have HU := hide hcu
      have HV := hide hcv
      have HSC := hide hsc
      obtain ⟨au, ku, rfl, hjunk⟩ := hcu
      clear hjunk
      obtain ⟨av, kv, rfl, hjunk⟩ := hcv
      clear hjunk hrow1 hrow2 hsc
      rw [hm] at d0 d1 HU HV hm0
      have HCS : Hid (∀ W, Below w.heap.size w W → W.cell? ⟨b1, o1 + i, none⟩ = some (.slice au m ku) ∧ W.cell? ⟨b2, o2 + i, none⟩ = some (.slice av m kv)) := fun W hW => ⟨(hW.cell hbl1).trans d0, (hW.cell hbl2).trans d1⟩
      clear d0 d1 hm
      generalize l[i] = cs at *
      clear i1
      obtain ⟨d0, d1⟩ := HCS.out _ HW.out
      go_wp2_with fail
      go_quiet (fail)
      clear d0 d1
      have HW1 := hide (HW.out.trans (below_drewN w.heap.size wr nq))
      obtain ⟨d0, d1⟩ := HCS.out _ HW1.out
      generalize wr.drewN nq = W1 at *
      clear HW wr
      go_wp2_with fail
      go_loopw [6] (fun j wr => ∃ q : Nat, q ≤ m ∧ j = .int .i64 q ∧ Hid (Below w.heap.size w wr)) (fun j _ => m - (intOf j).toNat)
      case atStart => exact ⟨0, by omega, rfl, HW1⟩
      case round =>
        clear d0 d1 HW1
        obtain ⟨q, hqm, rfl, HW⟩ := hrel
        obtain ⟨d0, d1⟩ := HCS.out _ HW.out
        by_cases hql : q < m
        · have hql' : (q : Int) < (m : Int) := by omega
          have hq0 : (0 : Int) ≤ (q : Int) := by omega
          have i1 : q < cs.length := by rw [HM.out]; exact hql
          obtain ⟨a', k', hv', h0 | ⟨p1, r1, rfl, hpl1, hrow1⟩⟩ := HU.out
          · exfalso
            rw [h0] at i1
            simp at i1
          injection hv' with z1 z2 z3
          subst z1
          subst z3
          clear z2
          obtain ⟨a', k', hv', h0 | ⟨p2, r2, rfl, hpl2, hrow2⟩⟩ := HV.out
          · exfalso
            rw [h0] at i1
            simp at i1
          injection hv' with z1 z2 z3
          subst z1
          subst z3
          clear z2
          obtain ⟨vp, vb, c0, c1, c2, c3, c4, c5, t1, t2, cp1⟩ := hrow1 q i1
          obtain ⟨vp2, vb2, e0, e1, e2, e3, e4, e5, t3, t4, cp2⟩ := hrow2 q i1
          have sc := HSC.out cs[q] (List.getElem_mem i1)
          clear hrow1 hrow2 cp1 cp2
          generalize cs[q] = c at *
          clear i1
          obtain ⟨op, x⟩ := c
          dsimp only at *
          have hb0 := HW.out.trans ((drew_below wr.heap.size wr).mono HW.out.size)
          have SE := hide (Same_eq _ _ x _ (⟨vp, vb, rfl, t1.below hb0, t2.below hb0⟩) (⟨vp2, vb2, rfl, t3.below hb0, t4.below hb0⟩) sc)
          have BD := hide hb0
          obtain ⟨a1, k1, rfl, hjunk⟩ := t1
          clear hjunk
          obtain ⟨a2, k2, rfl, hjunk⟩ := t2
          clear hjunk
          obtain ⟨a3, k3, rfl, hjunk⟩ := t3
          clear hjunk
          obtain ⟨a4, k4, rfl, hjunk⟩ := t4
          clear hjunk hb0 sc
          generalize x.pre.length = m1 at *
          generalize x.bld.length = m2 at *
          have HCC : Hid (∀ W, Below w.heap.size w W → W.cell? ⟨p1, r1 + q * 6, none⟩ = some (.int .i64 op) ∧ W.cell? ⟨p1, r1 + q * 6 + 1, none⟩ = some (.string (ofL x.maj)) ∧ W.cell? ⟨p1, r1 + q * 6 + 2, none⟩ = some (.string (ofL x.min)) ∧ W.cell? ⟨p1, r1 + q * 6 + 3, none⟩ = some (.string (ofL x.pat)) ∧ W.cell? ⟨p1, r1 + q * 6 + 4, none⟩ = some (.slice a1 m1 k1) ∧ W.cell? ⟨p1, r1 + q * 6 + 5, none⟩ = some (.slice a2 m2 k2) ∧ W.cell? ⟨p2, r2 + q * 6, none⟩ = some (.int .i64 op) ∧ W.cell? ⟨p2, r2 + q * 6 + 1, none⟩ = some (.string (ofL x.maj)) ∧ W.cell? ⟨p2, r2 + q * 6 + 2, none⟩ = some (.string (ofL x.min)) ∧ W.cell? ⟨p2, r2 + q * 6 + 3, none⟩ = some (.string (ofL x.pat)) ∧ W.cell? ⟨p2, r2 + q * 6 + 4, none⟩ = some (.slice a3 m1 k3) ∧ W.cell? ⟨p2, r2 + q * 6 + 5, none⟩ = some (.slice a4 m2 k4)) := fun W hW => ⟨(hW.cell hpl1).trans c0, (hW.cell hpl1).trans c1, (hW.cell hpl1).trans c2, (hW.cell hpl1).trans c3, (hW.cell hpl1).trans c4, (hW.cell hpl1).trans c5, (hW.cell hpl2).trans e0, (hW.cell hpl2).trans e1, (hW.cell hpl2).trans e2, (hW.cell hpl2).trans e3, (hW.cell hpl2).trans e4, (hW.cell hpl2).trans e5⟩
          clear c0 c1 c2 c3 c4 c5 e0 e1 e2 e3 e4 e5
          obtain ⟨c0', c1', c2', c3', c4', c5', e0', e1', e2', e3', e4', e5'⟩ := HCC.out _ HW.out
          go_wp2_with fail
          go_region_held3 (fun W' => W'.cell? ⟨b1, o1 + i, none⟩ = some (.slice (some ⟨p1, r1, none⟩) m ku) ∧ W'.cell? ⟨b2, o2 + i, none⟩ = some (.slice (some ⟨p2, r2, none⟩) m kv) ∧ W'.cell? ⟨p1, r1 + q * 6, none⟩ = some (.int .i64 op) ∧ W'.cell? ⟨p1, r1 + q * 6 + 1, none⟩ = some (.string (ofL x.maj)) ∧ W'.cell? ⟨p1, r1 + q * 6 + 2, none⟩ = some (.string (ofL x.min)) ∧ W'.cell? ⟨p1, r1 + q * 6 + 3, none⟩ = some (.string (ofL x.pat)) ∧ W'.cell? ⟨p1, r1 + q * 6 + 4, none⟩ = some (.slice a1 m1 k1) ∧ W'.cell? ⟨p1, r1 + q * 6 + 5, none⟩ = some (.slice a2 m2 k2) ∧ W'.cell? ⟨p2, r2 + q * 6, none⟩ = some (.int .i64 op) ∧ W'.cell? ⟨p2, r2 + q * 6 + 1, none⟩ = some (.string (ofL x.maj)) ∧ W'.cell? ⟨p2, r2 + q * 6 + 2, none⟩ = some (.string (ofL x.min)) ∧ W'.cell? ⟨p2, r2 + q * 6 + 3, none⟩ = some (.string (ofL x.pat)) ∧ W'.cell? ⟨p2, r2 + q * 6 + 4, none⟩ = some (.slice a3 m1 k3) ∧ W'.cell? ⟨p2, r2 + q * 6 + 5, none⟩ = some (.slice a4 m2 k4)) (go_keep) ((first
            | (go_at_call 31; refine SE.out.mono ?_; rintro e9 W3 ⟨rfl, b9⟩; have B3 := hide (BD.out.trans (b9.mono BD.out.size)); obtain ⟨x0, x1, x2, x3, x4, x5, y0, y1, y2, y3, y4, y5⟩ := HCC.out _ B3.out; obtain ⟨x6, y6⟩ := HCS.out _ B3.out; clear b9)
            | fail))
          all_goals
            clear SE c0' c1' c2' c3' c4' c5' e0' e1' e2' e3' e4' e5' x0 x1 x2 x3 x4 x5 y0 y1 y2 y3 y4 y5
            go_wp2_with fail
            go_roundw
            case rel => exact ⟨q + 1, by omega, by go_num, B3⟩
            case measure => simp [intOf]; omega
        · have hql' : ¬ (q : Int) < (m : Int) := by omega
          go_wp2_with fail
          go_roundw
          case rel => exact ⟨i + 1, by omega, by go_num, HW⟩
          case measure => simp [intOf]; omega
    · have hlt' : ¬ (i : Int) < (n : Int) := by omega
      go_wp2_with fail
      go_ret
      exact ⟨rfl, HW.out⟩

end Go.Proofs.YtpdlgiioahjhiaaGreat

namespace Go.Proofs.YtpdlgiioahjhiaaGreat
open Go.RowKit Go.Shelf
set_option linter.unusedVariables false


theorem finR9 {R : Ending → World → Prop} (tmps : Array Value) (W : World) (B : Nat) (v e p : Value) (hv : ∃ a n c, v = .slice a n c) (h1 : tmps.getD 2 undef = v) (h2 : tmps.getD 3 undef = .pointer (some ⟨B, 0, none⟩)) (e1 : W.heap[B]? = some (.cells #[e, p] 25 (0, 0)))
    (hR : R (.returned (.tuple #[v, .agg #[e, p]])) W) : bodyPost Tryz.prog Tryz.f9 R .ret { tmps := tmps, defers := [] } W := by
  obtain ⟨a, n, c, rfl⟩ := hv
  have r0 := cell_at 0 e1 rfl
  have r1 := cell_at 1 e1 rfl
  rw [Array.getD_eq_getD_getElem?] at h1 h2
  refine ⟨rfl, _, ?_, hR⟩
  simp [results, Tryz.results9, go_sem, h1, h2, r0, r1]
  try rfl

set_option maxRecDepth 100000 in
set_option maxHeartbeats 4000000 in
theorem RParse9_any (s : ByteArray) (w : World) : Calls Tryz.prog 9 #[.string s] w (NPost (nParse s.data.toList) w) := by
  have P1 := hide (fun W => nparse_any s W)
  unfold P30 at P1
  unfold NPost
  generalize nParse s.data.toList = R at *
  obtain ⟨re, ra, l⟩ := R
  dsimp only at *
  have n0 := World.alloc_heap_new w (.cells #[.int .i64 0, .int .i64 0] 25)
  have b0 := hide ((Below.refl _ w).alloc (Nat.le_refl _) (.cells #[.int .i64 0, .int .i64 0] 25))
  go_enter Tryz.func9, Tryz.ntmps9
  go_wp2_with fail
  generalize w.alloc _ = W0 at *
  have hl0 := (Array.getElem?_eq_some_iff.1 n0).1
  have hl9 : w.heap.size < W0.heap.size := hl0
  refine (P1.out _).mono ?_
  rintro e w1 ⟨v, rfl, hS, b1⟩
  obtain ⟨a1, k1, rfl, _⟩ := id hS.at_
  have N1 := (b1.block _ hl0).trans n0
  have f0 := one_free 0 N1
  have f1 := one_free 1 N1
  have c0 : w1.cell? ⟨w.heap.size, 0, none⟩ = some (.int .i64 0) := cell_at 0 N1 rfl
  have c1 : w1.cell? ⟨w.heap.size, 1, none⟩ = some (.int .i64 0) := cell_at 1 N1 rfl
  have HN := hide N1
  have HS := hide hS
  have HB := hide (b0.out.trans (b1.mono b0.out.size))
  clear P1 hS b1 n0 N1 hl0 b0
  dsimp only
  go_wp2_with fail
  have e9 : ((w1.setCell ⟨w.heap.size, 0, none⟩ (.int .i64 re)).setCell ⟨w.heap.size, 1, none⟩ (.int .i64 ra)).heap[w.heap.size]? = some (.cells #[.int .i64 re, .int .i64 ra] 25 (0, 0)) := set_lies 1 (.int .i64 ra) (set_lies 0 (.int .i64 re) HN.out)
  refine finR9 _ _ w.heap.size (.slice a1 l.length k1) (.int .i64 re) (.int .i64 ra) ⟨_, _, _, rfl⟩ rfl rfl e9 ?_
  have hs2 : SetsAt ((w1.setCell ⟨w.heap.size, 0, none⟩ (.int .i64 re)).setCell ⟨w.heap.size, 1, none⟩ (.int .i64 ra)) (.slice a1 l.length k1) l := (HS.out.keep ((keep_turn (A := fun b => W0.heap.size ≤ b) (Turn.set w.heap.size 0 w1 _) (fun b hb => by omega)).trans (keep_turn (A := fun b => W0.heap.size ≤ b) (Turn.set w.heap.size 1 _ _) (fun b hb => by omega)))).at_
  exact ⟨_, rfl, hs2, (HB.out.setCell (p := ⟨w.heap.size, 0, none⟩) (Nat.le_refl _) _).setCell (p := ⟨w.heap.size, 1, none⟩) (Nat.le_refl _) _⟩

set_option maxRecDepth 100000 in
set_option maxHeartbeats 4000000 in
theorem reads_walk (s : ByteArray) (w : World) : Calls Tryz.prog 3 #[.string s] w fun e w' => e = .returned (.bool true) ∧ Below w.heap.size w w' := by
  have P1 := hide (fun W => NParse_any s W)
  have P2 := hide (fun W => RParse9_any s W)
  have VA := hide (fun W => ValidR_any s W)
  have HSH := hide (parse_shorts s.data.toList)
  have AW := hide awake8_any
  unfold NPost at P1 P2
  generalize nParse s.data.toList = R at *
  obtain ⟨re, ra, l⟩ := R
  dsimp only at *
  go_enter Tryz.func3, Tryz.ntmps3
  go_wp2_with fail
  refine (P1.out _).mono ?_
  rintro e w1 ⟨v1, rfl, hv1, b1⟩
  obtain ⟨a1, k1, rfl, _⟩ := id hv1
  have n1 := hide (World.alloc_heap_new w1 (.cells #[.int .i64 re, .int .i64 ra] 25))
  have bb := (Below.refl _ w1).alloc (Nat.le_refl _) (.cells #[.int .i64 re, .int .i64 ra] 25)
  have B1 := hide (b1.trans (bb.mono b1.size))
  have H1 := hide (hv1.below bb)
  clear P1 hv1 bb b1
  dsimp only
  go_wp2_with fail
  generalize w1.alloc _ = W1 at *
  generalize w1.heap.size = X1 at *
  refine (P2.out _).mono ?_
  rintro e w2 ⟨v2, rfl, hv2, b2⟩
  obtain ⟨a2, k2, rfl, _⟩ := id hv2
  have n2 := hide (World.alloc_heap_new w2 (.cells #[.int .i64 re, .int .i64 ra] 25))
  have bb := (Below.refl _ w2).alloc (Nat.le_refl _) (.cells #[.int .i64 re, .int .i64 ra] 25)
  have B21 := b2.trans (bb.mono b2.size)
  have B2 := hide (B1.out.trans (B21.mono B1.out.size))
  have H2 := hide (hv2.below bb)
  have H12 := hide (H1.out.below B21)
  have F2 : Hid ((w2.alloc (.cells #[.int .i64 re, .int .i64 ra] 25)).heap[X1]? = some (.cells #[.int .i64 re, .int .i64 ra] 25 (0, 0))) := (B21.block _ (Array.getElem?_eq_some_iff.1 n1.out).1).trans n1.out
  clear P2 hv2 bb b2 B21 n1 B1 H1
  have f0 : (w2.alloc (.cells #[.int .i64 re, .int .i64 ra] 25)).cell? ⟨X1, 0, none⟩ = some (.int .i64 re) := cell_at 0 F2.out rfl
  have f1 : (w2.alloc (.cells #[.int .i64 re, .int .i64 ra] 25)).cell? ⟨X1, 1, none⟩ = some (.int .i64 ra) := cell_at 1 F2.out rfl
  have g0 : (w2.alloc (.cells #[.int .i64 re, .int .i64 ra] 25)).cell? ⟨w2.heap.size, 0, none⟩ = some (.int .i64 re) := cell_at 0 n2.out rfl
  have g1 : (w2.alloc (.cells #[.int .i64 re, .int .i64 ra] 25)).cell? ⟨w2.heap.size, 1, none⟩ = some (.int .i64 ra) := cell_at 1 n2.out rfl
  dsimp only
  go_wp2_with fail
  generalize w2.alloc _ = W2 at *
  generalize w2.heap.size = X3 at *
  have SE := hide (SetsR_eq _ _ l _ (H12.out.below (drew_below _ W2)) (H2.out.below (drew_below _ W2)) HSH.out)
  have FW3 : Hid (W2.drew.heap[X1]? = some (.cells #[.int .i64 re, .int .i64 ra] 25 (0, 0))) := drew_heap F2.out
  have GW3 : Hid (W2.drew.heap[X3]? = some (.cells #[.int .i64 re, .int .i64 ra] 25 (0, 0))) := drew_heap n2.out
  have BW3 := hide (B2.out.trans (drew_below w.heap.size W2))
  clear H12 H2 F2 n2
  go_region_held3 (fun W' => W'.cell? ⟨X1, 0, none⟩ = some (.int .i64 re) ∧ W'.cell? ⟨X1, 1, none⟩ = some (.int .i64 ra) ∧ W'.cell? ⟨X3, 0, none⟩ = some (.int .i64 re) ∧ W'.cell? ⟨X3, 1, none⟩ = some (.int .i64 ra)) (go_keep) ((first
      | (go_at_call 12
         refine (AW.out _).mono ?_
         rintro e v6 ⟨rfl, bb⟩
         have Fv6 : Hid (v6.heap[X1]? = some (.cells #[.int .i64 re, .int .i64 ra] 25 (0, 0))) := (bb.block _ (Array.getElem?_eq_some_iff.1 Fv5.out).1).trans Fv5.out
         have Gv6 : Hid (v6.heap[X3]? = some (.cells #[.int .i64 re, .int .i64 ra] 25 (0, 0))) := (bb.block _ (Array.getElem?_eq_some_iff.1 Gv5.out).1).trans Gv5.out
         have Bv6 := hide (Bv5.out.trans (bb.mono Bv5.out.size))
         clear bb
         have f0 : v6.cell? ⟨X1, 0, none⟩ = some (.int .i64 re) := cell_at 0 Fv6.out rfl
         have f1 : v6.cell? ⟨X1, 1, none⟩ = some (.int .i64 ra) := cell_at 1 Fv6.out rfl
         have g0 : v6.cell? ⟨X3, 0, none⟩ = some (.int .i64 re) := cell_at 0 Gv6.out rfl
         have g1 : v6.cell? ⟨X3, 1, none⟩ = some (.int .i64 ra) := cell_at 1 Gv6.out rfl)
      | (go_at_call 11
         refine (VA.out _).mono ?_
         rintro e v5 ⟨rfl, bb⟩
         have Fv5 : Hid (v5.heap[X1]? = some (.cells #[.int .i64 re, .int .i64 ra] 25 (0, 0))) := (bb.block _ (Array.getElem?_eq_some_iff.1 Fv4.out).1).trans Fv4.out
         have Gv5 : Hid (v5.heap[X3]? = some (.cells #[.int .i64 re, .int .i64 ra] 25 (0, 0))) := (bb.block _ (Array.getElem?_eq_some_iff.1 Gv4.out).1).trans Gv4.out
         have Bv5 := hide (Bv4.out.trans (bb.mono Bv4.out.size))
         clear bb
         have f0 : v5.cell? ⟨X1, 0, none⟩ = some (.int .i64 re) := cell_at 0 Fv5.out rfl
         have f1 : v5.cell? ⟨X1, 1, none⟩ = some (.int .i64 ra) := cell_at 1 Fv5.out rfl
         have g0 : v5.cell? ⟨X3, 0, none⟩ = some (.int .i64 re) := cell_at 0 Gv5.out rfl
         have g1 : v5.cell? ⟨X3, 1, none⟩ = some (.int .i64 ra) := cell_at 1 Gv5.out rfl)
      | (go_at_call 10
         refine (SE.out).mono ?_
         rintro e v4 ⟨rfl, bb⟩
         have Fv4 : Hid (v4.heap[X1]? = some (.cells #[.int .i64 re, .int .i64 ra] 25 (0, 0))) := (bb.block _ (Array.getElem?_eq_some_iff.1 FW3.out).1).trans FW3.out
         have Gv4 : Hid (v4.heap[X3]? = some (.cells #[.int .i64 re, .int .i64 ra] 25 (0, 0))) := (bb.block _ (Array.getElem?_eq_some_iff.1 GW3.out).1).trans GW3.out
         have Bv4 := hide (BW3.out.trans (bb.mono BW3.out.size))
         clear bb
         have f0 : v4.cell? ⟨X1, 0, none⟩ = some (.int .i64 re) := cell_at 0 Fv4.out rfl
         have f1 : v4.cell? ⟨X1, 1, none⟩ = some (.int .i64 ra) := cell_at 1 Fv4.out rfl
         have g0 : v4.cell? ⟨X3, 0, none⟩ = some (.int .i64 re) := cell_at 0 Gv4.out rfl
         have g1 : v4.cell? ⟨X3, 1, none⟩ = some (.int .i64 ra) := cell_at 1 Gv4.out rfl)
      | fail))

  try dsimp only
  go_wp2_with fail
  go_ret
  exact ⟨rfl, Bv6.out⟩

end Go.Proofs.YtpdlgiioahjhiaaGreat
