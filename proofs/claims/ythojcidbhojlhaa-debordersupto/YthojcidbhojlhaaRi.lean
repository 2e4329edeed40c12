/-
  Walks: the document's Sort.
-/
import Derived.Test.YthojcidbhojlhaaRh
import Derived.Test.YthojcidbhojlhaaRc
import Derived.Laws.AppendOwnNone
namespace Go.Proofs.Ythojcidbhojlhaa
open Go.RowKit Go.Shelf
set_option linter.unusedVariables false

def strs (S : List (List UInt8)) : List Value := S.map fun t => .string (ofL t)
theorem strs_len (S : List (List UInt8)) : (strs S).length = S.length := List.length_map _
theorem strs_app (S R : List (List UInt8)) : strs (S ++ R) = strs S ++ strs R := List.map_append
theorem strs_one (R : List (List UInt8)) : ∀ u ∈ strs R, u.oneCell' = true := by
  intro u hu
  obtain ⟨t, _, rfl⟩ := List.mem_map.1 hu
  rfl
theorem own_below {W W' : World} {B n : Nat} {v : Value} {xs : List Value} (h : W.ownsRow B 9 1 v n xs) (hb : Below W.heap.size W W') : W'.ownsRow B 9 1 v n xs :=
  h.kept (row := none) ⟨hb.os, hb.tape, hb.output, hb.size, fun k hk _ => hb.block k hk⟩ (by
    cases v.ownBlock with
    | none => exact .inl rfl
    | some k => exact .inr (by simp))
theorem own_base {W : World} {B B' n : Nat} {v : Value} {xs : List Value} (h : W.ownsRow B' 9 1 v n xs) (hb : B ≤ B') : W.ownsRow B 9 1 v n xs := by
  refine ⟨h.1, ?_⟩
  rcases h.2 with h | ⟨g, cap, cur, h1, h2, h3⟩
  · exact .inl h
  · exact .inr ⟨g, cap, cur, h1, Nat.le_trans hb h2, h3⟩
theorem own_shape {W : World} {B n : Nat} {v : Value} {xs : List Value} (h : W.ownsRow B 9 1 v n xs) : ∃ ao cv, v = .slice ao n cv := by
  rcases h.2 with ⟨h, h0⟩ | ⟨g, cap, cur, h1, _⟩
  · exact ⟨none, 0, by rw [h, h0]⟩
  · exact ⟨_, _, h1⟩
theorem own_block (ao : Option Addr) (n cv : Nat) : (Value.slice ao n cv).ownBlock = ao.map (·.block) := by cases ao <;> rfl
theorem cell_new (w : World) (e : TypeId) (x : List UInt8) : ∀ j u, (strs [x])[j]? = some u → (w.alloc (.cells #[.string (ofL x)] e)).cell? ((⟨w.heap.size, 0, none⟩ : Addr).add j) = some u := by
  intro j u hj
  have h := fun j => World.cell?_alloc_mark w #[.string (ofL x)] e (0, 0) j
  match j, hj with
  | 0, hj => simp [strs] at hj; subst hj; exact h 0

theorem app_any {w : World} {ops : Array Oper} {rest : List Oper} {o : Oper} {a : Act} {Q : Exit → Act → World → Prop} (hgd : o.guard = none) (s x : Operand)
    (ho : o.op = .call { callee := .builtin .append, args := #[s, x], argTypes := #[33, 33] })
    (B : Nat) (ao : Option Addr) (n cv : Nat) (S : List (List UInt8)) (hs : a.eval s = .slice ao n cv) (hown : w.ownsRow B 9 1 (.slice ao n cv) n (strs S))
    (bo : Option Addr) (m c : Nat) (R : List (List UInt8)) (hx : a.eval x = .slice bo m c) (hR : R.length = m)
    (hnone : bo = none → m = 0 ∧ c = 0) (hc : ∀ ad, bo = some ad → ∀ j u, (strs R)[j]? = some u → w.cell? (ad.add j) = some u) (hb : n + m ≤ 4194304) (hB : B ≤ w.heap.size)
    (h : ∀ ao' cv' w', w'.ownsRow B 9 1 (.slice ao' (n + m) cv') (n + m) (strs (S ++ R)) → w.grownBy w' (ao.map (·.block)) → wpList Try.prog ops Q rest (a.put o.dst (.slice ao' (n + m) cv')) w') :
    wpList Try.prog ops Q (o :: rest) a w := by
  obtain ⟨i0, hi, hz0, hz2, hz1⟩ := inf9
  cases bo with
  | none =>
    obtain ⟨rfl, rfl⟩ := hnone rfl
    obtain rfl : R = [] := List.length_eq_zero_iff.1 hR
    refine wpList_append_own_none hgd s x 33 ho B 9 i0 1 Try.underlying33 hi _ n _ hs hown hx ?_
    have := h ao cv w (by simpa using hown) (World.grownBy.refl _ _)
    simpa using this
  | some ad =>
    refine wpList_append_own _ hgd s x 33 ho B 9 i0 (.string ⟨#[]⟩) 1 16 Try.underlying33 hi hz0 hz1 hz2 rfl (by decide) _ n _ hs hown ad m c (strs R) hx (by rw [strs_len, hR]; omega) (hc ad rfl) (strs_one R) (by unfold maxLen; omega) (by omega) hB ?_
    intro v' w' h1 h2 _
    obtain ⟨ao', cv', rfl⟩ := own_shape h1
    rw [own_block] at h2
    exact h ao' cv' w' (by rw [strs_app]; exact h1) h2

theorem ins_at (S : List (List UInt8)) (x : List UInt8) (j : Nat) (hs : Srt cmpT S) (hi : ∀ q (h : q < S.length), j ≤ q → 0 < cmpT S[q] x) (lo : ∀ q (h : q < S.length), q + 1 = j → cmpT S[q] x ≤ 0) (hj : j ≤ S.length) :
    mrg cmpT S [x] = S.take j ++ ([x] ++ S.drop j) := by
  have h := mrg_one_r cmpT x (S.take j) (S.drop j) (fun l hl => by
    obtain ⟨q, hq, rfl⟩ := List.getElem_of_mem hl
    rw [List.length_take] at hq
    rw [List.getElem_take]
    have hl : cmpT (S[q]'(by omega)) x ≤ 0 := by
      by_cases e : q + 1 = j
      · exact lo q (by omega) e
      · have h1 := List.pairwise_iff_getElem.1 hs q (j - 1) (by omega) (by omega) (by omega)
        exact cmpT_cmp3.trans _ _ _ h1 (lo (j - 1) (by omega) (by omega))
    rw [cmpT_cmp3.anti (S[q]'(by omega)) x]; omega) (fun l hl => by
    obtain ⟨q, hq, rfl⟩ := List.getElem_of_mem hl
    rw [List.length_drop] at hq
    rw [List.getElem_drop]
    have h1 := hi (j + q) (by omega) (by omega)
    rw [cmpT_cmp3.anti (S[j + q]'(by omega)) x]; omega)
  rw [List.take_append_drop] at h
  rw [h]
  rfl

theorem own_lt {W : World} {B n cv : Nat} {ao : Option Addr} {xs : List Value} (h : W.ownsRow B 9 1 (.slice ao n cv) n xs) : ∀ k, ao.map (·.block) = some k → B ≤ k ∧ k < W.heap.size := fun k hk => h.lt k (by rw [own_block]; exact hk)
theorem keep3 {w1 w2 w3 : World} {B g i cv j cv1 : Nat} {ao1 : Option Addr} {xs xs1 : List Value} {o : Obj} (OQ : w1.ownsRow B 9 1 (.slice (some ⟨g, 0, none⟩) i cv) i xs) (grow1 : w1.grownBy w2 none) (own1 : w2.ownsRow w1.heap.size 9 1 (.slice ao1 j cv1) j xs1) (grow2 : (w2.alloc o).grownBy w3 (ao1.map (·.block))) :
    w3.ownsRow B 9 1 (.slice (some ⟨g, 0, none⟩) i cv) i xs := by
  have hg := (OQ.lt g rfl).2
  refine ((OQ.kept grow1 (.inr (fun h => by cases h))).alloc o).kept grow2 (.inr (fun h => ?_))
  have := (own_lt own1 g h.symm).1
  omega
theorem drop_cells {W : World} {B g i cv j : Nat} {S : List (List UInt8)} (h : W.ownsRow B 9 1 (.slice (some ⟨g, 0, none⟩) i cv) i (strs S)) {q : Nat} {u : Value} (hu : (strs (S.drop j))[q]? = some u) : W.cell? ((⟨g, j, none⟩ : Addr).add q) = some u := by
  have h1 := h.cells (g := g) rfl (j + q) u (by rw [strs, List.map_drop, List.getElem?_drop] at hu; exact hu)
  have e1 : (⟨g, 0, none⟩ : Addr).add (j + q) = ⟨g, j + q, none⟩ := by unfold Addr.add; split <;> simp_all
  have e2 : (⟨g, j, none⟩ : Addr).add q = ⟨g, j + q, none⟩ := by unfold Addr.add; split <;> simp_all
  rw [e2, ← e1]; exact h1
theorem drop_none {W : World} {ad : Addr} {j : Nat} {S : List (List UInt8)} (hj : S.length ≤ j) {q : Nat} {u : Value} (hu : (strs (S.drop j))[q]? = some u) : W.cell? (ad.add q) = some u := by
  rw [List.drop_eq_nil_of_le hj] at hu
  simp [strs] at hu
theorem done3 {w wo w1 w2 w3 w4 : World} {o : Obj} {ao1 ao2 : Option Addr} {j cv1 cv2 : Nat} {xs1 xs2 : List Value} (hB : Below w.heap.size w wo) (BQ1 : Below wo.heap.size wo w1) (grow1 : w1.grownBy w2 none) (own1 : w2.ownsRow w1.heap.size 9 1 (.slice ao1 j cv1) j xs1) (grow2 : (w2.alloc o).grownBy w3 (ao1.map (·.block))) (own2 : w3.ownsRow w1.heap.size 9 1 (.slice ao2 (j + 1) cv2) (j + 1) xs2) (grow3 : w3.grownBy w4 (ao2.map (·.block))) :
    Below w.heap.size w w4 := by
  have s1 := BQ1.size
  have s2 := grow1.size
  have s3 := grow2.size
  simp at s3
  have b2 := BQ1.grown grow1 s1 (fun k h => by cases h)
  have b3 := (b2.alloc (by omega) o).grown grow2 (by simp; omega) (fun k h => Nat.le_trans s1 (own_lt own1 k h).1)
  have b4 := b3.grown grow3 (by omega) (fun k h => Nat.le_trans s1 (own_lt own2 k h).1)
  exact hB.trans (b4.mono hB.size)


set_option maxRecDepth 100000 in
set_option maxHeartbeats 4000000 in
theorem RSort_any (a : Option Addr) (cap n : Nat) (ts : List (List UInt8)) (hlen : ts.length = n) (w : World) (hT : Txt w (.slice a n cap) ts) (hn : n ≤ 1048576) :
    Calls Try.prog 26 #[.slice a n cap] w fun e w' => ∃ b cv, e = .returned (.slice b n cv) ∧ Txt w' (.slice b n cv) (srt cmpT ts) ∧ Below w.heap.size w w' := by
  have HT := hide hT
  have HL := hide hlen
  clear hT hlen
  go_enter Try.func26, Try.ntmps26
  go_wp2_with fail
  go_loopw [3, 4] (fun v x wr => ∃ (i : Nat) (ao : Option Addr) (cv : Nat), i ≤ n ∧ x = .int .i64 i ∧ v = .slice ao i cv ∧ Hid (wr.ownsRow w.heap.size 9 1 (.slice ao i cv) i (strs (srt cmpT (ts.take i)))) ∧ Below w.heap.size w wr) (fun _ x _ => n - (intOf x).toNat)
  case atStart => exact ⟨0, none, 0, by omega, rfl, rfl, World.ownsRow_nil _ _ _ _, Below.refl _ _⟩
  case round =>
    rename World => wo
    obtain ⟨i, ao, cv, hi, rfl, rfl, HO, hB⟩ := hrel
    by_cases hlt : i < n
    · have hlt' : (i : Int) < (n : Int) := by omega
      have i1 : i < ts.length := by rw [HL.out]; exact hlt
      obtain ⟨b, off, rfl, lb, dc⟩ := txt_at HT.out (by omega)
      have hbx : Hid (∀ W, Below wo.heap.size wo W → W.cell? ⟨b, off + i, none⟩ = some (.string (ofL ts[i]))) := fun W h => by
        rw [← dc i i1]; exact cell_kept ((h.block b (Nat.lt_of_lt_of_le lb hB.size)).trans (hB.block b lb))
      clear dc lb
      have HI : Hid (mrg cmpT (srt cmpT (ts.take i)) [ts[i]] = srt cmpT (ts.take (i + 1))) := by
        show _ = _
        rw [List.take_succ_eq_append_getElem i1, srt_snoc cmpT_cmp3]
      have HSS : Hid (Srt cmpT (srt cmpT (ts.take i))) := srt_srt cmpT_cmp3 _
      have HSL : Hid ((srt cmpT (ts.take i)).length = i) := by show _ = _; rw [srt_length, List.length_take]; omega
      obtain ⟨S, HS⟩ : ∃ S, Hid (S = srt cmpT (ts.take i)) := ⟨srt cmpT (ts.take i), show _ = _ from rfl⟩
      rw [← HS.out] at HI HSS HSL HO
      obtain ⟨x, HX⟩ : ∃ x, Hid (x = ts[i]) := ⟨ts[i], show ts[i] = ts[i] from rfl⟩
      rw [← HX.out] at hbx HI
      clear HS HX i1
      rcases HO.out.2 with ⟨hv, h0⟩ | ⟨g, cap', cur, hv, hg1, hg2, hg3, hg4, hg5, hg6⟩
      · cases hv
        obtain rfl : S = [] := List.length_eq_zero_iff.1 HSL.out
        have HE : Hid (strs (srt cmpT (ts.take (0 + 1))) = strs ([] ++ [x])) := by
          show _ = _
          rw [← HI.out, mrg_nil_l]; rfl
        have hs0 := hB.size
        go_wp2_with fail
        go_loopw [5] (fun y wq => y = .int .i64 ((0 : Nat) : Int) ∧ Below wo.heap.size wo wq) (fun y _ => (intOf y).toNat)
        case atStart => exact ⟨by first | rfl | go_num, Below.refl _ _⟩
        case round =>
          obtain ⟨rfl, BQ⟩ := hrel
          have BQ1 : Below wo.heap.size wo wr.drew := BQ.trans (below_drewN _ wr 1)
          go_wp2_with fail
          go_big_region
          generalize wr.drew = w1 at *
          clear BQ
          have hs1 := BQ1.size
          go_wp2_with (first
            | (at_builtin; refine app_any rfl (.tmp 32) (.tmp 35) rfl w1.heap.size none 0 0 [] rfl (World.ownsRow_nil _ _ _ _) none 0 0 [] rfl rfl (fun _ => ⟨rfl, rfl⟩) (fun ad h => by cases h) (by omega) (Nat.le_refl _) ?_; intro ao1 cv1 w2 own1 grow1; simp only [Nat.zero_add, List.nil_append] at own1; have cX2 := hbx.out _ (BQ1.grown grow1 hs1 (fun k h => by cases h)); rw [Nat.add_zero] at cX2)
            | (at_builtin; refine app_any rfl (.tmp 37) (.tmp 42) rfl w1.heap.size ao1 0 cv1 [] rfl (own1.alloc _) (some ⟨w2.heap.size, 0, none⟩) 1 1 [x] rfl rfl (fun h => by cases h) (fun ad h => by cases h; exact cell_new _ _ _) (by omega) (by have := grow1.size; simp; omega) ?_; intro ao2 cv2 w3 own2 grow2)
            | (at_builtin; refine app_any rfl (.tmp 44) (.tmp 47) rfl w1.heap.size ao2 (0 + 1) cv2 ([] ++ [x]) rfl own2 none 0 0 [] rfl rfl (fun _ => ⟨rfl, rfl⟩) (fun ad h => by cases h) (by omega) (by have := grow1.size; have h3 := grow2.size; simp at h3; omega) ?_; intro ao3 cv3 w4 own3 grow3)
            | fail)
          go_roundw
          case rel =>
            refine ⟨0 + 1, ao3, cv3, by omega, by first | rfl | go_num, by first | rfl | simp, ?_, done3 hB BQ1 grow1 own1 grow2 own2 grow3⟩
            rw [HE.out]
            rw [List.append_nil] at own3
            exact own_base own3 (by omega)
          case measure => simp [intOf]; omega
      · cases hv
        have HCS : Hid (∀ W, Below wo.heap.size wo W → ∀ q (h : q < S.length), W.cell? ⟨g, q, none⟩ = some (.string (ofL S[q]))) := fun W h q hq => by
          have := (own_below HO.out h).cells (g := g) rfl q (.string (ofL S[q])) (by rw [strs, List.getElem?_map, List.getElem?_eq_getElem hq]; rfl)
          have e : (⟨g, 0, none⟩ : Addr).add q = ⟨g, q, none⟩ := by unfold Addr.add; split <;> simp_all
          rwa [e] at this
        clear hg2 hg4 hg5 hg6
        go_wp2_with fail
        go_loopw [5] (fun y wq => ∃ j : Nat, j ≤ i ∧ y = .int .i64 j ∧ Below wo.heap.size wo wq ∧ Hid (∀ q (h : q < S.length), j ≤ q → 0 < cmpT S[q] x)) (fun y _ => (intOf y).toNat)
        case atStart => exact ⟨i, by omega, by first | rfl | go_num, Below.refl _ _, fun q h hq => by have := HSL.out; omega⟩
        case round =>
          obtain ⟨j, hj, rfl, BQ, HQ⟩ := hrel
          by_cases hj0 : 0 < j
          · have hj0' : (0 : Int) < (j : Int) := by omega
            have eJ : (j : Int) - 1 = ((j - 1 : Nat) : Int) := by omega
            have wJ : IntKind.i64.wrap ((j - 1 : Nat) : Int) = ((j - 1 : Nat) : Int) := by rw [IntKind.wrap_i64]; omega
            have lJ : ((j - 1 : Nat) : Int) < (i : Int) := by omega
            have jl : j - 1 < S.length := by rw [HSL.out]; omega
            have HCJ := hide (fun W h => HCS.out W h (j - 1) jl)
            have cJ := HCJ.out _ BQ
            have cX := hbx.out _ BQ
            have BD : Below wo.heap.size wo wr.drew := BQ.trans (below_drewN _ wr 1)
            have CM := hide (fun W => RCompare_any (ofL S[j - 1]) (ofL x) W)
            have eC : cmpT (ofL S[j - 1]).data.toList (ofL x).data.toList = cmpT S[j - 1] x := by rw [ofL_data, ofL_data]
            rw [eC] at CM
            have HQ1 : Hid (0 < cmpT S[j - 1] x → ∀ q (h : q < S.length), j - 1 ≤ q → 0 < cmpT S[q] x) := fun h q hq hle => by
              by_cases e : q = j - 1
              · subst e; exact h
              · exact HQ.out q hq (by omega)
            have HQ2 : Hid (cmpT S[j - 1] x ≤ 0 → ∀ q (h : q < S.length), q + 1 = j → cmpT S[q] x ≤ 0) := fun h q hq hle => by
              obtain rfl : q = j - 1 := by omega
              exact h
            have hjj : j - 1 + 1 = j := by omega
            generalize cmpT S[j - 1] x = d at *
            generalize ofL S[j - 1] = sj at *
            generalize hJ1 : j - 1 = J1 at *
            have HJ1 := hide hJ1
            clear hJ1 eC jl
            by_cases hd : 0 < d
            · have hdb : decide (d > 0) = true := by simpa using hd
              go_wp2_with fail
              go_region_held3 (fun w' => w'.cell? ⟨g, J1, none⟩ = some (.string sj) ∧ w'.cell? ⟨b, off + i, none⟩ = some (.string (ofL x)))
                (go_keep)
                ((first
                  | (go_at_call 21; refine (CM.out _).mono ?_; rintro e w1 ⟨rfl, b1⟩; have BQ1 := BD.trans (b1.mono BD.size); have g0 := HCJ.out _ BQ1; have g1 := hbx.out _ BQ1)
                  | fail))
              go_wp2_with fail
              go_roundw
              case rel => exact ⟨J1, by omega, by first | rfl | go_num | (congr 1; omega), BQ1, HQ1.out hd⟩
              case measure => simp [intOf]; omega
            · have hdb : decide (d > 0) = false := by simpa using hd
              have HLO := hide (HQ2.out (by omega))
              go_wp2_with fail
              go_region_held3 (fun w' => w'.cell? ⟨g, J1, none⟩ = some (.string sj) ∧ w'.cell? ⟨b, off + i, none⟩ = some (.string (ofL x)))
                (go_keep)
                ((first
                  | (go_at_call 21; refine (CM.out _).mono ?_; rintro e w1 ⟨rfl, b1⟩; have BQ1 := BD.trans (b1.mono BD.size); have g0 := HCJ.out _ BQ1; have g1 := hbx.out _ BQ1)
                  | fail))
              clear cJ cX g0 g1 BD BQ hd hdb
              have lS := HSL.out
              have OQ := hide (own_below HO.out BQ1)
              have gl : g < w1.heap.size := (OQ.out.lt g rfl).2
              have hs1 := BQ1.size
              have hs0 := hB.size
              have H1 : Hid (∀ ad, some (⟨g, 0, none⟩ : Addr) = some ad → ∀ q u, (strs (S.take j))[q]? = some u → w1.cell? (ad.add q) = some u) := by
                intro ad h q u hu
                cases h
                refine OQ.out.cells (g := g) rfl q u ?_
                rw [strs, List.getElem?_map, List.getElem?_take] at hu
                split at hu
                · rw [strs, List.getElem?_map]; exact hu
                · simp at hu
              clear hg1
              have hic := hg3
              clear hg3
              by_cases hcv : j = cv
              · subst hcv
                go_wp2_with (first
                  | (at_builtin; refine app_any rfl (.tmp 32) (.tmp 35) rfl w1.heap.size none 0 0 [] rfl (World.ownsRow_nil _ _ _ _) (some ⟨g, 0, none⟩) j j (S.take j) rfl (by rw [List.length_take]; omega) (fun h => by cases h) H1.out (by omega) (Nat.le_refl _) ?_; intro ao1 cv1 w2 own1 grow1; simp only [Nat.zero_add, List.nil_append] at own1; have cX2 := hbx.out _ (BQ1.grown grow1 hs1 (fun k h => by cases h)))
                  | (at_builtin; refine app_any rfl (.tmp 37) (.tmp 42) rfl w1.heap.size ao1 j cv1 (S.take j) rfl (own1.alloc _) (some ⟨w2.heap.size, 0, none⟩) 1 1 [x] rfl rfl (fun h => by cases h) (fun ad h => by cases h; exact cell_new _ _ _) (by omega) (by have := grow1.size; simp; omega) ?_; intro ao2 cv2 w3 own2 grow2)
                  | (at_builtin; refine app_any rfl (.tmp 44) (.tmp 47) rfl w1.heap.size ao2 (j + 1) cv2 (S.take j ++ [x]) rfl own2 (some ⟨g, 0, none⟩) 0 0 (S.drop j) rfl (by rw [List.length_drop]; omega) (fun h => by cases h) (fun ad h q u hu => by cases h; exact drop_none (by omega) hu) (by omega) (by have := grow1.size; have h3 := grow2.size; simp at h3; omega) ?_; intro ao3 cv3 w4 own3 grow3)
                  | fail)
                go_roundw
                case rel =>
                  · (refine ⟨i + 1, ao3, cv3, by omega, by first | rfl | go_num, by first | rfl | (congr 1; omega), ?_, done3 hB BQ1 grow1 own1 grow2 own2 grow3⟩
                     rw [show j + 1 + 0 = i + 1 by omega, List.append_assoc, ← ins_at S x j HSS.out HQ.out HLO.out (by omega), HI.out] at own3
                     exact own_base own3 (by omega))
                case measure => simp [intOf]; omega
              · have hcv' : ¬ cv = j := fun e => hcv e.symm
                go_wp2_with (first
                  | (at_builtin; refine app_any rfl (.tmp 32) (.tmp 35) rfl w1.heap.size none 0 0 [] rfl (World.ownsRow_nil _ _ _ _) (some ⟨g, 0, none⟩) j cv (S.take j) rfl (by rw [List.length_take]; omega) (fun h => by cases h) H1.out (by omega) (Nat.le_refl _) ?_; intro ao1 cv1 w2 own1 grow1; simp only [Nat.zero_add, List.nil_append] at own1; have cX2 := hbx.out _ (BQ1.grown grow1 hs1 (fun k h => by cases h)))
                  | (at_builtin; refine app_any rfl (.tmp 37) (.tmp 42) rfl w1.heap.size ao1 j cv1 (S.take j) rfl (own1.alloc _) (some ⟨w2.heap.size, 0, none⟩) 1 1 [x] rfl rfl (fun h => by cases h) (fun ad h => by cases h; exact cell_new _ _ _) (by omega) (by have := grow1.size; simp; omega) ?_; intro ao2 cv2 w3 own2 grow2)
                  | (at_builtin; refine app_any rfl (.tmp 44) (.tmp 47) rfl w1.heap.size ao2 (j + 1) cv2 (S.take j ++ [x]) rfl own2 (some ⟨g, j, none⟩) (i - j) (cv - j) (S.drop j) rfl (by rw [List.length_drop]; omega) (fun h => by cases h) (fun ad h q u hu => by cases h; exact drop_cells (keep3 OQ.out grow1 own1 grow2) hu) (by omega) (by have := grow1.size; have h3 := grow2.size; simp at h3; omega) ?_; intro ao3 cv3 w4 own3 grow3)
                  | fail)
                go_roundw
                case rel =>
                  · (refine ⟨i + 1, ao3, cv3, by omega, by first | rfl | go_num, by rw [show j + 1 + (i - j) = i + 1 by omega], ?_, done3 hB BQ1 grow1 own1 grow2 own2 grow3⟩
                     rw [show j + 1 + (i - j) = i + 1 by omega, List.append_assoc, ← ins_at S x j HSS.out HQ.out HLO.out (by omega), HI.out] at own3
                     exact own_base own3 (by omega))
                case measure => simp [intOf]; omega
          · have hj0' : ¬ (0 : Int) < (j : Int) := by omega
            have hjd : decide ((j : Int) > 0) = false := by simp; omega
            have HLO : Hid (∀ q (h : q < S.length), q + 1 = j → cmpT S[q] x ≤ 0) := fun q h e => by omega
            have BQ1 : Below wo.heap.size wo wr.drew := BQ.trans (below_drewN _ wr 1)
            go_wp2_with fail
            go_big_region
            generalize wr.drew = w1 at *
            clear BQ
            have lS := HSL.out
            have OQ := hide (own_below HO.out BQ1)
            have gl : g < w1.heap.size := (OQ.out.lt g rfl).2
            have hs1 := BQ1.size
            have hs0 := hB.size
            have H1 : Hid (∀ ad, some (⟨g, 0, none⟩ : Addr) = some ad → ∀ q u, (strs (S.take j))[q]? = some u → w1.cell? (ad.add q) = some u) := by
              intro ad h q u hu
              cases h
              refine OQ.out.cells (g := g) rfl q u ?_
              rw [strs, List.getElem?_map, List.getElem?_take] at hu
              split at hu
              · rw [strs, List.getElem?_map]; exact hu
              · simp at hu
            clear hg1
            have hic := hg3
            clear hg3
            by_cases hcv : j = cv
            · subst hcv
              go_wp2_with (first
                | (at_builtin; refine app_any rfl (.tmp 32) (.tmp 35) rfl w1.heap.size none 0 0 [] rfl (World.ownsRow_nil _ _ _ _) (some ⟨g, 0, none⟩) j j (S.take j) rfl (by rw [List.length_take]; omega) (fun h => by cases h) H1.out (by omega) (Nat.le_refl _) ?_; intro ao1 cv1 w2 own1 grow1; simp only [Nat.zero_add, List.nil_append] at own1; have cX2 := hbx.out _ (BQ1.grown grow1 hs1 (fun k h => by cases h)))
                | (at_builtin; refine app_any rfl (.tmp 37) (.tmp 42) rfl w1.heap.size ao1 j cv1 (S.take j) rfl (own1.alloc _) (some ⟨w2.heap.size, 0, none⟩) 1 1 [x] rfl rfl (fun h => by cases h) (fun ad h => by cases h; exact cell_new _ _ _) (by omega) (by have := grow1.size; simp; omega) ?_; intro ao2 cv2 w3 own2 grow2)
                | (at_builtin; refine app_any rfl (.tmp 44) (.tmp 47) rfl w1.heap.size ao2 (j + 1) cv2 (S.take j ++ [x]) rfl own2 (some ⟨g, 0, none⟩) 0 0 (S.drop j) rfl (by rw [List.length_drop]; omega) (fun h => by cases h) (fun ad h q u hu => by cases h; exact drop_none (by omega) hu) (by omega) (by have := grow1.size; have h3 := grow2.size; simp at h3; omega) ?_; intro ao3 cv3 w4 own3 grow3)
                | fail)
              go_roundw
              case rel =>
                · (refine ⟨i + 1, ao3, cv3, by omega, by first | rfl | go_num, by first | rfl | (congr 1; omega), ?_, done3 hB BQ1 grow1 own1 grow2 own2 grow3⟩
                   rw [show j + 1 + 0 = i + 1 by omega, List.append_assoc, ← ins_at S x j HSS.out HQ.out HLO.out (by omega), HI.out] at own3
                   exact own_base own3 (by omega))
              case measure => simp [intOf]; omega
            · have hcv' : ¬ cv = j := fun e => hcv e.symm
              go_wp2_with (first
                | (at_builtin; refine app_any rfl (.tmp 32) (.tmp 35) rfl w1.heap.size none 0 0 [] rfl (World.ownsRow_nil _ _ _ _) (some ⟨g, 0, none⟩) j cv (S.take j) rfl (by rw [List.length_take]; omega) (fun h => by cases h) H1.out (by omega) (Nat.le_refl _) ?_; intro ao1 cv1 w2 own1 grow1; simp only [Nat.zero_add, List.nil_append] at own1; have cX2 := hbx.out _ (BQ1.grown grow1 hs1 (fun k h => by cases h)))
                | (at_builtin; refine app_any rfl (.tmp 37) (.tmp 42) rfl w1.heap.size ao1 j cv1 (S.take j) rfl (own1.alloc _) (some ⟨w2.heap.size, 0, none⟩) 1 1 [x] rfl rfl (fun h => by cases h) (fun ad h => by cases h; exact cell_new _ _ _) (by omega) (by have := grow1.size; simp; omega) ?_; intro ao2 cv2 w3 own2 grow2)
                | (at_builtin; refine app_any rfl (.tmp 44) (.tmp 47) rfl w1.heap.size ao2 (j + 1) cv2 (S.take j ++ [x]) rfl own2 (some ⟨g, j, none⟩) (i - j) (cv - j) (S.drop j) rfl (by rw [List.length_drop]; omega) (fun h => by cases h) (fun ad h q u hu => by cases h; exact drop_cells (keep3 OQ.out grow1 own1 grow2) hu) (by omega) (by have := grow1.size; have h3 := grow2.size; simp at h3; omega) ?_; intro ao3 cv3 w4 own3 grow3)
                | fail)
              go_roundw
              case rel =>
                · (refine ⟨i + 1, ao3, cv3, by omega, by first | rfl | go_num, by rw [show j + 1 + (i - j) = i + 1 by omega], ?_, done3 hB BQ1 grow1 own1 grow2 own2 grow3⟩
                   rw [show j + 1 + (i - j) = i + 1 by omega, List.append_assoc, ← ins_at S x j HSS.out HQ.out HLO.out (by omega), HI.out] at own3
                   exact own_base own3 (by omega))
              case measure => simp [intOf]; omega
    · have hlt' : ¬ (i : Int) < (n : Int) := by omega
      obtain rfl : i = n := by omega
      have e : ts.take i = ts := List.take_of_length_le (by rw [HL.out]; exact Nat.le_refl _)
      rw [e] at HO
      have HF : Hid (Txt wo (.slice ao i cv) (srt cmpT ts)) := by
        have hl : (srt cmpT ts).length = i := by rw [srt_length]; exact HL.out
        refine ⟨ao, cv, by rw [hl], ?_⟩
        rcases HO.out.2 with ⟨hv, h0⟩ | ⟨g, cap', cur, hv, hg1, hg2, hg3, hg4, hg5, hg6⟩
        · exact .inl (List.length_eq_zero_iff.1 (by omega))
        · cases hv
          refine .inr ⟨g, 0, rfl, (Array.getElem?_eq_some_iff.1 hg2).1, fun q hq => ?_⟩
          have := HO.out.cells (g := g) rfl q (.string (ofL (srt cmpT ts)[q])) (by rw [strs, List.getElem?_map, List.getElem?_eq_getElem hq]; rfl)
          have e : (⟨g, 0, none⟩ : Addr).add q = ⟨g, 0 + q, none⟩ := by unfold Addr.add; split <;> simp_all
          rwa [e] at this
      clear e
      go_wp2_with fail
      go_ret
      exact ⟨ao, cv, rfl, HF.out, hB⟩

end Go.Proofs.Ythojcidbhojlhaa
