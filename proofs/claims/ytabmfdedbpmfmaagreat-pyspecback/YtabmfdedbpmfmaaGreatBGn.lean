/-
  Walks: what is written of clauses. · A loop over an iterator whose items lie in memory: the iterator pays a condition on the item and the world, the round is given it; what the round keeps may hang on the world behind the round ahead. · Clauses as cells.
-/
import Derived.Deep.Cut
import Derived.Great.BuildSlice
import Derived.Test.YtabmfdedbpmfmaaGreatBGl
import Derived.Test.YtabmfdedbpmfmaaGreatBQb
import Derived.Test.YtabmfdedbpmfmaaGreatBHq
import Derived.RangeFuncNested
import Derived.RangeFuncBound
import Derived.RangeFuncCalls
import Derived.RangeFuncLeaves
import Derived.Test.YtabmfdedbpmfmaaGreatBGd
namespace Go.Proofs.YtabmfdedbpmfmaaGreat
open Go.RowKit Go.Shelf
set_option linter.unusedVariables false

abbrev Tri := List UInt8 × List UInt8 × Bool
def wrT (q : Tri) : List UInt8 := q.1 ++ q.2.1 ++ dotsL q.2.2
def joinT (qs : List Tri) : List UInt8 := Lib.join (qs.map wrT) [44]
def triC (c : Cl) : Tri := (sgn c.k, c.t, c.st)
def TriAt (W : World) (v : Value) (qs : List Tri) : Prop :=
  ∃ a cap, v = .slice a qs.length cap ∧ ∀ i (h : i < qs.length), ∃ b o, a = some ⟨b, o, none⟩ ∧ b < W.heap.size ∧
    W.cell? ⟨b, o + i * 3, none⟩ = some (.string (ofL qs[i].1)) ∧ W.cell? ⟨b, o + i * 3 + 1, none⟩ = some (.string (ofL qs[i].2.1)) ∧ W.cell? ⟨b, o + i * 3 + 2, none⟩ = some (.bool qs[i].2.2)
def SmallT (qs : List Tri) : Prop := qs.length ≤ 2000000 ∧ ∀ q ∈ qs, q.1.length ≤ 10000000 ∧ q.2.1.length ≤ 10000000
theorem TriAt.below {W W' : World} {v : Value} {qs : List Tri} (h : TriAt W v qs) (hb : Below W.heap.size W W') : TriAt W' v qs := by
  obtain ⟨a, cap, rfl, hc⟩ := h
  refine ⟨a, cap, rfl, fun i hi => ?_⟩
  obtain ⟨b, o, ha, hlt, h1, h2, h3⟩ := hc i hi
  exact ⟨b, o, ha, Nat.lt_of_lt_of_le hlt hb.size, (hb.cell hlt).trans h1, (hb.cell hlt).trans h2, (hb.cell hlt).trans h3⟩
theorem PyAt.tri {W : World} {v : Value} {cs : List Cl} (h : PyAt W v cs) : TriAt W v (cs.map triC) := by
  obtain ⟨a, c, rfl, h0 | ⟨g, rfl, hg, hc⟩⟩ := h
  · subst h0
    exact ⟨a, c, rfl, fun i h => by cases h⟩
  · refine ⟨_, c, by rw [List.length_map], fun i hi => ⟨g, 0, rfl, hg, ?_⟩⟩
    have := clause_at (W := W) (b := g) cs 0 (fun j u hj => by rw [Nat.zero_add]; exact hc j u hj) i (by simpa using hi)
    simpa [triC] using this
theorem ofL_app (a b : List UInt8) : ofL a ++ ofL b = ofL (a ++ b) := by
  apply ba_ext
  rw [ByteArray.data_append, Array.toList_append, ofL_data, ofL_data, ofL_data]
theorem add_run (a b c : ByteArray) (h : a ++ b = c) (hs : a.size + b.size ≤ 9000000000000000000) : Op.stringOp .add a b = pure (.string c) := by
  unfold Op.stringOp
  have hm : IntKind.i64.max = 9223372036854775807 := rfl
  dsimp only
  rw [if_neg (by rw [hm]; omega), h]
theorem wrT_len (q : Tri) : (wrT q).length ≤ q.1.length + q.2.1.length + 2 := by
  unfold wrT dotsL
  rw [List.length_append, List.length_append]
  split <;> simp
theorem join_le (N : Nat) : ∀ ts : List (List UInt8), (∀ t ∈ ts, t.length ≤ N) → (Lib.join ts [44]).length ≤ ts.length * (N + 1)
  | [], _ => by simp [Lib.join, List.intercalate]
  | [t], h => by
    have := h t (by simp)
    simp [Lib.join, List.intercalate]
    omega
  | t :: u :: r, h => by
    have ih := join_le N (u :: r) (fun x hx => h x (by simp [hx]))
    have := h t (by simp)
    unfold Lib.join at ih ⊢
    simp only [List.intercalate] at ih ⊢
    rw [List.intersperse_cons_cons, List.flatten_cons, List.flatten_cons]
    simp only [List.length_append, List.length_cons, List.length_nil, Nat.succ_mul] at ih ⊢
    omega
theorem joinT_le {qs : List Tri} (h : SmallT qs) : (joinT qs).length ≤ 2000000 * 20000003 := by
  have h1 := join_le 20000002 (qs.map wrT) (fun t ht => by
    obtain ⟨q, hq, rfl⟩ := List.mem_map.1 ht
    have := wrT_len q
    have := h.2 q hq
    omega)
  rw [List.length_map] at h1
  exact Nat.le_trans h1 (Nat.mul_le_mul_right _ h.1)
theorem JoinC_any (v : Value) (ts : List (List UInt8)) (w : World) (hv : Txt w v ts) (hc : Cap v) (hn : ts.length ≤ 140737488355328) (hl : (Lib.join ts [44]).length ≤ 140737488355328) :
    Calls Tryz.prog 66 #[v, .string ⟨#[44]⟩] w fun e w' => e = .returned (.string (ofL (Lib.join ts [44]))) ∧ Below w.heap.size w w' := by
  obtain ⟨a, cap, rfl, h⟩ := id hv
  have hcap := hc _ _ _ rfl
  by_cases hn0 : ts = []
  · subst hn0
    refine (Tryz.strings_Join_none a cap ⟨#[44]⟩ w).mono ?_
    rintro e w' ⟨rfl, rfl⟩
    exact ⟨rfl, Below.refl _ _⟩
  · rcases h with h | ⟨b, off, rfl, hlt, hcell⟩
    · exact absurd h hn0
    · have hm : (ts.map ofL).map (·.data.toList) = ts := by
        rw [List.map_map]
        conv => rhs; rw [← List.map_id ts]
        refine List.map_congr_left fun t _ => ?_
        simp [ofL]
      have hj : (Lib.join ((ts.map ofL).map (·.data.toList)) (⟨#[44]⟩ : ByteArray).data.toList) = Lib.join ts [44] := by rw [hm]
      have := Tryz.strings_Join b off cap (ts.map ofL) ⟨#[44]⟩ w (by
        intro j x hj
        rw [List.getElem?_map] at hj
        cases hg : ts[j]? with
        | none => rw [hg] at hj; cases hj
        | some t =>
          rw [hg] at hj
          obtain ⟨hj1, hj2⟩ := List.getElem?_eq_some_iff.1 hg
          cases hj
          rw [hcell j hj1, hj2]) hlt (by rw [List.length_map]; exact hn) (by rw [List.length_map]; exact hcap) (by rw [hj]; exact hl)
      rw [List.length_map, hj] at this
      exact this

set_option maxRecDepth 100000 in
set_option maxHeartbeats 4000000 in
theorem write32_any (v : Value) (qs : List Tri) (w : World) (hv : TriAt w v qs) (hs : SmallT qs) :
    Calls Tryz.prog 32 #[v] w fun e w' => e = .returned (.string (ofL (joinT qs))) ∧ Below w.heap.size w w' := by
  obtain ⟨a, c, rfl, _⟩ := id hv
  have HV := hide hv
  have HS := hide hs
  have hn := hs.1
  clear hv hs
  obtain ⟨i0, hi0, hz0, hz1, hz2⟩ := info_parts Tryz.info9
  go_enter Tryz.func32, Tryz.ntmps32
  go_wp2_with fail
  go_loopw [3, 9] (fun y x wr => ∃ (i : Nat), i ≤ qs.length ∧ x = .int .i64 i ∧ Hid (wr.ownsRow w.heap.size 9 1 y i (valT ((qs.map wrT).take i))) ∧ Below w.heap.size w wr) (fun _ x _ => qs.length - (intOf x).toNat)
  case atStart => exact ⟨0, Nat.zero_le _, rfl, hide (World.ownsRow_nil _ _ _ _), Below.refl _ _⟩
  case round =>
    obtain ⟨i, hin, rfl, hO, hB⟩ := hrel
    by_cases hlt : i < qs.length
    · have hlt' : (i : Int) < (qs.length : Int) := by omega
      obtain ⟨_, _, he, hA⟩ := (HV.out.below hB)
      obtain ⟨g1, o1, ha, hg, p0, p1, p2⟩ := hA i hlt
      cases he
      subst ha
      have hsm := HS.out.2 qs[i] (List.getElem_mem hlt)
      have HT : Hid ((qs.map wrT).take (i + 1) = (qs.map wrT).take i ++ [wrT qs[i]]) := by
        show _ = _
        rw [List.take_succ_eq_append_getElem (by simpa using hlt)]
        simp
      clear hA
      generalize qs[i] = q at *
      obtain ⟨X0, X1, X2⟩ := q
      dsimp only at p0 p1 p2 hsm
      have s0 := ofL_size X0
      have s1 := ofL_size X1
      have ad1 := add_run (ofL X0) (ofL X1) (ofL (X0 ++ X1)) (ofL_app _ _) (by omega)
      have ad2 := add_run (ofL (X0 ++ X1)) ⟨#[46, 42]⟩ (ofL (X0 ++ X1 ++ [46, 42])) (ofL_app _ [46, 42]) (by rw [ofL_size, List.length_append]; show _ + 2 ≤ _; omega)
      have hBa := hide ((Below.refl _ wr).alloc (Nat.le_refl _) (.cells #[.string (ofL X0), .string (ofL X1), .bool X2] 32))
      have HO2 := hide (ownA_keep (A := fun _ => True) hO.out (keepA_below hBa.out) (fun _ _ => trivial))
      have HB2 := hide (hB.trans (hBa.out.mono hB.size))
      have hbase : w.heap.size ≤ (wr.alloc (.cells #[.string (ofL X0), .string (ofL X1), .bool X2] 32)).heap.size := HB2.out.size
      cases X2
      · go_wp2_with (at_builtin; refine wpList_append_own _ rfl _ _ 37 rfl w.heap.size 9 i0 (.string .empty) 1 16 Tryz.underlying37 hi0 hz0 hz1 hz2 rfl (by decide) _ _ _ rfl (HO2.out.alloc _) ⟨wr.heap.size + 1, 0, none⟩ 1 1 [.string (ofL (X0 ++ X1))] rfl rfl (by intro j u hj; match j, hj with | 0, hj => simp at hj; subst hj; simp [Addr.add]) (by intro u hu; simp at hu; subst hu; rfl) (by unfold maxLen; omega) (by omega) (by simp at hbase ⊢; omega) ?_; intro v' w3 hown' hgrow _; have HG3 := hide hgrow; have HO3 := hide hown'; clear hown' hgrow)
        have HO4 : Hid (w3.ownsRow w.heap.size 9 1 v' (i + 1) (valT ((qs.map wrT).take (i + 1)))) := by
          show World.ownsRow _ _ _ _ _ _ _
          rw [HT.out]
          have := HO3.out
          rw [show wrT (X0, X1, false) = (X0 ++ X1) by simp [wrT, dotsL]]
          simpa [valT] using this
        have HB4 := hide ((HB2.out.alloc hbase (.cells #[.string (ofL ((X0 ++ X1)))] 9)).trans (own_below (HO2.out.alloc _) (by simp at hbase ⊢; omega) HG3.out))
        go_roundw
        case rel => exact ⟨i + 1, by omega, by go_num, HO4, HB4.out⟩
        case measure => simp [intOf]; omega
      · go_wp2_with (at_builtin; refine wpList_append_own _ rfl _ _ 37 rfl w.heap.size 9 i0 (.string .empty) 1 16 Tryz.underlying37 hi0 hz0 hz1 hz2 rfl (by decide) _ _ _ rfl (HO2.out.alloc _) ⟨wr.heap.size + 1, 0, none⟩ 1 1 [.string (ofL (X0 ++ X1 ++ [46, 42]))] rfl rfl (by intro j u hj; match j, hj with | 0, hj => simp at hj; subst hj; simp [Addr.add]) (by intro u hu; simp at hu; subst hu; rfl) (by unfold maxLen; omega) (by omega) (by simp at hbase ⊢; omega) ?_; intro v' w3 hown' hgrow _; have HG3 := hide hgrow; have HO3 := hide hown'; clear hown' hgrow)
        have HO4 : Hid (w3.ownsRow w.heap.size 9 1 v' (i + 1) (valT ((qs.map wrT).take (i + 1)))) := by
          show World.ownsRow _ _ _ _ _ _ _
          rw [HT.out]
          have := HO3.out
          rw [show wrT (X0, X1, true) = (X0 ++ X1 ++ [46, 42]) by simp [wrT, dotsL]]
          simpa [valT] using this
        have HB4 := hide ((HB2.out.alloc hbase (.cells #[.string (ofL ((X0 ++ (X1 ++ [46, 42]))))] 9)).trans (own_below (HO2.out.alloc _) (by simp at hbase ⊢; omega) HG3.out))
        go_roundw
        case rel => exact ⟨i + 1, by omega, by go_num, HO4, HB4.out⟩
        case measure => simp [intOf]; omega
    · have hlt' : ¬ (i : Int) < (qs.length : Int) := by omega
      obtain rfl : i = qs.length := by omega
      have hO' := hO.out
      rw [List.take_of_length_le (by rw [List.length_map]; omega)] at hO'
      have hO2 : wr.ownsRow w.heap.size 9 1 u3 (qs.map wrT).length (valT (qs.map wrT)) := by rw [List.length_map]; exact hO'
      have JN := hide (JoinC_any u3 (qs.map wrT) wr (own_txt hO2) (cap_row hO2) (by rw [List.length_map]; omega) (by have := joinT_le HS.out; unfold joinT at this; omega))
      obtain ⟨ja, jn, jc, rfl⟩ : ∃ a n c, u3 = .slice a n c := by obtain ⟨a, c, h, _⟩ := own_txt hO2; exact ⟨_, _, _, h⟩
      clear hO' hO2 hO
      go_wp2_with fail
      refine (JN.out).mono ?_
      rintro e w4 ⟨rfl, b4⟩
      have HB4 := hide (hB.trans (b4.mono hB.size))
      clear b4
      go_wp2_with fail
      go_ret
      exact ⟨rfl, HB4.out⟩

end Go.Proofs.YtabmfdedbpmfmaaGreat

namespace Go.Proofs.YtabmfdedbpmfmaaGreat
open Go.RowKit Go.Shelf
set_option linter.unusedVariables false

def Book (l D : Nat) (r : Loop) (W : World) : Prop := W.heap[l]? = some (.loop r) ∧ W.heap[D]? = some (.deferred (some []))
theorem Book.grown {l D : Nat} {r : Loop} {A B : World} {row : Option Nat} (h : Book l D r A) (hg : A.grownBy B row) (hr : ∀ k, row = some k → ∃ o : Obj, A.heap[k]? = some o ∧ o.isWalk = true) : Book l D r B :=
  ⟨(grownBy_keeps hg hr h.1 rfl).trans h.1, (grownBy_keeps hg hr h.2 rfl).trans h.2⟩
theorem Book.keeps {l D n : Nat} {r : Loop} {A B : World} (h : Book l D r A) (hk : KeepsFrom n A B) (h1 : n ≤ l) (h2 : n ≤ D) : Book l D r B :=
  ⟨hk.same l _ h1 h.1 rfl, hk.same D _ h2 h.2 rfl⟩
theorem Book.turn {l D : Nat} {r : Loop} {A : World} (h : Book l D r A) (hne : l ≠ D) (r' : Loop) : Book l D r' (A.putObj l (.loop r')) :=
  ⟨World.putObj_heap_same (Array.getElem?_eq_some_iff.1 h.1).1, (World.putObj_heap_other (Ne.symm hne)).trans h.2⟩

def SeqC {α : Type} (F : Fence) (n : Nat) (P : Program) (g : Nat) (lb : Array Value) (encs : α → Array Value) (C : List α → α → World → World → Prop) (G : α → Prop) (Kp : World → World → World → Prop) (S Sp : List α → Prop) (w : World) : Prop :=
  ∀ (l : Nat) (J Jx : List α → World → Prop) (W : World), Below w.heap.size w W → AbidesFrom W.heap.size J → AbidesFrom W.heap.size Jx →
    (∀ pre x W0 W1, J pre W0 → J pre W1 → Below W0.heap.size W0 W1 → C pre x W0 W1 → YieldAt F (n - 1) P l (encs x) W1 fun e W' => (e = .returned (.bool true) ∧ G x ∧ J (pre ++ [x]) W' ∧ Kp W0 W1 W') ∨ (e = .returned (.bool false) ∧ Jx (pre ++ [x]) W')) →
    J [] W → CallsIn F n P g (#[.func (.yield l) #[] #[]] ++ lb) W fun e W' => (∃ v, e = .returned v) ∧ ((∃ xs, S xs ∧ J xs W') ∨ (∃ pre, Sp pre ∧ Jx pre W'))

theorem range_cond {F : Fence} {n : Nat} {P : Program} {α : Type} {g : Operand} {ps : Array Tmp} {assign body : Code} {Q : Exit → Act → World → Prop} {a : Act} {w : World}
    (hro : F.round = none) (h1 : 1 ≤ n) {gf : Nat} {lb : Array Value} (hg : a.eval g = .func (.func gf) #[] lb) (hF : F.fn gf) (eg : ∀ args w, (callFunc gf args).run P w = .ok (.enter gf args) w)
    {encs : α → Array Value} {C : List α → α → World → World → Prop} {G : α → Prop} {Kp : World → World → World → Prop} {S Sp : List α → Prop} {w0 : World} (hseq : SeqC F (n - 1) P gf lb encs C G Kp S Sp w0) (hw0 : Below w0.heap.size w0 w)
    (hKt : ∀ {Z A B D : World}, Kp Z A B → Kp Z B D → Kp Z A D) (hKb : ∀ (Z W : World) (l : Nat) (o o' : Obj), w.heap.size ≤ l → W.heap[l]? = some o → o.isCells = false → o.isWalk = false → Kp Z W (W.putObj l o'))
    (hps : ∀ x, (encs x).size = ps.size) (I : List α → World → Prop) (Ix : Code → List α → World → Prop) (hI : OwnFrom w.heap.size I) (hIx : ∀ c, OwnFrom w.heap.size (Ix c)) (h0 : I [] w) (hG : ∀ pre x W, I (pre ++ [x]) W → G x)
    (Ax : List α → α → World → Act → World → Prop) (hAx : ∀ pre x Z b, OwnFrom w.heap.size (fun (_ : Unit) W => Ax pre x Z b W))
    (hassign : ∀ (l : Nat) (pre : List α) (x : α) (W0 W : World) (K : Act → World → Prop), I pre W0 → I pre W → Below W0.heap.size W0 W → C pre x W0 W → (∀ b W', KeepsFrom w.heap.size W W' → Kp W0 W W' → I pre W' → Ax pre x W0 b W' → K b W') →
      assign.wpIn (F.inRound l) (n - 1 - 1) P (Exit.then K (fun _ _ _ => False)) ⟨(ps.zip (encs x)).foldl (fun t (p, v) => t.setIfInBounds p v) a.tmps, []⟩ W)
    (hbody : ∀ (l : Nat) (pre : List α) (x : α) (W0 : World) (b : Act) (W : World), w.heap.size ≤ l → (∃ r, W.heap[l]? = some (.loop r)) → I pre W → Ax pre x W0 b W → body.wpIn (F.inRound l) (n - 1 - 1) P (ownPostG w.heap.size (Kp W0) I Ix (pre ++ [x]) W) b W)
    (hdone : ∀ (D : Nat) (xs : List α) (W : World), w.heap.size ≤ D → S xs → I xs W → W.heap[D]? = some (.deferred (some [])) → Q .normal ⟨a.tmps, ⟨.collected D, #[]⟩ :: a.defers⟩ W)
    (hstop : ∀ (D : Nat) (c : Code) (pre : List α) (W : World), w.heap.size ≤ D → Sp pre → Ix c pre W → W.heap[D]? = some (.deferred (some [])) → c.wpIn F n P Q ⟨a.tmps, ⟨.collected D, #[]⟩ :: a.defers⟩ W) :
    (Code.rangeFunc g ps assign body).wpIn F n P Q a w := by
  refine wpIn_rangeFunc fun fn hfn => ?_
  rw [hro]
  -- the record in its states
  let R : LoopState → Option Code → Loop := fun st pe => ⟨st, pe, fn, a.tmps, ps, assign, body, w.heap.size⟩
  have hne : w.heap.size + 1 ≠ w.heap.size := by omega
  have hbk : Book (w.heap.size + 1) w.heap.size (R .ready none) ((w.alloc (.deferred (some []))).alloc (.loop (R .ready none))) :=
    ⟨by have := World.alloc_heap_new (w.alloc (.deferred (some []))) (.loop (R .ready none)); rwa [World.size_alloc] at this, (Below.heap_alloc _ _ _ (by simp)).trans (World.alloc_heap_new w _)⟩
  refine ⟨w.heap.size + 1, [⟨.collected w.heap.size, #[]⟩], ((w.alloc (.deferred (some []))).alloc (.loop (R .ready none))), ⟨.fn (.func gf) lb, #[.func (.yield (w.heap.size + 1)) #[] #[]]⟩, ((w.alloc (.deferred (some []))).alloc (.loop (R .ready none))), gf, #[.func (.yield (w.heap.size + 1)) #[] #[]] ++ lb, ((w.alloc (.deferred (some []))).alloc (.loop (R .ready none))), run_enterLoop_outer fn a.tmps ps assign body, ?_, ?_, ?_, fun _ => h1, ?_⟩
  · simp only [resolve, hg]
    simp [go_sem]
  · intro f hf
    simp [Target.leads] at hf
    subst hf
    exact hF
  · simp [invoke, go_sem, eg]
  have hsz : ((w.alloc (.deferred (some []))).alloc (.loop (R .ready none))).heap.size = w.heap.size + 2 := by simp
  have hst : Below w0.heap.size w0 ((w.alloc (.deferred (some []))).alloc (.loop (R .ready none))) := hw0.trans ((((Below.refl _ w).alloc (Nat.le_refl _) _).alloc (by simp) _).mono hw0.size)
  have hi0 : I [] ((w.alloc (.deferred (some []))).alloc (.loop (R .ready none))) := hI.alloc _ (hI.alloc _ h0)
  change CallsIn F (n - 1) P gf _ ((w.alloc (.deferred (some []))).alloc (.loop (R .ready none))) _
  generalize (w.alloc (.deferred (some []))).alloc (.loop (R .ready none)) = V at *
  have hrow : ∀ {A : World} {row : Option Nat}, (∀ r, row = some r → V.heap.size ≤ r ∧ ∃ o : Obj, A.heap[r]? = some o ∧ o.isWalk = true) → ∀ r, row = some r → w.heap.size ≤ r ∧ ∃ o : Obj, A.heap[r]? = some o ∧ o.isCells = false := by
    intro A row h r e
    obtain ⟨hr, o, ho, hw⟩ := h r e
    exact ⟨by omega, o, ho, Obj.not_cells_of_walk hw⟩
  refine (hseq (w.heap.size + 1) (fun pre W => I pre W ∧ Book (w.heap.size + 1) w.heap.size (R .ready none) W) (fun pre W => ∃ c, Ix c pre W ∧ Book (w.heap.size + 1) w.heap.size (R .done (some c)) W) V hst
    (fun s A B row h hgr hr => ⟨hI s A B row h.1 hgr (hrow hr), h.2.grown hgr (fun r e => (hr r e).2)⟩)
    (fun s A B row h hgr hr => by obtain ⟨c, hc, hb⟩ := h; exact ⟨c, hIx c s A B row hc hgr (hrow hr), hb.grown hgr (fun r e => (hr r e).2)⟩) ?round ⟨hi0, hbk⟩).mono ?after
  case after =>
    rintro e W ⟨⟨v, rfl⟩, ⟨xs, hS, hi, hb⟩ | ⟨pre, hS, c, hi, hb⟩⟩
    · exact ⟨none, _, run_endLoop (P := P) hb.1 (by simp [R]), hdone _ xs _ (Nat.le_refl _) hS (hI.putObj _ hi (by omega) hb.1 rfl) (hb.turn hne _).2⟩
    · exact ⟨some c, _, run_endLoop (P := P) hb.1 (by simp [R]), hstop _ c pre _ (Nat.le_refl _) hS ((hIx c).putObj _ hi (by omega) hb.1 rfl) (hb.turn hne _).2⟩
  case round =>
    rintro pre x W0 W ⟨hi9, _⟩ ⟨hi, hb⟩ hbl hc
    refine ⟨fn, _, assign, body, run_yield (P := P) (args := encs x) hb.1 (hps x), roundIn_of_wpIn hfn (hassign _ pre x W0 W _ hi9 hi hbl hc ?_)⟩
    intro b V1 hk1 hp1 hi1 ha1
    have hb1 := hb.keeps hk1 (Nat.le_succ _) (Nat.le_refl _)
    refine ⟨_, run_beginRound (P := P) hb1.1 rfl, ?_⟩
    have hb2 := hb1.turn hne { R .ready none with state := .busy }
    refine wpIn_mono (hbody _ pre x W0 b _ (Nat.le_succ _) ⟨_, hb2.1⟩ (hI.putObj _ hi1 (by omega) hb1.1 rfl) ((hAx pre x W0 b).putObj (s := ()) _ ha1 (by omega) hb1.1 rfl)) ?_
    have hp2 := hKb W0 V1 (w.heap.size + 1) (.loop (R .ready none)) (.loop { R .ready none with state := .busy }) (by omega) hb1.1 rfl rfl
    intro e b3 V3 hp
    cases e with
    | normal =>
      obtain ⟨hk3, hp3, hi3⟩ := hp
      have hb3 := hb2.keeps hk3 (Nat.le_succ _) (Nat.le_refl _)
      exact ⟨_, _, run_endRound (P := P) none hb3.1, .inl ⟨rfl, hG _ _ _ hi3, ⟨hI.putObj _ hi3 (by omega) hb3.1 rfl, hb3.turn hne _⟩, hKt hp1 (hKt (hKt hp2 hp3) (hKb _ _ _ _ _ (by omega) hb3.1 rfl rfl))⟩⟩
    | ret =>
      obtain ⟨hk3, hi3⟩ := hp
      have hb3 := hb2.keeps hk3 (Nat.le_succ _) (Nat.le_refl _)
      exact ⟨_, _, run_endRound (P := P) (some .ret) hb3.1, .inr ⟨rfl, .ret, (hIx _).putObj _ hi3 (by omega) hb3.1 rfl, hb3.turn hne _⟩⟩
    | exit id =>
      obtain ⟨hk3, hi3⟩ := hp
      have hb3 := hb2.keeps hk3 (Nat.le_succ _) (Nat.le_refl _)
      exact ⟨_, _, run_endRound (P := P) (some (.exit id)) hb3.1, .inr ⟨rfl, .exit id, (hIx _).putObj _ hi3 (by omega) hb3.1 rfl, hb3.turn hne _⟩⟩
    | goto t =>
      obtain ⟨hk3, hi3⟩ := hp
      have hb3 := hb2.keeps hk3 (Nat.le_succ _) (Nat.le_refl _)
      exact ⟨_, _, run_endRound (P := P) (some (.goto t)) hb3.1, .inr ⟨rfl, .goto t, (hIx _).putObj _ hi3 (by omega) hb3.1 rfl, hb3.turn hne _⟩⟩
    | panic ch => exact hp.elim
    | outgrown => exact hp.elim

end Go.Proofs.YtabmfdedbpmfmaaGreat

namespace Go.Proofs.YtabmfdedbpmfmaaGreat
open Go.RowKit Go.Shelf
set_option linter.unusedVariables false

theorem seen18v {W : World} {B : Nat} {t : TypeId} {a0 a1 a2 a3 a4 a5 a6 a7 a8 a9 a10 a11 a12 a13 a14 a15 a16 a17 : Value} (h : W.heap[B]? = some (.cells #[a0, a1, a2, a3, a4, a5, a6, a7, a8, a9, a10, a11, a12, a13, a14, a15, a16, a17] t (0, 0))) :
    W.cell? ⟨B, 0, none⟩ = some a0 ∧ W.cell? ⟨B, 1, none⟩ = some a1 ∧ W.cell? ⟨B, 2, none⟩ = some a2 ∧ W.cell? ⟨B, 3, none⟩ = some a3 ∧ W.cell? ⟨B, 4, none⟩ = some a4 ∧ W.cell? ⟨B, 5, none⟩ = some a5 ∧ W.cell? ⟨B, 6, none⟩ = some a6 ∧ W.cell? ⟨B, 7, none⟩ = some a7 ∧ W.cell? ⟨B, 8, none⟩ = some a8 ∧ W.cell? ⟨B, 9, none⟩ = some a9 ∧ W.cell? ⟨B, 10, none⟩ = some a10 ∧ W.cell? ⟨B, 11, none⟩ = some a11 ∧ W.cell? ⟨B, 12, none⟩ = some a12 ∧ W.cell? ⟨B, 13, none⟩ = some a13 ∧ W.cell? ⟨B, 14, none⟩ = some a14 ∧ W.cell? ⟨B, 15, none⟩ = some a15 ∧ W.cell? ⟨B, 16, none⟩ = some a16 ∧ W.cell? ⟨B, 17, none⟩ = some a17 ∧ W.frozen? ⟨B, 0, none⟩ = false ∧ W.frozen? ⟨B, 1, none⟩ = false ∧ W.frozen? ⟨B, 2, none⟩ = false ∧ W.frozen? ⟨B, 3, none⟩ = false ∧ W.frozen? ⟨B, 4, none⟩ = false ∧ W.frozen? ⟨B, 5, none⟩ = false ∧ W.frozen? ⟨B, 6, none⟩ = false ∧ W.frozen? ⟨B, 7, none⟩ = false ∧ W.frozen? ⟨B, 8, none⟩ = false ∧ W.frozen? ⟨B, 9, none⟩ = false ∧ W.frozen? ⟨B, 10, none⟩ = false ∧ W.frozen? ⟨B, 11, none⟩ = false ∧ W.frozen? ⟨B, 12, none⟩ = false ∧ W.frozen? ⟨B, 13, none⟩ = false ∧ W.frozen? ⟨B, 14, none⟩ = false ∧ W.frozen? ⟨B, 15, none⟩ = false ∧ W.frozen? ⟨B, 16, none⟩ = false ∧ W.frozen? ⟨B, 17, none⟩ = false :=
  ⟨cell_at 0 h rfl, cell_at 1 h rfl, cell_at 2 h rfl, cell_at 3 h rfl, cell_at 4 h rfl, cell_at 5 h rfl, cell_at 6 h rfl, cell_at 7 h rfl, cell_at 8 h rfl, cell_at 9 h rfl, cell_at 10 h rfl, cell_at 11 h rfl, cell_at 12 h rfl, cell_at 13 h rfl, cell_at 14 h rfl, cell_at 15 h rfl, cell_at 16 h rfl, cell_at 17 h rfl, one_free 0 h, one_free 1 h, one_free 2 h, one_free 3 h, one_free 4 h, one_free 5 h, one_free 6 h, one_free 7 h, one_free 8 h, one_free 9 h, one_free 10 h, one_free 11 h, one_free 12 h, one_free 13 h, one_free 14 h, one_free 15 h, one_free 16 h, one_free 17 h⟩

structure RC (w W : World) (r c : Array Value) : Prop where
  res : W.heap[w.heap.size]? = some (.cells r 61 (0, 0))
  top : W.heap[w.heap.size + 1]? = some (.cells c 61 (0, 0))
  bel : Below w.heap.size w W
theorem RC.lt {w W : World} {r c : Array Value} (h : RC w W r c) : w.heap.size + 1 < W.heap.size := (Array.getElem?_eq_some_iff.1 h.top).1
theorem RC.below {w W W' : World} {r c : Array Value} (h : RC w W r c) (hb : Below W.heap.size W W') : RC w W' r c :=
  ⟨(hb.block _ (by have := h.lt; omega)).trans h.res, (hb.block _ h.lt).trans h.top, h.bel.trans (hb.mono (by have := h.lt; omega))⟩
theorem RC.start (w : World) (a : Nat) : RC w ((w.alloc (.cells #[.string ⟨#[]⟩, .nilFunc, .nilFunc, .bool false, .string ⟨#[]⟩, .slice none 0 0, .int .u8 0, .string ⟨#[]⟩, .bool false, .string ⟨#[]⟩, .bool false, .string ⟨#[]⟩, .slice none 0 0, .string ⟨#[]⟩, .bool false, .int .i64 0, .int .i64 0, .int .i64 0] 61)).alloc (.cells #[.string ⟨#[]⟩, .nilFunc, .nilFunc, .bool false, .string ⟨#[]⟩, .slice none 0 0, .int .u8 0, .string ⟨#[]⟩, .bool false, .string ⟨#[]⟩, .bool false, .string ⟨#[]⟩, .slice none 0 0, .string ⟨#[]⟩, .bool false, .int .i64 (a : Int), .int .i64 0, .int .i64 0] 61)) #[.string ⟨#[]⟩, .nilFunc, .nilFunc, .bool false, .string ⟨#[]⟩, .slice none 0 0, .int .u8 0, .string ⟨#[]⟩, .bool false, .string ⟨#[]⟩, .bool false, .string ⟨#[]⟩, .slice none 0 0, .string ⟨#[]⟩, .bool false, .int .i64 0, .int .i64 0, .int .i64 0] #[.string ⟨#[]⟩, .nilFunc, .nilFunc, .bool false, .string ⟨#[]⟩, .slice none 0 0, .int .u8 0, .string ⟨#[]⟩, .bool false, .string ⟨#[]⟩, .bool false, .string ⟨#[]⟩, .slice none 0 0, .string ⟨#[]⟩, .bool false, .int .i64 (a : Int), .int .i64 0, .int .i64 0] := by
  obtain ⟨V, hV, h1, h2, h3, _⟩ := two_new w #[.string ⟨#[]⟩, .nilFunc, .nilFunc, .bool false, .string ⟨#[]⟩, .slice none 0 0, .int .u8 0, .string ⟨#[]⟩, .bool false, .string ⟨#[]⟩, .bool false, .string ⟨#[]⟩, .slice none 0 0, .string ⟨#[]⟩, .bool false, .int .i64 0, .int .i64 0, .int .i64 0] #[.string ⟨#[]⟩, .nilFunc, .nilFunc, .bool false, .string ⟨#[]⟩, .slice none 0 0, .int .u8 0, .string ⟨#[]⟩, .bool false, .string ⟨#[]⟩, .bool false, .string ⟨#[]⟩, .slice none 0 0, .string ⟨#[]⟩, .bool false, .int .i64 (a : Int), .int .i64 0, .int .i64 0] 61 61
  rw [hV]
  exact ⟨h1, h2, h3⟩
theorem RC.op6 {w W : World} {z0 z1 z2 z3 z4 z5 z6 z7 z8 z9 z10 z11 z12 z13 z14 z15 z16 z17 : Value} {r : Array Value} (h : RC w W r #[z0, z1, z2, z3, z4, z5, z6, z7, z8, z9, z10, z11, z12, z13, z14, z15, z16, z17]) (a0 a1 a2 a3 e er : Value) : ∃ W', W' = ((((((W.setCell ⟨w.heap.size + 1, 0, none⟩ a0).setCell ⟨w.heap.size + 1, 1, none⟩ a1).setCell ⟨w.heap.size + 1, 2, none⟩ a2).setCell ⟨w.heap.size + 1, 3, none⟩ a3).setCell ⟨w.heap.size + 1, 16, none⟩ e).setCell ⟨w.heap.size + 1, 17, none⟩ er) ∧ RC w W' r #[a0, a1, a2, a3, z4, z5, z6, z7, z8, z9, z10, z11, z12, z13, z14, z15, e, er] ∧ ∀ (u : Value) (ts : List (List UInt8)), Txt W u ts → FreshC (w.heap.size + 2) u → Txt W' u ts := by
  have h0 := h.top
  have h1 := putL_heap [a0, a1, a2, a3] W (w.heap.size + 1) 0 _ _ h0
  have t1 := putL_turn [a0, a1, a2, a3] W (w.heap.size + 1) 0
  have h2 := putL_heap [e, er] (putL W (w.heap.size + 1) 0 [a0, a1, a2, a3]) (w.heap.size + 1) 16 _ _ h1
  have t2 := putL_turn [e, er] (putL W (w.heap.size + 1) 0 [a0, a1, a2, a3]) (w.heap.size + 1) 16
  have hc : (fillA (fillA #[z0, z1, z2, z3, z4, z5, z6, z7, z8, z9, z10, z11, z12, z13, z14, z15, z16, z17] 0 [a0, a1, a2, a3]) 16 [e, er]) = #[a0, a1, a2, a3, z4, z5, z6, z7, z8, z9, z10, z11, z12, z13, z14, z15, e, er] := by simp [fillA]
  rw [hc] at h2
  have T := (t1.trans t2)
  refine ⟨(putL (putL W (w.heap.size + 1) 0 [a0, a1, a2, a3]) (w.heap.size + 1) 16 [e, er]), rfl, ⟨(T.block _ (by have := h.lt; omega) (by omega)).trans h.res, h2, h.bel.trans (T.below (by omega) h.bel.size)⟩, fun u ts h1 h2 => txt_youngC h1 h2 (fun j h3 h4 => T.block j h4 (by omega)) T.size⟩
theorem RC.as13 {w W : World} {z0 z1 z2 z3 z4 z5 z6 z7 z8 z9 z10 z11 z12 z13 z14 z15 z16 z17 : Value} {r : Array Value} (h : RC w W r #[z0, z1, z2, z3, z4, z5, z6, z7, z8, z9, z10, z11, z12, z13, z14, z15, z16, z17]) (b0 b1 b2 b3 b4 b5 b6 b7 b8 b9 b10 e er : Value) : ∃ W', W' = (((((((((((((W.setCell ⟨w.heap.size + 1, 4, none⟩ b0).setCell ⟨w.heap.size + 1, 5, none⟩ b1).setCell ⟨w.heap.size + 1, 6, none⟩ b2).setCell ⟨w.heap.size + 1, 7, none⟩ b3).setCell ⟨w.heap.size + 1, 8, none⟩ b4).setCell ⟨w.heap.size + 1, 9, none⟩ b5).setCell ⟨w.heap.size + 1, 10, none⟩ b6).setCell ⟨w.heap.size + 1, 11, none⟩ b7).setCell ⟨w.heap.size + 1, 12, none⟩ b8).setCell ⟨w.heap.size + 1, 13, none⟩ b9).setCell ⟨w.heap.size + 1, 14, none⟩ b10).setCell ⟨w.heap.size + 1, 16, none⟩ e).setCell ⟨w.heap.size + 1, 17, none⟩ er) ∧ RC w W' r #[z0, z1, z2, z3, b0, b1, b2, b3, b4, b5, b6, b7, b8, b9, b10, z15, e, er] ∧ ∀ (u : Value) (ts : List (List UInt8)), Txt W u ts → FreshC (w.heap.size + 2) u → Txt W' u ts := by
  have h0 := h.top
  have h1 := putL_heap [b0, b1, b2, b3, b4, b5, b6, b7, b8, b9, b10] W (w.heap.size + 1) 4 _ _ h0
  have t1 := putL_turn [b0, b1, b2, b3, b4, b5, b6, b7, b8, b9, b10] W (w.heap.size + 1) 4
  have h2 := putL_heap [e, er] (putL W (w.heap.size + 1) 4 [b0, b1, b2, b3, b4, b5, b6, b7, b8, b9, b10]) (w.heap.size + 1) 16 _ _ h1
  have t2 := putL_turn [e, er] (putL W (w.heap.size + 1) 4 [b0, b1, b2, b3, b4, b5, b6, b7, b8, b9, b10]) (w.heap.size + 1) 16
  have hc : (fillA (fillA #[z0, z1, z2, z3, z4, z5, z6, z7, z8, z9, z10, z11, z12, z13, z14, z15, z16, z17] 4 [b0, b1, b2, b3, b4, b5, b6, b7, b8, b9, b10]) 16 [e, er]) = #[z0, z1, z2, z3, b0, b1, b2, b3, b4, b5, b6, b7, b8, b9, b10, z15, e, er] := by simp [fillA]
  rw [hc] at h2
  have T := (t1.trans t2)
  refine ⟨(putL (putL W (w.heap.size + 1) 4 [b0, b1, b2, b3, b4, b5, b6, b7, b8, b9, b10]) (w.heap.size + 1) 16 [e, er]), rfl, ⟨(T.block _ (by have := h.lt; omega) (by omega)).trans h.res, h2, h.bel.trans (T.below (by omega) h.bel.size)⟩, fun u ts h1 h2 => txt_youngC h1 h2 (fun j h3 h4 => T.block j h4 (by omega)) T.size⟩
theorem RC.en2 {w W : World} {z0 z1 z2 z3 z4 z5 z6 z7 z8 z9 z10 z11 z12 z13 z14 z15 z16 z17 : Value} {r : Array Value} (h : RC w W r #[z0, z1, z2, z3, z4, z5, z6, z7, z8, z9, z10, z11, z12, z13, z14, z15, z16, z17]) (e er : Value) : ∃ W', W' = ((W.setCell ⟨w.heap.size + 1, 16, none⟩ e).setCell ⟨w.heap.size + 1, 17, none⟩ er) ∧ RC w W' r #[z0, z1, z2, z3, z4, z5, z6, z7, z8, z9, z10, z11, z12, z13, z14, z15, e, er] ∧ ∀ (u : Value) (ts : List (List UInt8)), Txt W u ts → FreshC (w.heap.size + 2) u → Txt W' u ts := by
  have h0 := h.top
  have h1 := putL_heap [e, er] W (w.heap.size + 1) 16 _ _ h0
  have t1 := putL_turn [e, er] W (w.heap.size + 1) 16
  have hc : (fillA #[z0, z1, z2, z3, z4, z5, z6, z7, z8, z9, z10, z11, z12, z13, z14, z15, z16, z17] 16 [e, er]) = #[z0, z1, z2, z3, z4, z5, z6, z7, z8, z9, z10, z11, z12, z13, z14, z15, e, er] := by simp [fillA]
  rw [hc] at h1
  have T := t1
  refine ⟨(putL W (w.heap.size + 1) 16 [e, er]), rfl, ⟨(T.block _ (by have := h.lt; omega) (by omega)).trans h.res, h1, h.bel.trans (T.below (by omega) h.bel.size)⟩, fun u ts h1 h2 => txt_youngC h1 h2 (fun j h3 h4 => T.block j h4 (by omega)) T.size⟩
def clV (c : Cl) (vr vl : Value) : Array Value := #[.string (ofL (sgn c.k)), fnV (rdF c.k), fnV (hoF c.k), .bool (opB c.k), .string (ofL c.x.ep), vr, .int .u8 c.x.c, .string (ofL c.x.n), .bool c.x.b, .string (ofL c.x.m), .bool c.x.d, .string (ofL c.x.k), vl, .string (ofL c.t), .bool c.st, .int .i64 (c.s : Int), .int .i64 (c.e : Int), .int .i64 c.er]
def ClPost (c : Cl) (w : World) (e : Ending) (w' : World) : Prop :=
  Below w.heap.size w w' ∧ ∃ vr vl, e = .returned (.agg (clV c vr vl)) ∧ Txt w' vr c.x.rel ∧ Txt w' vl c.x.loc ∧ FreshC w.heap.size vr ∧ FreshC w.heap.size vl
theorem clpost_no {w W : World} (a p : Nat) (er : Int) (hb : Below w.heap.size w W) : ClPost ⟨8, pep0, [], false, a, p, er⟩ w (.returned (.agg #[.string ⟨#[]⟩, .nilFunc, .nilFunc, .bool false, .string ⟨#[]⟩, .slice none 0 0, .int .u8 0, .string ⟨#[]⟩, .bool false, .string ⟨#[]⟩, .bool false, .string ⟨#[]⟩, .slice none 0 0, .string ⟨#[]⟩, .bool false, .int .i64 (a : Int), .int .i64 (p : Int), .int .i64 er])) W :=
  ⟨hb, .slice none 0 0, .slice none 0 0, rfl, ⟨none, 0, rfl, .inl rfl⟩, ⟨none, 0, rfl, .inl rfl⟩, fun a i c e => (by cases e), fun a i c e => (by cases e)⟩
theorem clpost_bad {w W : World} (j a p : Nat) (er : Int) (h1 : fnV (rdF j) = .func (.func (rdF j)) #[] #[]) (h2 : fnV (hoF j) = .func (.func (hoF j)) #[] #[]) (hb : Below w.heap.size w W) : ClPost ⟨j, pep0, [], false, a, p, er⟩ w (.returned (.agg #[.string (ofL (sgn j)), .func (.func (rdF j)) #[] #[], .func (.func (hoF j)) #[] #[], .bool (opB j), .string ⟨#[]⟩, .slice none 0 0, .int .u8 0, .string ⟨#[]⟩, .bool false, .string ⟨#[]⟩, .bool false, .string ⟨#[]⟩, .slice none 0 0, .string ⟨#[]⟩, .bool false, .int .i64 (a : Int), .int .i64 (p : Int), .int .i64 er])) W :=
  ⟨hb, .slice none 0 0, .slice none 0 0, by unfold clV; rw [h1, h2]; rfl, ⟨none, 0, rfl, .inl rfl⟩, ⟨none, 0, rfl, .inl rfl⟩, fun a i c e => (by cases e), fun a i c e => (by cases e)⟩
theorem clpost_ok {w W : World} (j a p : Nat) (er : Int) (x : PepL) (t : List UInt8) (st : Bool) (vr vl : Value) (h1 : fnV (rdF j) = .func (.func (rdF j)) #[] #[]) (h2 : fnV (hoF j) = .func (.func (hoF j)) #[] #[]) (hb : Below w.heap.size w W) (t1 : Txt W vr x.rel) (t2 : Txt W vl x.loc) (f1 : FreshC w.heap.size vr) (f2 : FreshC w.heap.size vl) :
    ClPost ⟨j, x, t, st, a, p, er⟩ w (.returned (.agg #[.string (ofL (sgn j)), .func (.func (rdF j)) #[] #[], .func (.func (hoF j)) #[] #[], .bool (opB j), .string (ofL x.ep), vr, .int .u8 x.c, .string (ofL x.n), .bool x.b, .string (ofL x.m), .bool x.d, .string (ofL x.k), vl, .string (ofL t), .bool st, .int .i64 (a : Int), .int .i64 (p : Int), .int .i64 er])) W :=
  ⟨hb, vr, vl, by unfold clV; rw [h1, h2], t1, t2, f1, f2⟩
theorem size61 : (Tryz.prog.info? 61).map (·.size) = some 18 := by kernel_rfl
theorem fin88 {R : Ending → World → Prop} (tmps : Array Value) (W : World) (B : Nat) (cs : Array Value) (hcs : cs.size = 18)
    (h2 : tmps.getD 4 undef = .pointer (some ⟨B, 0, none⟩)) (e1 : W.heap[B]? = some (.cells cs 61 (0, 0))) (hR : R (.returned (.agg cs)) W) :
    bodyPost Tryz.prog Tryz.f88 R .ret { tmps := tmps, defers := [] } W :=
  bodyPost_ret (results_cell_row rfl _ _ B 61 _ (0, 0) _ h2 e1 Tryz.underlying61 rfl (by rw [size61, hcs])) rfl hR

end Go.Proofs.YtabmfdedbpmfmaaGreat
