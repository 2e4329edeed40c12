/-
  Clauses that a call has made, in a row of its own: they stay as they are while nothing turns their blocks. · Walks: the iterator as a value; a clause alone. · What readClauses holds while it goes through the clauses. · A whole clause at an operation inside a fence.
-/
import Derived.Test.YtabmfdedbpmfmaaGreatBGl
import Derived.Test.YtabmfdedbpmfmaaGreatBHi
import Derived.Test.YtabmfdedbpmfmaaGreatBGn
import Derived.RangeFuncBox
import Derived.Test.YtabmfdedbpmfmaaGreatBHq
import Derived.Test.YtabmfdedbpmfmaaGreatBHh
import Derived.Great.BuildSlice
import Derived.Maps.OwnIn
import Derived.Test.YtabmfdedbpmfmaaGreatBQb
namespace Go.Proofs.YtabmfdedbpmfmaaGreat
open Go.RowKit Go.Shelf
set_option linter.unusedVariables false

variable {A A' : Nat → Prop}
def clL (x : It) : List Value := (clV x.1 x.2.1 x.2.2).toList
theorem clL_len (x : It) : (clL x).length = 18 := rfl
def TxC (A : Nat → Prop) (W : World) (x : It) : Prop := Txt W x.2.1 x.1.x.rel ∧ Txt W x.2.2 x.1.x.loc ∧ Aw A x.2.1 ∧ Aw A x.2.2
theorem TxC.keep {W W' : World} {x : It} (h : TxC A W x) (hk : KeepA A W W') (hA : ∀ b, A b → b < W.heap.size → A' b) : TxC A' W' x :=
  ⟨txt_keepA h.1 h.2.2.1 hk, txt_keepA h.2.1 h.2.2.2 hk, aw_to h.1 h.2.2.1 hA, aw_to h.2.1 h.2.2.2 hA⟩
def ClsV (Z : Nat) (W : World) (v : Value) (its : List It) : Prop :=
  W.ownsRow Z 61 18 v its.length (its.flatMap clL) ∧ ∀ x ∈ its, TxC (fun b => Z ≤ b ∧ v.ownBlock ≠ some b) W x
theorem ClsV.nil (Z : Nat) (W : World) : ClsV Z W (.slice none 0 0) [] := ⟨World.ownsRow_nil _ _ _ _, fun x h => by cases h⟩
theorem ClsV.keep {Z : Nat} {W W' : World} {v : Value} {its : List It} (h : ClsV Z W v its) (hk : KeepA (fun b => Z ≤ b) W W') : ClsV Z W' v its :=
  ⟨ownA_keep h.1 hk (fun g hg => (ownA_lt h.1 g hg).1), fun x hx => (h.2 x hx).keep ⟨hk.1, fun b cs t m hb => hk.2 b cs t m hb.1⟩ (fun b hb _ => hb)⟩
theorem ClsV.fresh {Z n : Nat} {W : World} {v : Value} {its : List It} {x : It} (h : ClsV Z W v its) (hz : Z ≤ W.heap.size) (hn : W.heap.size ≤ n) (h1 : FreshC n x.2.1) (h2 : FreshC n x.2.2) : Aw (fun b => Z ≤ b ∧ v.ownBlock ≠ some b) x.2.1 ∧ Aw (fun b => Z ≤ b ∧ v.ownBlock ≠ some b) x.2.2 := by
  have h3 : ∀ b, n ≤ b → Z ≤ b ∧ v.ownBlock ≠ some b := fun b hb => ⟨by omega, fun e => by have := (ownA_lt h.1 b e).2; omega⟩
  exact ⟨aw_fresh h1 h3, aw_fresh h2 h3⟩
theorem ClsV.snoc {Z : Nat} {W W' : World} {v v' : Value} {its : List It} {x : It} (h : ClsV Z W v its) (hx : TxC (fun b => Z ≤ b ∧ v.ownBlock ≠ some b) W x) (ho : W'.ownsRow Z 61 18 v' (its.length + 1) (its.flatMap clL ++ clL x))
    (hg : W.grownBy W' v.ownBlock) (hp : v'.ownBlock = v.ownBlock ∨ v'.ownBlock = some W.heap.size) : ClsV Z W' v' (its ++ [x]) := by
  have hk : KeepA (fun b => Z ≤ b ∧ v.ownBlock ≠ some b) W W' := keepA_grown hg (fun b hb => hb.2)
  have hA : ∀ b, (Z ≤ b ∧ v.ownBlock ≠ some b) → b < W.heap.size → (Z ≤ b ∧ v'.ownBlock ≠ some b) := by
    rintro b ⟨hb1, hb2⟩ hb3
    refine ⟨hb1, ?_⟩
    rcases hp with hp | hp
    · rw [hp]; exact hb2
    · rw [hp]; intro e; simp only [Option.some.injEq] at e; omega
  refine ⟨by simpa [List.flatMap_append] using ho, fun y hy => ?_⟩
  rcases List.mem_append.1 hy with hy | hy
  · exact (h.2 y hy).keep hk hA
  · simp at hy; subst hy; exact hx.keep hk hA

end Go.Proofs.YtabmfdedbpmfmaaGreat

namespace Go.Proofs.YtabmfdedbpmfmaaGreat
open Go.RowKit Go.Shelf
set_option linter.unusedVariables false

set_option maxRecDepth 100000 in
set_option maxHeartbeats 1000000 in
theorem clauses_any (s : ByteArray) (w : World) : Calls Tryz.prog 61 #[.string s] w fun e w' => e = .returned (.func (.func 87) #[] #[.pointer (some ⟨w.heap.size, 0, none⟩)]) ∧ w' = w.alloc (.cells #[.string s] 9) := by
  go_enter Tryz.func61, Tryz.ntmps61
  go_wp2_with fail
  go_ret
  exact ⟨rfl, rfl⟩
theorem size32 : (Tryz.prog.info? 32).map (·.size) = some 3 := by kernel_rfl
theorem three_put {W : World} {B : Nat} {z0 z1 z2 : Value} (h : W.heap[B]? = some (.cells #[z0, z1, z2] 32 (0, 0))) (a0 a1 a2 : Value) :
    ∃ W', W' = ((W.setCell ⟨B, 0, none⟩ a0).setCell ⟨B, 1, none⟩ a1).setCell ⟨B, 2, none⟩ a2 ∧ W'.heap[B]? = some (.cells #[a0, a1, a2] 32 (0, 0)) ∧ Turn B W W' := by
  refine ⟨putL W B 0 [a0, a1, a2], rfl, ?_, putL_turn _ W B 0⟩
  have k := putL_heap [a0, a1, a2] W B 0 _ _ h
  have hc : fillA #[z0, z1, z2] 0 [a0, a1, a2] = #[a0, a1, a2] := by simp [fillA]
  rwa [hc] at k
set_option maxRecDepth 100000 in
set_option maxHeartbeats 4000000 in
theorem plain_cl (x : PepL) (r1 q1 : Option Addr) (c1 d1 : Nat) (sg t : ByteArray) (f g : Value) (o st : Bool) (a b er : Int) (w : World) :
    Calls Tryz.prog 30 #[.agg #[.string sg, f, g, .bool o, .string (ofL x.ep), .slice r1 x.rel.length c1, .int .u8 x.c, .string (ofL x.n), .bool x.b, .string (ofL x.m), .bool x.d, .string (ofL x.k), .slice q1 x.loc.length d1, .string t, .bool st, .int .i64 a, .int .i64 b, .int .i64 er]] w fun e w' => e = .returned (.agg #[.string sg, .string t, .bool st]) ∧ Below w.heap.size w w' := by
  obtain ⟨V, hV, n1, n2, bV, sV⟩ := two_new w #[.string sg, f, g, .bool o, .string (ofL x.ep), .slice r1 x.rel.length c1, .int .u8 x.c, .string (ofL x.n), .bool x.b, .string (ofL x.m), .bool x.d, .string (ofL x.k), .slice q1 x.loc.length d1, .string t, .bool st, .int .i64 a, .int .i64 b, .int .i64 er] #[.string ⟨#[]⟩, .string ⟨#[]⟩, .bool false] 61 32
  obtain ⟨s0, s1, s2, s3, s4, s5, s6, s7, s8, s9, s10, s11, s12, s13, s14, s15, s16, s17, s_0, s_1, s_2, s_3, s_4, s_5, s_6, s_7, s_8, s_9, s_10, s_11, s_12, s_13, s_14, s_15, s_16, s_17⟩ := seen18v n1
  have x0 := cell_at 0 n2 rfl
  have x1 := cell_at 1 n2 rfl
  have x2 := cell_at 2 n2 rfl
  have y0 := one_free 0 n2
  have y1 := one_free 1 n2
  have y2 := one_free 2 n2
  obtain ⟨W9, hW9, h9, T9⟩ := three_put n2 (.string sg) (.string t) (.bool st)
  have HW9 := hide hW9
  have H9 := hide h9
  have HB := hide (bV.trans (T9.below (by omega) bV.size))
  clear n1 n2 bV hW9 h9 T9
  go_enter Tryz.func30, Tryz.ntmps30
  go_wp2_with fail
  rw [← HW9.out]
  refine bodyPost_ret (results_cell_row rfl _ _ (w.heap.size + 1) 32 _ (0, 0) _ rfl H9.out Tryz.underlying32 rfl size32) rfl ?_
  exact ⟨rfl, HB.out⟩

end Go.Proofs.YtabmfdedbpmfmaaGreat

namespace Go.Proofs.YtabmfdedbpmfmaaGreat
open Go.RowKit Go.Shelf
set_option linter.unusedVariables false

def RcPost (r : Int × Nat × List Cl) (w : World) (e : Ending) (w' : World) : Prop :=
  Below w.heap.size w w' ∧ ∃ v, e = .returned (.tuple #[v, .agg #[.int .i64 r.1, .int .i64 (r.2.1 : Int)]]) ∧ ∃ its : List It, its.map Prod.fst = r.2.2 ∧ ClsV w.heap.size w' v its
structure RJ (w : World) (s : ByteArray) (its : List It) (e p : Int) (W : World) : Prop where
  str : Boxed W w.heap.size 9 (.string s)
  res : W.heap[w.heap.size + 1]? = some (.cells #[.int .i64 0, .int .i64 0] 25 (0, 0))
  row : ∃ v, Boxed W (w.heap.size + 2) 50 v ∧ ClsV (w.heap.size + 5) W v its
  flt : W.heap[w.heap.size + 3]? = some (.cells #[.int .i64 e, .int .i64 p] 25 (0, 0))
  itr : Boxed W (w.heap.size + 4) 9 (.string s)
  bel : Below w.heap.size w W
theorem RJ.sz {w W : World} {s : ByteArray} {its : List It} {e p : Int} (h : RJ w s its e p W) : w.heap.size + 5 ≤ W.heap.size := h.itr.lt
theorem RJ.own {w : World} {s : ByteArray} {its : List It} {e p : Int} {B0 : Nat} (hB : w.heap.size + 5 ≤ B0) : OwnFrom B0 (fun (_ : Unit) W => RJ w s its e p W) := by
  rintro u P Q row h hg hr
  have K : KeepA (fun _ => True) P Q := keepA_own hg hr
  obtain ⟨v, h1, h2⟩ := h.row
  exact ⟨K.at_ trivial h.str, K.at_ trivial h.res, ⟨v, K.at_ trivial h1, h2.keep ⟨K.1, fun b cs t m _ => K.2 b cs t m trivial⟩⟩, K.at_ trivial h.flt, K.at_ trivial h.itr, (ownFrom_below (β := Unit) (Nat.le_refl _) (by omega)) () P Q row h.bel hg hr⟩
theorem RJ.next {w W W' : World} {s : ByteArray} {its : List It} {e p : Int} (h : RJ w s its e p W) (hb : Below W.heap.size W W') : RJ w s its e p W' := by
  have K : KeepA (fun _ => True) W W' := keepA_below hb
  obtain ⟨v, h1, h2⟩ := h.row
  exact ⟨K.at_ trivial h.str, K.at_ trivial h.res, ⟨v, K.at_ trivial h1, h2.keep ⟨K.1, fun b cs t m _ => K.2 b cs t m trivial⟩⟩, K.at_ trivial h.flt, K.at_ trivial h.itr, h.bel.trans (hb.mono h.bel.size)⟩
theorem RJ.fault {w W : World} {s : ByteArray} {its : List It} {e p : Int} (h : RJ w s its e p W) (e' p' : Int) : RJ w s its e' p' ((W.setCell ⟨w.heap.size + 3, 0, none⟩ (.int .i64 e')).setCell ⟨w.heap.size + 3, 1, none⟩ (.int .i64 p')) := by
  have K : KeepA (fun b => b ≠ w.heap.size + 3) W ((W.setCell ⟨w.heap.size + 3, 0, none⟩ (.int .i64 e')).setCell ⟨w.heap.size + 3, 1, none⟩ (.int .i64 p')) := (keepA_set W _ 0 _ (fun b hb => hb)).trans (keepA_set _ _ 1 _ (fun b hb => hb))
  obtain ⟨v, h1, h2⟩ := h.row
  exact ⟨K.at_ (by omega) h.str, K.at_ (by omega) h.res, ⟨v, K.at_ (by omega) h1, h2.keep ⟨K.1, fun b cs t m hb => K.2 b cs t m (by omega)⟩⟩, set_lies 1 _ (set_lies 0 _ h.flt), K.at_ (by omega) h.itr,
    (h.bel.setCell (p := ⟨w.heap.size + 3, 0, none⟩) (by simp only; omega) _).setCell (p := ⟨w.heap.size + 3, 1, none⟩) (by simp only; omega) _⟩
theorem RJ.app {w W w3 : World} {s : ByteArray} {its : List It} {x : It} {e p : Int} {v v' : Value} (h : RJ w s its e p W) (hv : Boxed W (w.heap.size + 2) 50 v) (hc : ClsV (w.heap.size + 5) W v its) (hx : TxC (fun b => w.heap.size + 5 ≤ b ∧ v.ownBlock ≠ some b) W x)
    (ho : w3.ownsRow (w.heap.size + 5) 61 18 v' (its.length + 1) (its.flatMap clL ++ clL x)) (hg : W.grownBy w3 v.ownBlock) (hp : v'.ownBlock = v.ownBlock ∨ v'.ownBlock = some W.heap.size) :
    RJ w s (its ++ [x]) e p (w3.setCell ⟨w.heap.size + 2, 0, none⟩ v') ∧ Boxed w3 (w.heap.size + 2) 50 v := by
  have hlt := fun g hgv => ownA_lt hc.1 g hgv
  have K : KeepA (fun b => b < w.heap.size + 5) W w3 := keepA_grown hg (fun b hb e => by have := (hlt b e).1; omega)
  have K2 : KeepA (fun b => b ≠ w.heap.size + 2) w3 (w3.setCell ⟨w.heap.size + 2, 0, none⟩ v') := keepA_set w3 _ 0 _ (fun b hb => hb)
  have hs := hc.snoc hx ho hg hp
  have hb3 : Below w.heap.size w w3 := h.bel.trans (own_below hc.1 h.sz hg |>.mono (by omega))
  have hv3 : Boxed w3 (w.heap.size + 2) 50 v := K.at_ (by omega) hv
  exact ⟨⟨K2.at_ (by omega) (K.at_ (by omega) h.str), K2.at_ (by omega) (K.at_ (by omega) h.res), ⟨v', hv3.set v', hs.keep ⟨K2.1, fun b cs t m hb => K2.2 b cs t m (by omega)⟩⟩, K2.at_ (by omega) (K.at_ (by omega) h.flt), K2.at_ (by omega) (K.at_ (by omega) h.itr),
    hb3.setCell (p := ⟨w.heap.size + 2, 0, none⟩) (by simp only; omega) _⟩, hv3⟩
structure Goes29 (w : World) (s : ByteArray) (N : Nat) (pre : List It) (W : World) : Prop where
  fold : ∀ rest, foldC N (pre.map Prod.fst ++ rest) [] = foldC N rest (pre.map Prod.fst)
  ok : ∀ x ∈ pre, x.1.er = 0
  few : pre.length ≤ 32
  rj : RJ w s pre 0 0 W
structure Left29 (w : World) (s : ByteArray) (N : Nat) (k : Code) (pre : List It) (W : World) : Prop where
  code : k = .exit 0
  is : ∃ (e : Int) (p : Nat) (its : List It), e ≠ 0 ∧ (∀ rest, foldC N (pre.map Prod.fst ++ rest) [] = (e, p, [])) ∧ RJ w s its e p W
theorem fold_next {N : Nat} {pre : List It} {x : It} (h : ∀ rest, foldC N (pre.map Prod.fst ++ rest) [] = foldC N rest (pre.map Prod.fst)) (h1 : ¬(pre.length = 32 ∧ x.1.s < N)) (h2 : x.1.er = 0) :
    ∀ rest, foldC N ((pre ++ [x]).map Prod.fst ++ rest) [] = foldC N rest ((pre ++ [x]).map Prod.fst) := by
  intro rest
  rw [List.map_append, List.append_assoc, h]
  show foldC N (x.1 :: rest) (pre.map Prod.fst) = _
  conv => lhs; unfold foldC
  rw [if_neg (by rw [List.length_map]; exact h1), if_neg (by rw [h2]; simp)]
  rfl
theorem fold_many {N : Nat} {pre : List It} {x : It} (h : ∀ rest, foldC N (pre.map Prod.fst ++ rest) [] = foldC N rest (pre.map Prod.fst)) (h1 : pre.length = 32 ∧ x.1.s < N) :
    ∀ rest, foldC N ((pre ++ [x]).map Prod.fst ++ rest) [] = (12, x.1.s, []) := by
  intro rest
  rw [List.map_append, List.append_assoc, h]
  show foldC N (x.1 :: rest) (pre.map Prod.fst) = _
  unfold foldC
  rw [if_pos (by rw [List.length_map]; exact h1)]
theorem fold_bad {N : Nat} {pre : List It} {x : It} (h : ∀ rest, foldC N (pre.map Prod.fst ++ rest) [] = foldC N rest (pre.map Prod.fst)) (h1 : ¬(pre.length = 32 ∧ x.1.s < N)) (h2 : x.1.er ≠ 0) :
    ∀ rest, foldC N ((pre ++ [x]).map Prod.fst ++ rest) [] = (x.1.er, x.1.e, []) := by
  intro rest
  rw [List.map_append, List.append_assoc, h]
  show foldC N (x.1 :: rest) (pre.map Prod.fst) = _
  unfold foldC
  rw [if_neg (by rw [List.length_map]; exact h1), if_pos h2]
theorem seq_of_clauses (s : ByteArray) (Bs : Nat) (W1 : World) (hs : s.size ≤ 256) (hB : Boxed W1 Bs 9 (.string s)) :
    SeqC Fence.wide 4 Tryz.prog 87 #[.pointer (some ⟨Bs, 0, none⟩)] encC (CX (rowC s.data.toList 257 0)) (fun x => x.1.er = 0) (KpC Bs) (fun xs => xs.map Prod.fst = rowC s.data.toList 257 0) (fun pre => pre.map Prod.fst <+: rowC s.data.toList 257 0) W1 := by
  intro l J Jx W hW hJ hJx hY h0
  exact rowC_in 4 (by omega) l Bs s hs J Jx W.heap.size hJ hY W (boxed_below hB hW) h0
theorem KpC.trans {Bs : Nat} {Z A B D : World} (h : KpC Bs Z A B) (k : KpC Bs Z B D) : KpC Bs Z A D := ⟨fun b cs t m hb hh => k.1 b cs t m hb (h.1 b cs t m hb hh), k.2.trans h.2⟩
theorem boxed_inj {W : World} {B : Nat} {t : TypeId} {v v' : Value} (h : Boxed W B t v) (h' : Boxed W B t v') : v = v' := by
  have e := (show W.heap[B]? = _ from h).symm.trans (show W.heap[B]? = _ from h')
  simpa using e
theorem ClsV.weak {Z Z' : Nat} {W : World} {v : Value} {its : List It} (h : ClsV Z W v its) (hz : Z' ≤ Z) : ClsV Z' W v its := by
  refine ⟨⟨h.1.1, ?_⟩, fun x hx => (h.2 x hx).keep ⟨Nat.le_refl _, fun b cs t m _ hh => hh⟩ (fun b hb _ => ⟨by omega, hb.2⟩)⟩
  rcases h.1.2 with h2 | ⟨g, cap, cur, hv, hg, r⟩
  · exact .inl h2
  · exact .inr ⟨g, cap, cur, hv, by omega, r⟩
theorem keepA_past {A : Nat → Prop} {n₀ : Nat} {W W' : World} (h : Past n₀ W W') : KeepA A W W' := ⟨h.1.size, fun b cs t m _ hh => h.2 b _ hh rfl⟩
theorem keeps_below' {W W' : World} (h : Below W.heap.size W W') : KeepsOthers W W' := KeepsOthers.of_grownBy (grown_below h) (fun j o ej _ => by cases ej)
theorem clP_lt {l : List UInt8} {a : Nat} (h : (clP l a).er = 0) : a < l.length := by
  by_cases ha : a < l.length
  · exact ha
  · exfalso
    have hd : l.drop a = [] := List.drop_eq_nil_of_le (by omega)
    unfold clP at h
    rw [hd, if_pos (by decide)] at h
    revert h
    unfold misL
    dsimp only
    split <;> simp
theorem rowC_lt {l : List UInt8} {x : Cl} : ∀ n a, x ∈ rowC l n a → x.er = 0 → x.s < l.length
  | 0, a, h, _ => by cases h
  | n + 1, a, h, he => by
    unfold rowC at h
    split at h
    · rcases List.mem_cons.1 h with rfl | h
      · rw [clP_s]
        exact clP_lt he
      · split at h
        · exact rowC_lt n _ h he
        · cases h
    · cases h

end Go.Proofs.YtabmfdedbpmfmaaGreat

namespace Go.Proofs.YtabmfdedbpmfmaaGreat
open Go.RowKit Go.Shelf
set_option linter.unusedVariables false

def Z61 : Array Value := #[.string ⟨#[]⟩, .nilFunc, .nilFunc, .bool false, .string ⟨#[]⟩, .slice none 0 0, .int .u8 0, .string ⟨#[]⟩, .bool false, .string ⟨#[]⟩, .bool false, .string ⟨#[]⟩, .slice none 0 0, .string ⟨#[]⟩, .bool false, .int .i64 0, .int .i64 0, .int .i64 0]
theorem info61 : (Tryz.prog.info? 61).map (fun i => (i.zero, i.size, i.bytes)) = some (some (.agg Z61), 18, 224) := by kernel_rfl
theorem run_alloc61 (w : World) : (Instr.alloc 61 true (.tuple #[])).run Tryz.prog w = .ok (.pointer (some ⟨w.heap.size, 0, none⟩)) (w.alloc (.cells Z61 61)) := by
  obtain ⟨i, hi, hz, hs, hb⟩ := info_parts info61
  simp [Instr.alloc, zeroValue, typeInfo, hi, hz, Value.cells, go_sem]
theorem zero61 : (Array.range (1 * 18)).map ((Value.agg Z61).cells[· % (Value.agg Z61).cells.size]!) = Z61 := by kernel_rfl
theorem fill61 (c : Cl) (vr vl : Value) : Instr.fill (fun i => some (i * 18, 18)) ((Array.range (1 * 18)).map ((Value.agg Z61).cells[· % (Value.agg Z61).cells.size]!)) [(0, .agg (clV c vr vl))] = some (clV c vr vl) := by
  rw [zero61]
  simp [Instr.fill, Z61, clV, Value.cells]
variable {F : Fence} {n : Nat} {ops : Array Oper} {rest : List Oper} {op : Oper} {a : Act} {w : World} {Q : Exit → Act → World → Prop}
theorem wpListIn_alloc61 (hgd : op.guard = none) (ho : op.op = .alloc 61) (h : wpListIn F n Tryz.prog ops Q rest (a.put op.dst (.pointer (some ⟨w.heap.size, 0, none⟩))) (w.alloc (.cells Z61 61))) : wpListIn F n Tryz.prog ops Q (op :: rest) a w := by
  refine wpListIn_plain hgd fun K hK => ?_
  unfold Oper.wpIn
  refine ⟨?_, ?_⟩
  · simp [Oper.about, ho]
  · rw [Oper.semAt_plain F _ _ (by rw [ho]; intro c hc'; cases hc')]
    simp only [execOp, ho, Sem.run_bind, Sem.run_pure, Result.andThen_ok, run_alloc61]
    exact hK _ _ h
theorem wpListIn_store_mid {P : Program} (hgd : op.guard = none) (ty : TypeId) (x y : Operand) (ho : op.op = .store ty x y)
    (b o : Nat) (cells : Array Value) (hx : a.eval x = .pointer (some ⟨b, o, none⟩)) (hy : a.eval y = .agg cells)
    (ht : w.there b o cells.size) (hi : (P.info? ty).map (·.size) = some cells.size) (h1 : cells.all (·.oneCell') = true)
    (h : wpListIn F n P ops Q rest (a.put op.dst undef) (w.setCells b o cells.toList)) : wpListIn F n P ops Q (op :: rest) a w := by
  refine wpListIn_plain hgd fun K hK => ?_
  unfold Oper.wpIn
  refine ⟨?_, ?_⟩
  · simp [Oper.about, ho]
  · rw [Oper.semAt_plain F _ _ (by rw [ho]; intro c hc'; cases hc')]
    simp only [execOp, ho, hx, hy, Instr.storeAt, Instr.sureAddr, Sem.run_bind, Sem.run_pure, Result.andThen_ok, run_storeVar_mid w b o ty cells ht hi h1]
    exact hK _ _ h
theorem wpListIn_build61 (hgd : op.guard = none) (x : Operand) (ho : op.op = .buildSlice 50 1 #[(0, x)]) (c : Cl) (vr vl : Value) (hx : a.eval x = .agg (clV c vr vl))
    (h : wpListIn F n Tryz.prog ops Q rest (a.put op.dst (.slice (some ⟨w.heap.size, 0, none⟩) 1 1)) (w.alloc (.cells (clV c vr vl) 61))) : wpListIn F n Tryz.prog ops Q (op :: rest) a w := by
  obtain ⟨i, hi, hz, hs, hb⟩ := info_parts info61
  have hr := run_buildSlice (P := Tryz.prog) w 50 61 1 #[(0, .agg (clV c vr vl))] (clV c vr vl) i (.agg Z61) Tryz.underlying50 hi hz (by rw [hs]; decide) (by rw [hs]; decide) (by rw [hs]; exact fill61 c vr vl)
  refine wpListIn_plain hgd fun K hK => ?_
  unfold Oper.wpIn
  refine ⟨?_, ?_⟩
  · simp [Oper.about, ho]
  · rw [Oper.semAt_plain F _ _ (by rw [ho]; intro c hc'; cases hc')]
    simp only [execOp, ho, List.map_toArray, List.map_cons, List.map_nil, hx, Sem.run_bind, Sem.run_pure, hr, Result.andThen_ok]
    exact hK _ _ h
theorem run_load50 (w : World) (b : Nat) (v : Value) (hc : w.cell? ⟨b, 0, none⟩ = some v) : (Instr.loadAt 50 (.pointer (some ⟨b, 0, none⟩))).run Tryz.prog w = .ok v w := by
  simp [Instr.loadAt, Instr.sureAddr, loadVar, hc, go_sem]
theorem size50 : (Tryz.prog.info? 50).map (·.size) = some 1 := by kernel_rfl
theorem run_store50 (w : World) (b : Nat) (u : Value) (x : Option Addr) (k c : Nat) (hc : w.cell? ⟨b, 0, none⟩ = some u) (hf : w.frozen? ⟨b, 0, none⟩ = false) : (Instr.storeAt 50 (.pointer (some ⟨b, 0, none⟩)) (.slice x k c)).run Tryz.prog w = .ok () (w.setCell ⟨b, 0, none⟩ (.slice x k c)) := by
  have hst := run_storeCells_cells (P := Tryz.prog) b 0 [.slice x k c] 0 w (fun j hj => by
    obtain rfl : j = 0 := by simpa using hj
    simp [hc]) (fun j hj => by
    obtain rfl : j = 0 := by simpa using hj
    simpa using hf) (fun v hv => by simp at hv; subst hv; rfl)
  have h5 := size50
  cases hq : Tryz.prog.info? 50 with
  | none => simp [hq] at h5
  | some i =>
    have hs : i.size = 1 := by simpa [hq] using h5
    simp only [Nat.add_zero, World.setCells] at hst
    simp [Instr.storeAt, Instr.sureAddr, storeVar, sizeOf, typeInfo, hq, hs, Value.cells, hst]
theorem wpListIn_load50 (hgd : op.guard = none) (x : Operand) (ho : op.op = .load 50 x) (b : Nat) (v : Value) (hx : a.eval x = .pointer (some ⟨b, 0, none⟩)) (hc : w.cell? ⟨b, 0, none⟩ = some v)
    (h : wpListIn F n Tryz.prog ops Q rest (a.put op.dst v) w) : wpListIn F n Tryz.prog ops Q (op :: rest) a w := by
  refine wpListIn_plain hgd fun K hK => ?_
  unfold Oper.wpIn
  refine ⟨?_, ?_⟩
  · simp [Oper.about, ho]
  · rw [Oper.semAt_plain F _ _ (by rw [ho]; intro c hc'; cases hc')]
    simp only [execOp, ho, hx, Sem.run_bind, Sem.run_pure, run_load50 w b v hc, Result.andThen_ok]
    exact hK _ _ h
theorem wpListIn_store50 (hgd : op.guard = none) (x y : Operand) (ho : op.op = .store 50 x y) (b : Nat) (u : Value) (v : Option Addr) (k c : Nat) (hx : a.eval x = .pointer (some ⟨b, 0, none⟩)) (hy : a.eval y = .slice v k c) (hc : w.cell? ⟨b, 0, none⟩ = some u) (hf : w.frozen? ⟨b, 0, none⟩ = false)
    (h : wpListIn F n Tryz.prog ops Q rest (a.put op.dst undef) (w.setCell ⟨b, 0, none⟩ (.slice v k c))) : wpListIn F n Tryz.prog ops Q (op :: rest) a w := by
  refine wpListIn_plain hgd fun K hK => ?_
  unfold Oper.wpIn
  refine ⟨?_, ?_⟩
  · simp [Oper.about, ho]
  · rw [Oper.semAt_plain F _ _ (by rw [ho]; intro c hc'; cases hc')]
    simp only [execOp, ho, hx, hy, Sem.run_bind, Sem.run_pure, run_store50 w b u v k c hc hf, Result.andThen_ok]
    exact hK _ _ h

end Go.Proofs.YtabmfdedbpmfmaaGreat
