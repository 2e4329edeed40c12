/-
  Walks: a row of texts, copied: slices.Clone. · What readClauses holds while it goes through the clauses. · Plain: a clause in its ways; rows of clauses as they are answered. · A whole clause at an operation inside a fence.
-/
import Derived.Deep.AppendLies
import Derived.Lib.SliceRun
import Derived.Test.YtabmfdedbpmfmaaGreatSPt
import Derived.RangeFuncBox
import Derived.Test.YtabmfdedbpmfmaaGreatSHh
import Derived.Test.YtabmfdedbpmfmaaGreatSHa
import Derived.Test.YtabmfdedbpmfmaaGreatSGl
import Derived.Great.BuildSlice
import Derived.Maps.OwnIn
namespace Go.Proofs.YtabmfdedbpmfmaaGreat
open Go.RowKit Go.Shelf
set_option linter.unusedVariables false

def valT (ts : List (List UInt8)) : List Value := ts.map fun t => .string (ofL t)
theorem valT_len (ts : List (List UInt8)) : (valT ts).length = ts.length * 1 := by simp [valT]
theorem valT_one (ts : List (List UInt8)) : ∀ u ∈ valT ts, u.oneCell' = true := by
  intro u hu
  simp only [valT, List.mem_map] at hu
  obtain ⟨t, _, rfl⟩ := hu
  rfl
theorem own_txt {W : World} {base : Nat} {v : Value} {ts : List (List UInt8)} (h : W.ownsRow base 9 1 v ts.length (valT ts)) : Txt W v ts := by
  rcases h.2 with ⟨rfl, h0⟩ | ⟨g, cap, cur, rfl, hg, hh, _, _, hsz, ht⟩
  · exact ⟨none, 0, by rw [h0], .inl (List.length_eq_zero_iff.1 h0)⟩
  · refine ⟨_, cap, rfl, .inr ⟨g, 0, rfl, (Array.getElem?_eq_some_iff.1 hh).1, fun i hi => ?_⟩⟩
    refine cell_at _ hh ?_
    have e : (valT ts)[i]? = some (.string (ofL ts[i])) := by simp [valT, hi]
    rw [← ht, List.getElem?_take_of_lt (by omega)] at e
    rw [Nat.zero_add]
    simpa using e
theorem txt_news {W : World} {b off : Nat} {ts : List (List UInt8)} (hc : ∀ i (h : i < ts.length), W.cell? ⟨b, off + i, none⟩ = some (.string (ofL ts[i]))) : ∀ j u, (valT ts)[j]? = some u → W.cell? ((⟨b, off, none⟩ : Addr).add j) = some u := by
  intro j u hu
  obtain ⟨hj, rfl⟩ := List.getElem?_eq_some_iff.1 hu
  have hj' : j < ts.length := by simpa [valT] using hj
  have := hc j hj'
  have ea : (Addr.add ⟨b, off, none⟩ j) = ⟨b, off + j, none⟩ := by
    by_cases e0 : j = 0
    · subst e0; rfl
    · simp [Addr.add, e0]
  rw [ea]
  simpa [valT] using this
theorem own_below {W W' : World} {base : Nat} {e : TypeId} {size : Nat} {v : Value} {n : Nat} {xs : List Value} (h : W.ownsRow base e size v n xs) (hB : base ≤ W.heap.size) (hg : W.grownBy W' v.ownBlock) : Below base W W' := by
  refine ⟨hg.os, hg.tape, hg.output, hg.size, fun k hk => hg.block k (by omega) fun e => ?_⟩
  rcases h.2 with ⟨rfl, _⟩ | ⟨g, cap, cur, rfl, h2, _⟩
  · cases e
  · simp only [Value.ownBlock, Option.some.injEq] at e
    omega

set_option maxRecDepth 100000 in
set_option maxHeartbeats 2000000 in
theorem Clone_any (v : Value) (ts : List (List UInt8)) (w : World) (hA : Txt w v ts) (hl : ts.length ≤ 1048576) (hnil : ∀ n c, v = .slice none n c → c = 0) :
    Calls Tryz.prog 194 #[v] w fun e w' => ∃ v', e = .returned v' ∧ w'.ownsRow w.heap.size 9 1 v' ts.length (valT ts) ∧ Below w.heap.size w w' := by
  obtain ⟨i0, hi, hz0, hz1, hz2⟩ := info_parts Tryz.info9
  obtain ⟨aa, ca, rfl, hra⟩ := hA
  have own0 : (w.alloc (.cells #[] 9)).ownsRow w.heap.size 9 1 (.slice (some ⟨w.heap.size, 0, none⟩) 0 0) 0 [] := ⟨rfl, .inr ⟨w.heap.size, 0, #[], rfl, Nat.le_refl _, World.alloc_heap_new w _, Nat.le_refl _, by unfold maxLen; omega, rfl, rfl⟩⟩
  have b0 : Below w.heap.size w (w.alloc (.cells #[] 9)) := (Below.refl _ w).alloc (Nat.le_refl _) _
  have HO := hide own0
  clear own0
  cases aa with
  | none =>
    have hs : ts = [] := by rcases hra with h | ⟨b, off, h, _⟩; exact h; cases h
    subst hs
    obtain rfl := hnil _ _ rfl
    have EQ := Lib.run_eql_slice_nil (P := Tryz.prog) w 37 9 none 0 0 0 0 Tryz.underlying37
    simp only [Option.isNone] at EQ
    go_enter Tryz.func194, Tryz.ntmps194
    go_wp2_with fail
    go_ret
    exact ⟨_, rfl, World.ownsRow_nil _ _ _ _, Below.refl _ _⟩
  | some ad =>
    by_cases h0 : ts = []
    · subst h0
      have EQ := Lib.run_eql_slice_nil (P := Tryz.prog) w 37 9 (some ad) 0 ca 0 0 Tryz.underlying37
      simp only [Option.isNone] at EQ
      go_enter Tryz.func194, Tryz.ntmps194
      go_wp2_with (at_builtin; refine wpList_append_own _ rfl (.tmp 5) (.tmp 6) 37 rfl w.heap.size 9 i0 (.string .empty) 1 16 Tryz.underlying37 hi hz0 hz1 hz2 rfl (by decide) _ _ _ rfl HO.out ad 0 ca [] rfl rfl (fun j u h => by simp at h) (fun u h => by cases h) (by unfold maxLen; omega) (by omega) (by simp) ?_; intro v' w3 own1 grow1 _)
      go_ret
      exact ⟨v', rfl, own1, b0.trans (own_below HO.out (by simp) grow1)⟩
    · obtain ⟨b, off, hab, hlb, hc⟩ : ∃ b off, some ad = some ⟨b, off, none⟩ ∧ b < w.heap.size ∧ ∀ i (h : i < ts.length), w.cell? ⟨b, off + i, none⟩ = some (.string (ofL ts[i])) := by
        rcases hra with h1 | h1
        · exact absurd h1 h0
        · exact h1
      cases hab
      have HC := hide (txt_news (W := w.alloc (.cells #[] 9)) (b := b) (off := off) (ts := ts) (fun i h => by rw [← hc i h]; simp only [World.cell?]; rw [b0.block b hlb]))
      clear hc
      have EQ := Lib.run_eql_slice_nil (P := Tryz.prog) w 37 9 (some ⟨b, off, none⟩) ts.length ca 0 0 Tryz.underlying37
      simp only [Option.isNone] at EQ
      go_enter Tryz.func194, Tryz.ntmps194
      go_wp2_with (at_builtin; refine wpList_append_own _ rfl (.tmp 5) (.tmp 6) 37 rfl w.heap.size 9 i0 (.string .empty) 1 16 Tryz.underlying37 hi hz0 hz1 hz2 rfl (by decide) _ _ _ rfl HO.out ⟨b, off, none⟩ ts.length ca (valT ts) rfl (valT_len ts) HC.out (valT_one ts) (by unfold maxLen; omega) (by omega) (by simp) ?_; intro v' w3 own1 grow1 _)
      go_ret
      refine ⟨v', rfl, ?_, b0.trans (own_below HO.out (by simp) grow1)⟩
      have := own1
      simp only [Nat.zero_add, List.nil_append] at this
      exact this

end Go.Proofs.YtabmfdedbpmfmaaGreat

namespace Go.Proofs.YtabmfdedbpmfmaaGreat
open Go.RowKit Go.Shelf
set_option linter.unusedVariables false

def RcPost (r : Int × Nat × List Cl) (w : World) (e : Ending) (w' : World) : Prop :=
  Below w.heap.size w w' ∧ ∃ v, e = .returned (.tuple #[v, .agg #[.int .i64 r.1, .int .i64 (r.2.1 : Int)]]) ∧ ∃ its : List It, its.map Prod.fst = r.2.2 ∧ ClsV w.heap.size w' v its
structure RJ (w : World) (s : ByteArray) (its : List It) (e p : Int) (W : World) : Prop where
  str : Boxed W w.heap.size 9 (.string s)
  res : W.heap[w.heap.size + 1]? = some (.cells #[.int .i64 0, .int .i64 0] 25 (0, 0))
  row : ∃ v, Boxed W (w.heap.size + 2) 50 v ∧ ClsV (w.heap.size + 5) W v its
  flt : W.heap[w.heap.size + 3]? = some (.cells #[.int .i64 e, .int .i64 p] 25 (0, 0))
  itr : Boxed W (w.heap.size + 4) 9 (.string s)
  bel : Below w.heap.size w W
theorem RJ.sz {w W : World} {s : ByteArray} {its : List It} {e p : Int} (h : RJ w s its e p W) : w.heap.size + 5 ≤ W.heap.size := h.itr.lt
theorem RJ.own {w : World} {s : ByteArray} {its : List It} {e p : Int} {B0 : Nat} (hB : w.heap.size + 5 ≤ B0) : OwnFrom B0 (fun (_ : Unit) W => RJ w s its e p W) := by
  rintro u P Q row h hg hr
  have K : KeepA (fun _ => True) P Q := keepA_own hg hr
  obtain ⟨v, h1, h2⟩ := h.row
  exact ⟨K.at_ trivial h.str, K.at_ trivial h.res, ⟨v, K.at_ trivial h1, h2.keep ⟨K.1, fun b cs t m _ => K.2 b cs t m trivial⟩⟩, K.at_ trivial h.flt, K.at_ trivial h.itr, (ownFrom_below (β := Unit) (Nat.le_refl _) (by omega)) () P Q row h.bel hg hr⟩
theorem RJ.next {w W W' : World} {s : ByteArray} {its : List It} {e p : Int} (h : RJ w s its e p W) (hb : Below W.heap.size W W') : RJ w s its e p W' := by
  have K : KeepA (fun _ => True) W W' := keepA_below hb
  obtain ⟨v, h1, h2⟩ := h.row
  exact ⟨K.at_ trivial h.str, K.at_ trivial h.res, ⟨v, K.at_ trivial h1, h2.keep ⟨K.1, fun b cs t m _ => K.2 b cs t m trivial⟩⟩, K.at_ trivial h.flt, K.at_ trivial h.itr, h.bel.trans (hb.mono h.bel.size)⟩
theorem RJ.fault {w W : World} {s : ByteArray} {its : List It} {e p : Int} (h : RJ w s its e p W) (e' p' : Int) : RJ w s its e' p' ((W.setCell ⟨w.heap.size + 3, 0, none⟩ (.int .i64 e')).setCell ⟨w.heap.size + 3, 1, none⟩ (.int .i64 p')) := by
  have K : KeepA (fun b => b ≠ w.heap.size + 3) W ((W.setCell ⟨w.heap.size + 3, 0, none⟩ (.int .i64 e')).setCell ⟨w.heap.size + 3, 1, none⟩ (.int .i64 p')) := (keepA_set W _ 0 _ (fun b hb => hb)).trans (keepA_set _ _ 1 _ (fun b hb => hb))
  obtain ⟨v, h1, h2⟩ := h.row
  exact ⟨K.at_ (by omega) h.str, K.at_ (by omega) h.res, ⟨v, K.at_ (by omega) h1, h2.keep ⟨K.1, fun b cs t m hb => K.2 b cs t m (by omega)⟩⟩, set_lies 1 _ (set_lies 0 _ h.flt), K.at_ (by omega) h.itr,
    (h.bel.setCell (p := ⟨w.heap.size + 3, 0, none⟩) (by simp only; omega) _).setCell (p := ⟨w.heap.size + 3, 1, none⟩) (by simp only; omega) _⟩
theorem RJ.app {w W w3 : World} {s : ByteArray} {its : List It} {x : It} {e p : Int} {v v' : Value} (h : RJ w s its e p W) (hv : Boxed W (w.heap.size + 2) 50 v) (hc : ClsV (w.heap.size + 5) W v its) (hx : TxC (fun b => w.heap.size + 5 ≤ b ∧ v.ownBlock ≠ some b) W x)
    (ho : w3.ownsRow (w.heap.size + 5) 61 18 v' (its.length + 1) (its.flatMap clL ++ clL x)) (hg : W.grownBy w3 v.ownBlock) (hp : v'.ownBlock = v.ownBlock ∨ v'.ownBlock = some W.heap.size) :
    RJ w s (its ++ [x]) e p (w3.setCell ⟨w.heap.size + 2, 0, none⟩ v') ∧ Boxed w3 (w.heap.size + 2) 50 v := by
  have hlt := fun g hgv => ownA_lt hc.1 g hgv
  have K : KeepA (fun b => b < w.heap.size + 5) W w3 := keepA_grown hg (fun b hb e => by have := (hlt b e).1; omega)
  have K2 : KeepA (fun b => b ≠ w.heap.size + 2) w3 (w3.setCell ⟨w.heap.size + 2, 0, none⟩ v') := keepA_set w3 _ 0 _ (fun b hb => hb)
  have hs := hc.snoc hx ho hg hp
  have hb3 : Below w.heap.size w w3 := h.bel.trans (own_below hc.1 h.sz hg |>.mono (by omega))
  have hv3 : Boxed w3 (w.heap.size + 2) 50 v := K.at_ (by omega) hv
  exact ⟨⟨K2.at_ (by omega) (K.at_ (by omega) h.str), K2.at_ (by omega) (K.at_ (by omega) h.res), ⟨v', hv3.set v', hs.keep ⟨K2.1, fun b cs t m hb => K2.2 b cs t m (by omega)⟩⟩, K2.at_ (by omega) (K.at_ (by omega) h.flt), K2.at_ (by omega) (K.at_ (by omega) h.itr),
    hb3.setCell (p := ⟨w.heap.size + 2, 0, none⟩) (by simp only; omega) _⟩, hv3⟩
structure Goes29 (w : World) (s : ByteArray) (N : Nat) (pre : List It) (W : World) : Prop where
  fold : ∀ rest, foldC N (pre.map Prod.fst ++ rest) [] = foldC N rest (pre.map Prod.fst)
  ok : ∀ x ∈ pre, x.1.er = 0
  few : pre.length ≤ 32
  rj : RJ w s pre 0 0 W
structure Left29 (w : World) (s : ByteArray) (N : Nat) (k : Code) (pre : List It) (W : World) : Prop where
  code : k = .exit 0
  is : ∃ (e : Int) (p : Nat) (its : List It), e ≠ 0 ∧ (∀ rest, foldC N (pre.map Prod.fst ++ rest) [] = (e, p, [])) ∧ RJ w s its e p W
theorem fold_next {N : Nat} {pre : List It} {x : It} (h : ∀ rest, foldC N (pre.map Prod.fst ++ rest) [] = foldC N rest (pre.map Prod.fst)) (h1 : ¬(pre.length = 32 ∧ x.1.s < N)) (h2 : x.1.er = 0) :
    ∀ rest, foldC N ((pre ++ [x]).map Prod.fst ++ rest) [] = foldC N rest ((pre ++ [x]).map Prod.fst) := by
  intro rest
  rw [List.map_append, List.append_assoc, h]
  show foldC N (x.1 :: rest) (pre.map Prod.fst) = _
  conv => lhs; unfold foldC
  rw [if_neg (by rw [List.length_map]; exact h1), if_neg (by rw [h2]; simp)]
  rfl
theorem fold_many {N : Nat} {pre : List It} {x : It} (h : ∀ rest, foldC N (pre.map Prod.fst ++ rest) [] = foldC N rest (pre.map Prod.fst)) (h1 : pre.length = 32 ∧ x.1.s < N) :
    ∀ rest, foldC N ((pre ++ [x]).map Prod.fst ++ rest) [] = (12, x.1.s, []) := by
  intro rest
  rw [List.map_append, List.append_assoc, h]
  show foldC N (x.1 :: rest) (pre.map Prod.fst) = _
  unfold foldC
  rw [if_pos (by rw [List.length_map]; exact h1)]
theorem fold_bad {N : Nat} {pre : List It} {x : It} (h : ∀ rest, foldC N (pre.map Prod.fst ++ rest) [] = foldC N rest (pre.map Prod.fst)) (h1 : ¬(pre.length = 32 ∧ x.1.s < N)) (h2 : x.1.er ≠ 0) :
    ∀ rest, foldC N ((pre ++ [x]).map Prod.fst ++ rest) [] = (x.1.er, x.1.e, []) := by
  intro rest
  rw [List.map_append, List.append_assoc, h]
  show foldC N (x.1 :: rest) (pre.map Prod.fst) = _
  unfold foldC
  rw [if_neg (by rw [List.length_map]; exact h1), if_pos h2]
theorem seq_of_clauses (s : ByteArray) (Bs : Nat) (W1 : World) (hs : s.size ≤ 256) (hB : Boxed W1 Bs 9 (.string s)) :
    SeqC Fence.wide 4 Tryz.prog 87 #[.pointer (some ⟨Bs, 0, none⟩)] encC (CX (rowC s.data.toList 257 0)) (fun x => x.1.er = 0) (KpC Bs) (fun xs => xs.map Prod.fst = rowC s.data.toList 257 0) (fun pre => pre.map Prod.fst <+: rowC s.data.toList 257 0) W1 := by
  intro l J Jx W hW hJ hJx hY h0
  exact rowC_in 4 (by omega) l Bs s hs J Jx W.heap.size hJ hY W (boxed_below hB hW) h0
theorem KpC.trans {Bs : Nat} {Z A B D : World} (h : KpC Bs Z A B) (k : KpC Bs Z B D) : KpC Bs Z A D := ⟨fun b cs t m hb hh => k.1 b cs t m hb (h.1 b cs t m hb hh), k.2.trans h.2⟩
theorem boxed_inj {W : World} {B : Nat} {t : TypeId} {v v' : Value} (h : Boxed W B t v) (h' : Boxed W B t v') : v = v' := by
  have e := (show W.heap[B]? = _ from h).symm.trans (show W.heap[B]? = _ from h')
  simpa using e
theorem ClsV.weak {Z Z' : Nat} {W : World} {v : Value} {its : List It} (h : ClsV Z W v its) (hz : Z' ≤ Z) : ClsV Z' W v its := by
  refine ⟨⟨h.1.1, ?_⟩, fun x hx => (h.2 x hx).keep ⟨Nat.le_refl _, fun b cs t m _ hh => hh⟩ (fun b hb _ => ⟨by omega, hb.2⟩)⟩
  rcases h.1.2 with h2 | ⟨g, cap, cur, hv, hg, r⟩
  · exact .inl h2
  · exact .inr ⟨g, cap, cur, hv, by omega, r⟩
theorem keepA_past {A : Nat → Prop} {n₀ : Nat} {W W' : World} (h : Past n₀ W W') : KeepA A W W' := ⟨h.1.size, fun b cs t m _ hh => h.2 b _ hh rfl⟩
theorem keeps_below' {W W' : World} (h : Below W.heap.size W W') : KeepsOthers W W' := KeepsOthers.of_grownBy (grown_below h) (fun j o ej _ => by cases ej)
theorem clP_lt {l : List UInt8} {a : Nat} (h : (clP l a).er = 0) : a < l.length := by
  by_cases ha : a < l.length
  · exact ha
  · exfalso
    have hd : l.drop a = [] := List.drop_eq_nil_of_le (by omega)
    unfold clP at h
    rw [hd, if_pos (by decide)] at h
    revert h
    unfold misL
    dsimp only
    split <;> simp
theorem rowC_lt {l : List UInt8} {x : Cl} : ∀ n a, x ∈ rowC l n a → x.er = 0 → x.s < l.length
  | 0, a, h, _ => by cases h
  | n + 1, a, h, he => by
    unfold rowC at h
    split at h
    · rcases List.mem_cons.1 h with rfl | h
      · rw [clP_s]
        exact clP_lt he
      · split at h
        · exact rowC_lt n _ h he
        · cases h
    · cases h

end Go.Proofs.YtabmfdedbpmfmaaGreat

namespace Go.Proofs.YtabmfdedbpmfmaaGreat
open Go.RowKit Go.Shelf
set_option linter.unusedVariables false

theorem clP_none {l : List UInt8} {a : Nat} (h : (opGo (l.drop a) 8).1 = 8) : clP l a = ⟨8, pep0, [], false, a, a + (opGo (l.drop a) 8).2, misL l.length (a + (opGo (l.drop a) 8).2)⟩ := by
  unfold clP; rw [if_pos h]
theorem clP_zero {l : List UInt8} {a k b : Nat} (hk : k < 8) (h : (opGo (l.drop a) 8).1 = k) (hb : skL l (a + (sgn k).length) = b) (h0 : wdN (l.drop b) = 0) : clP l a = ⟨k, pep0, [], false, a, b, misL l.length b⟩ := by
  unfold clP; rw [if_neg (by omega), h, hb]; unfold rwL; rw [if_pos h0]
theorem clP_bad {l : List UInt8} {a k b p : Nat} {e : Int} (hk : k < 8) (h : (opGo (l.drop a) 8).1 = k) (hb : skL l (a + (sgn k).length) = b) (h0 : wdN (l.drop b) ≠ 0) (hw : wdR k (seg l b (b + wdN (l.drop b))) = .bad e p) :
    clP l a = ⟨k, pep0, [], false, a, b + p, e⟩ := by
  unfold clP; rw [if_neg (by omega), h, hb]; unfold rwL; rw [if_neg h0, hw]
theorem clP_good {l : List UInt8} {a k b z : Nat} {x : PepL} {t : List UInt8} {st : Bool} (hk : k < 8) (h : (opGo (l.drop a) 8).1 = k) (hb : skL l (a + (sgn k).length) = b) (h0 : wdN (l.drop b) ≠ 0) (hw : wdR k (seg l b (b + wdN (l.drop b))) = .ok x t st) (hz : skL l (b + wdN (l.drop b)) = z) :
    clP l a = ⟨k, x, t, st, a, z, if z < l.length ∧ l[z]? ≠ some 44 then 10 else 0⟩ := by
  unfold clP; rw [if_neg (by omega), h, hb]; unfold rwL; rw [if_neg h0, hw]; dsimp only; rw [hz]
def plL (c : Cl) : List Value := [.string (ofL (sgn c.k)), .string (ofL c.t), .bool c.st]
theorem plL_one (c : Cl) : ∀ u ∈ plL c, u.oneCell' = true := by
  intro u hu
  simp only [plL, List.mem_cons, List.not_mem_nil, or_false] at hu
  rcases hu with rfl | rfl | rfl <;> rfl
def PyAt (W : World) (v : Value) (cs : List Cl) : Prop :=
  ∃ a cap, v = .slice a cs.length cap ∧ (cs = [] ∨ ∃ b, a = some ⟨b, 0, none⟩ ∧ b < W.heap.size ∧ ∀ j u, (cs.flatMap plL)[j]? = some u → W.cell? ⟨b, j, none⟩ = some u)
theorem PyAt.nil (W : World) : PyAt W (.slice none 0 0) [] := ⟨none, 0, rfl, .inl rfl⟩
theorem py_own {W : World} {base : Nat} {v : Value} {cs : List Cl} (h : W.ownsRow base 32 3 v cs.length (cs.flatMap plL)) : PyAt W v cs := by
  obtain ⟨a, c, rfl, h0 | ⟨g, rfl, hg, hc⟩⟩ := ownA_cells h
  · exact ⟨a, c, rfl, .inl (List.length_eq_zero_iff.1 h0)⟩
  · exact ⟨_, c, rfl, .inr ⟨g, rfl, hg, hc⟩⟩
theorem PyAt.below {W W' : World} {v : Value} {cs : List Cl} (h : PyAt W v cs) (hb : Below W.heap.size W W') : PyAt W' v cs := by
  obtain ⟨a, c, rfl, h0 | ⟨g, rfl, hg, hc⟩⟩ := h
  · exact ⟨a, c, rfl, .inl h0⟩
  · exact ⟨_, c, rfl, .inr ⟨g, rfl, Nat.lt_of_lt_of_le hg hb.size, fun j u hj => (hb.cell hg).trans (hc j u hj)⟩⟩
def PyPost (r : Int × Nat × List Cl) (w : World) (e : Ending) (w' : World) : Prop :=
  Below w.heap.size w w' ∧ ∃ v, e = .returned (.tuple #[v, .int .i64 r.1, .int .i64 (r.2.1 : Int)]) ∧ PyAt w' v r.2.2 ∧ FreshC w.heap.size v
theorem fresh_nil (n : Nat) : FreshC n (.slice none 0 0) := fun a i c e => by cases e
theorem own_fresh {W : World} {base : Nat} {e : TypeId} {size : Nat} {v : Value} {n : Nat} {xs : List Value} (h : W.ownsRow base e size v n xs) : FreshC base v := fun a i c e => ⟨(ownA_lt h a.block (by rw [e]; rfl)).1, cap_row h _ _ _ e⟩
theorem info_parts {P : Program} {t : TypeId} {z : Value} {size bytes : Nat} (h : (P.info? t).map (fun i => (i.zero, i.size, i.bytes)) = some (some z, size, bytes)) : ∃ i, P.info? t = some i ∧ i.zero = some z ∧ i.size = size ∧ i.bytes = bytes := by
  cases hi : P.info? t with
  | none => rw [hi] at h; cases h
  | some i =>
    rw [hi] at h
    simp only [Option.map_some, Option.some.injEq, Prod.mk.injEq] at h
    exact ⟨i, rfl, h.1, h.2.1, h.2.2⟩
theorem info32 : (Tryz.prog.info? 32).map (fun i => (i.zero, i.size, i.bytes)) = some (some (.agg #[.string ⟨#[]⟩, .string ⟨#[]⟩, .bool false]), 3, 40) := by kernel_rfl
theorem news_at (W : World) (cs : Array Value) (t : TypeId) : ∀ j u, cs.toList[j]? = some u → (W.alloc (.cells cs t)).cell? ((⟨W.heap.size, 0, none⟩ : Addr).add j) = some u := by
  intro j u h
  have : (⟨W.heap.size, 0, none⟩ : Addr).add j = ⟨W.heap.size, j, none⟩ := by unfold Addr.add; split <;> simp_all
  rw [this]
  exact cell_at j (World.alloc_heap_new W _) (by simpa using h)

end Go.Proofs.YtabmfdedbpmfmaaGreat

namespace Go.Proofs.YtabmfdedbpmfmaaGreat
open Go.RowKit Go.Shelf
set_option linter.unusedVariables false

def Z61 : Array Value := #[.string ⟨#[]⟩, .nilFunc, .nilFunc, .bool false, .string ⟨#[]⟩, .slice none 0 0, .int .u8 0, .string ⟨#[]⟩, .bool false, .string ⟨#[]⟩, .bool false, .string ⟨#[]⟩, .slice none 0 0, .string ⟨#[]⟩, .bool false, .int .i64 0, .int .i64 0, .int .i64 0]
theorem info61 : (Tryz.prog.info? 61).map (fun i => (i.zero, i.size, i.bytes)) = some (some (.agg Z61), 18, 224) := by kernel_rfl
theorem run_alloc61 (w : World) : (Instr.alloc 61 true (.tuple #[])).run Tryz.prog w = .ok (.pointer (some ⟨w.heap.size, 0, none⟩)) (w.alloc (.cells Z61 61)) := by
  obtain ⟨i, hi, hz, hs, hb⟩ := info_parts info61
  simp [Instr.alloc, zeroValue, typeInfo, hi, hz, Value.cells, go_sem]
theorem zero61 : (Array.range (1 * 18)).map ((Value.agg Z61).cells[· % (Value.agg Z61).cells.size]!) = Z61 := by kernel_rfl
theorem fill61 (c : Cl) (vr vl : Value) : Instr.fill (fun i => some (i * 18, 18)) ((Array.range (1 * 18)).map ((Value.agg Z61).cells[· % (Value.agg Z61).cells.size]!)) [(0, .agg (clV c vr vl))] = some (clV c vr vl) := by
  rw [zero61]
  simp [Instr.fill, Z61, clV, Value.cells]
variable {F : Fence} {n : Nat} {ops : Array Oper} {rest : List Oper} {op : Oper} {a : Act} {w : World} {Q : Exit → Act → World → Prop}
theorem wpListIn_alloc61 (hgd : op.guard = none) (ho : op.op = .alloc 61) (h : wpListIn F n Tryz.prog ops Q rest (a.put op.dst (.pointer (some ⟨w.heap.size, 0, none⟩))) (w.alloc (.cells Z61 61))) : wpListIn F n Tryz.prog ops Q (op :: rest) a w := by
  refine wpListIn_plain hgd fun K hK => ?_
  unfold Oper.wpIn
  refine ⟨?_, ?_⟩
  · simp [Oper.about, ho]
  · rw [Oper.semAt_plain F _ _ (by rw [ho]; intro c hc'; cases hc')]
    simp only [execOp, ho, Sem.run_bind, Sem.run_pure, Result.andThen_ok, run_alloc61]
    exact hK _ _ h
theorem wpListIn_store_mid {P : Program} (hgd : op.guard = none) (ty : TypeId) (x y : Operand) (ho : op.op = .store ty x y)
    (b o : Nat) (cells : Array Value) (hx : a.eval x = .pointer (some ⟨b, o, none⟩)) (hy : a.eval y = .agg cells)
    (ht : w.there b o cells.size) (hi : (P.info? ty).map (·.size) = some cells.size) (h1 : cells.all (·.oneCell') = true)
    (h : wpListIn F n P ops Q rest (a.put op.dst undef) (w.setCells b o cells.toList)) : wpListIn F n P ops Q (op :: rest) a w := by
  refine wpListIn_plain hgd fun K hK => ?_
  unfold Oper.wpIn
  refine ⟨?_, ?_⟩
  · simp [Oper.about, ho]
  · rw [Oper.semAt_plain F _ _ (by rw [ho]; intro c hc'; cases hc')]
    simp only [execOp, ho, hx, hy, Instr.storeAt, Instr.sureAddr, Sem.run_bind, Sem.run_pure, Result.andThen_ok, run_storeVar_mid w b o ty cells ht hi h1]
    exact hK _ _ h
theorem wpListIn_build61 (hgd : op.guard = none) (x : Operand) (ho : op.op = .buildSlice 50 1 #[(0, x)]) (c : Cl) (vr vl : Value) (hx : a.eval x = .agg (clV c vr vl))
    (h : wpListIn F n Tryz.prog ops Q rest (a.put op.dst (.slice (some ⟨w.heap.size, 0, none⟩) 1 1)) (w.alloc (.cells (clV c vr vl) 61))) : wpListIn F n Tryz.prog ops Q (op :: rest) a w := by
  obtain ⟨i, hi, hz, hs, hb⟩ := info_parts info61
  have hr := run_buildSlice (P := Tryz.prog) w 50 61 1 #[(0, .agg (clV c vr vl))] (clV c vr vl) i (.agg Z61) Tryz.underlying50 hi hz (by rw [hs]; decide) (by rw [hs]; decide) (by rw [hs]; exact fill61 c vr vl)
  refine wpListIn_plain hgd fun K hK => ?_
  unfold Oper.wpIn
  refine ⟨?_, ?_⟩
  · simp [Oper.about, ho]
  · rw [Oper.semAt_plain F _ _ (by rw [ho]; intro c hc'; cases hc')]
    simp only [execOp, ho, List.map_toArray, List.map_cons, List.map_nil, hx, Sem.run_bind, Sem.run_pure, hr, Result.andThen_ok]
    exact hK _ _ h
theorem run_load50 (w : World) (b : Nat) (v : Value) (hc : w.cell? ⟨b, 0, none⟩ = some v) : (Instr.loadAt 50 (.pointer (some ⟨b, 0, none⟩))).run Tryz.prog w = .ok v w := by
  simp [Instr.loadAt, Instr.sureAddr, loadVar, hc, go_sem]
theorem size50 : (Tryz.prog.info? 50).map (·.size) = some 1 := by kernel_rfl
theorem run_store50 (w : World) (b : Nat) (u : Value) (x : Option Addr) (k c : Nat) (hc : w.cell? ⟨b, 0, none⟩ = some u) (hf : w.frozen? ⟨b, 0, none⟩ = false) : (Instr.storeAt 50 (.pointer (some ⟨b, 0, none⟩)) (.slice x k c)).run Tryz.prog w = .ok () (w.setCell ⟨b, 0, none⟩ (.slice x k c)) := by
  have hst := run_storeCells_cells (P := Tryz.prog) b 0 [.slice x k c] 0 w (fun j hj => by
    obtain rfl : j = 0 := by simpa using hj
    simp [hc]) (fun j hj => by
    obtain rfl : j = 0 := by simpa using hj
    simpa using hf) (fun v hv => by simp at hv; subst hv; rfl)
  have h5 := size50
  cases hq : Tryz.prog.info? 50 with
  | none => simp [hq] at h5
  | some i =>
    have hs : i.size = 1 := by simpa [hq] using h5
    simp only [Nat.add_zero, World.setCells] at hst
    simp [Instr.storeAt, Instr.sureAddr, storeVar, sizeOf, typeInfo, hq, hs, Value.cells, hst]
theorem wpListIn_load50 (hgd : op.guard = none) (x : Operand) (ho : op.op = .load 50 x) (b : Nat) (v : Value) (hx : a.eval x = .pointer (some ⟨b, 0, none⟩)) (hc : w.cell? ⟨b, 0, none⟩ = some v)
    (h : wpListIn F n Tryz.prog ops Q rest (a.put op.dst v) w) : wpListIn F n Tryz.prog ops Q (op :: rest) a w := by
  refine wpListIn_plain hgd fun K hK => ?_
  unfold Oper.wpIn
  refine ⟨?_, ?_⟩
  · simp [Oper.about, ho]
  · rw [Oper.semAt_plain F _ _ (by rw [ho]; intro c hc'; cases hc')]
    simp only [execOp, ho, hx, Sem.run_bind, Sem.run_pure, run_load50 w b v hc, Result.andThen_ok]
    exact hK _ _ h
theorem wpListIn_store50 (hgd : op.guard = none) (x y : Operand) (ho : op.op = .store 50 x y) (b : Nat) (u : Value) (v : Option Addr) (k c : Nat) (hx : a.eval x = .pointer (some ⟨b, 0, none⟩)) (hy : a.eval y = .slice v k c) (hc : w.cell? ⟨b, 0, none⟩ = some u) (hf : w.frozen? ⟨b, 0, none⟩ = false)
    (h : wpListIn F n Tryz.prog ops Q rest (a.put op.dst undef) (w.setCell ⟨b, 0, none⟩ (.slice v k c))) : wpListIn F n Tryz.prog ops Q (op :: rest) a w := by
  refine wpListIn_plain hgd fun K hK => ?_
  unfold Oper.wpIn
  refine ⟨?_, ?_⟩
  · simp [Oper.about, ho]
  · rw [Oper.semAt_plain F _ _ (by rw [ho]; intro c hc'; cases hc')]
    simp only [execOp, ho, hx, hy, Sem.run_bind, Sem.run_pure, run_store50 w b u v k c hc hf, Result.andThen_ok]
    exact hK _ _ h

end Go.Proofs.YtabmfdedbpmfmaaGreat
