/- Walks: the iterator over a from-to. -/
import Derived.Shelf.Abstract
import Derived.Shelf.RegionOpen
import Derived.OwnWalkIn
import Derived.TacticsInMore
import Derived.LoopNIn
import Derived.LoopIn
import Derived.Sort.QuietIn
import Derived.Test.YtpdlgiioahjhiaaGreatPEs
import Derived.IntWalk
namespace Go.Proofs.YtpdlgiioahjhiaaGreat
open Go.RowKit Go.Shelf
set_option linter.unusedVariables false
set_option maxHeartbeats 4000000
set_option maxRecDepth 100000
attribute [local go_sem] Oper.semAt_some
structure Item where
 p : PartL
 f : Nat
 err : Int
 pos : Int
def qgf (l : QB) (a : Nat) : Item := ⟨(rpL l (opE l a)).1, (opL l a).2, (rpL l (opE l a)).2.2, (rpL l (opE l a)).2.1⟩
def rowG (l : QB) : Nat → Nat → Nat → List Item
 | 0, _, _ => []
 | n + 1, k, a => if qcc l a = true then [] else if k = 32 then [⟨qcz, 0, 12, (a : Int)⟩] else if (qgf l a).err ≠ 0 then [qgf l a] else qgf l a :: rowG l n (k + 1) (blk l (qgf l a).pos.toNat)
def rowL (l : QB) (a : Nat) : List Item := rowG l 33 0 a
theorem qbrw {l : QB} {n k a : Nat} (h : qcc l a = true) : rowG l (n + 1) k a = [] := if_pos h
theorem qbjf {l : QB} {n a : Nat} (h : qcc l a = false) : rowG l (n + 1) 32 a = [⟨qcz, 0, 12, (a : Int)⟩] := by
 unfold rowG; rw [if_neg (by rw [h]; decide), if_pos rfl]
theorem qbrk {l : QB} {n k a : Nat} (h : qcc l a = false) (hk : k ≠ 32) (he : (qgf l a).err ≠ 0) : rowG l (n + 1) k a = [qgf l a] := by
 unfold rowG; rw [if_neg (by rw [h]; decide), if_neg hk, if_pos he]
theorem qbzz {l : QB} {n k a : Nat} (h : qcc l a = false) (hk : k ≠ 32) (he : (qgf l a).err = 0) : rowG l (n + 1) k a = qgf l a :: rowG l n (k + 1) (blk l (qgf l a).pos.toNat) := by
 rw [rowG, if_neg (by rw [h]; decide), if_neg hk, if_neg (by rw [he]; decide)]
def encI (x : Item × Value) : Array Value := #[qbnv x.1.p x.2 (fnV x.1.f) x.1.err, .int .i64 x.1.pos]
def CX (R Z : Nat) (items : List Item) (pre : List (Item × Value)) (x : Item × Value) (W0 W : World) : Prop :=
 pre.map Prod.fst ++ [x.1] <+: items ∧ Txt W x.2 x.1.p.pre ∧ Cap x.2 ∧ ((pre = [] ∧ CapA (fun b => R ≤ b ∧ b < Z) x.2) ∨ qhm W0.heap.size x.2) ∧ ∃ a n c, x.2 = .slice a n c
theorem qjb {W W' : World} (h : Below W.heap.size W W') : W.grownBy W' none := ⟨h.os, h.tape, h.output, h.size, fun k hk _ => h.block k hk⟩
theorem qbs {W W' : World} {B : Nat} {t : TypeId} {v : Value} (h : Boxed W B t v) (hb : Below W.heap.size W W') : Boxed W' B t v := (hb.block B h.lt).trans h
theorem qcbf {A B : List Item} {x : Item} (r : List Item) (h : A = B ++ x :: r) : B ++ [x] <+: A := ⟨r, by rw [h]; simp⟩
theorem row1_in (n : Nat) (hn : 1 ≤ n) (l Ba Bs : Nat) (s : QY) (a : Nat) (ha : a ≤ s.size) (hs : s.size ≤ 256) (J Jx : List (Item × Value) → World → Prop) (B0 : Nat) (hJ : AbidesFrom B0 J)
    (R Z : Nat) (hY : ∀ pre x W0 W, J pre W0 → J pre W → Below W0.heap.size W0 W → CX R Z (rowL s.data.toList a) pre x W0 W → YieldAt Fence.wide (n - 1) Tryz.prog l (encI x) W fun e W' =>
      (e = .returned (.bool true) ∧ x.1.err = 0 ∧ J (pre ++ [x]) W' ∧ Two Ba Bs W W') ∨ (e = .returned (.bool false) ∧ Jx (pre ++ [x]) W'))
    (W : World) (hBa : Boxed W Ba 3 (.int .i64 (a : Int))) (hBs : Boxed W Bs 9 (.string s)) (h0 : J [] W) :
    CallsIn Fence.wide n Tryz.prog 89 #[.func (.yield l) #[] #[], .pointer (some ⟨Ba, 0, none⟩), .pointer (some ⟨Bs, 0, none⟩)] W fun e W' => (∃ v, e = .returned v) ∧
      ((∃ xs : List (Item × Value), xs.map Prod.fst = rowL s.data.toList a ∧ J xs W') ∨ (∃ pre : List (Item × Value), pre.map Prod.fst <+: rowL s.data.toList a ∧ Jx pre W')) := by
  have cA0 := hBa.cell;refine callsIn_of_wp Tryz.func89 rfl trivial ?_ rfl;simp only [Tryz.ntmps89, List.size_toArray, List.length_cons, List.length_nil, Nat.reduceAdd, Nat.reduceSub, Array.replicate_succ, Array.replicate_zero, List.push_toArray, List.append_toArray, List.nil_append, List.cons_append];gi_wp2
  gi_quiet (fail)
  have hJ0 : J [] (W.drewN nq) := hJ [] W (W.drewN nq) none h0 (qjb (qbm _ _ _)) (fun r e => by cases e)
  have hBs0 : Boxed (W.drewN nq) Bs 9 (.string s) := qbs hBs (qbm _ _ _);have hBa0 : Boxed (W.drewN nq) Ba 3 (.int .i64 (a : Int)) := qbs hBa (qbm _ _ _);generalize W.drewN nq = V0 at *;gi_wp2
  gi_loopw [4, 5] (fun x y wr => ∃ (k c : Nat) (pre : List (Item × Value)), k ≤ 32 ∧ c ≤ s.size ∧ x = .int .i64 k ∧ y = .int .i64 c ∧ J pre wr ∧ Boxed wr Ba 3 (.int .i64 (a : Int)) ∧ Boxed wr Bs 9 (.string s) ∧
      Hid (rowL s.data.toList a = pre.map Prod.fst ++ rowG s.data.toList (33 - k) k c))
    (fun x _ _ => 33 - (intOf x).toNat)
  case atStart => exact ⟨0, a, [], by omega, ha, rfl, rfl, hJ0, hBa0, hBs0, rfl⟩
  case round =>
    obtain ⟨k, c, pre, hk, hc, rfl, rfl, hJs, bA, bS, HR⟩ := hrel;have cS := bS.cell;have CE := fun w => qgj s c w hc;obtain ⟨f, hf⟩ : ∃ f, 33 - k = f + 1 := ⟨32 - k, by omega⟩
    rw [hf] at HR;cases he : qcc s.data.toList c
    · rw [he] at CE
      have CE := qb CE
      by_cases hk32 : k = 32
      · subst hk32
        rw [qbjf he] at HR;have Y0 : YieldAt Fence.wide (n - 1) Tryz.prog l #[.agg #[.string ⟨#[]⟩, .string ⟨#[]⟩, .string ⟨#[]⟩, .slice none 0 0, .slice none 0 0, .int .i64 0, .nilFunc, .int .i64 12], .int .i64 (c : Int)] wr _ := hY pre (⟨qcz, 0, 12, (c : Int)⟩, .slice none 0 0) wr wr hJs hJs (Below.refl _ _) ⟨by rw [HR.out]; exact ⟨[], by simp⟩, qt _, capN (qt wr), .inr (by rintro a i c h; cases h), _, _, _, rfl⟩
        clear he hf;gi_wp2
        refine ⟨trivial, (callsIn_wide.2 (CE.out _)).mono ?_⟩;rintro e' w' ⟨rfl, hw'⟩;rw [hw']; clear hw' w';obtain ⟨fn, tmps, assign, body, hy, hRd⟩ := Y0;gi_wp2
        refine hRd.mono ?_;rintro e' W5 (⟨rfl, h12, _⟩ | ⟨rfl, hJx5⟩)
        · cases h12
        · gi_wp2
          refine bodyPost_ret (results_none rfl _ _ _) rfl ?_;exact ⟨⟨_, rfl⟩, .inr ⟨_, by rw [HR.out, List.map_append]; exact List.prefix_refl _, hJx5⟩⟩
      · have hko : k ≠ 32 := hk32
        have hkb : ((k : Int) == 32) = false := by simp; omega
        have RQ := qb (fun W => qbmg s c W hs hc);have hfn : (qgf s.data.toList c).f ≠ 0 := op_fn (s.data.toList.drop c) 9 (by omega) (by omega)
        have hE : opE s.data.toList c ≤ s.data.toList.length := qdh (qbzj (by rw [qh]; exact hc))
        have hok := fun h => qbbg (l := s.data.toList) hE h
        change Hid (∀ W, Calls Tryz.prog 90 #[.string s, .int .i64 (c : Int)] W (PartQ W (qgf s.data.toList c).f ((qgf s.data.toList c).p, (qgf s.data.toList c).pos, (qgf s.data.toList c).err))) at RQ
        change (qgf s.data.toList c).err = 0 → ∃ e : Nat, (qgf s.data.toList c).pos = (e : Int) ∧ _ at hok
        have hB := fun h => qbrk (n := f) he hko h;have hG := fun h => qbzz (n := f) he hko h;generalize qgf s.data.toList c = X at *;have hfv : fnV X.f = .func (.func X.f) #[] #[] := if_neg hfn;have HB := qb hB;have HG := qb hG;have HOK := qb hok;have HFV := qb hfv;clear he hB hG hok hfv hfn hE hk32;gi_wp2
        refine ⟨trivial, (callsIn_wide.2 (CE.out _)).mono ?_⟩;rintro e' w' ⟨rfl, hw'⟩;rw [hw']; clear hw' w';gi_wp2
        refine ⟨trivial, (callsIn_wide.2 (RQ.out _)).mono ?_⟩;rintro e' w1 ⟨hb1, v, rfl, t1, fr, cp, av, nv, cv, rfl⟩;unfold qbnv
        try dsimp only
        have hA1 : Below wr.heap.size wr (w1.alloc (.cells #[.string (qg X.p.maj), .string (qg X.p.min), .string (qg X.p.pat), .slice av nv cv, .slice none 0 0, .int .i64 (X.p.told : Int), .func (.func X.f) #[] #[], .int .i64 X.err] 58)) := hb1.alloc hb1.size _;have hJ1 := hJ pre wr _ none hJs (qjb hA1) (fun r e => by cases e)
        have bA1 := qbs bA hA1;have bS1 := qbs bS hA1;have t2 := t1.below ((Below.refl _ w1).alloc (Nat.le_refl _) (.cells #[.string (qg X.p.maj), .string (qg X.p.min), .string (qg X.p.pat), .slice av nv cv, .slice none 0 0, .int .i64 (X.p.told : Int), .func (.func X.f) #[] #[], .int .i64 X.err] 58))
        have hpre : pre.map Prod.fst ++ [X] <+: rowL s.data.toList a := by
          by_cases hx : X.err = 0
          · exact qcbf _ (by rw [HR.out, HG.out hx])
          · exact qcbf [] (by rw [HR.out, HB.out hx])
        have Y0 := hY pre (X, .slice av nv cv) wr _ hJs hJ1 hA1 ⟨hpre, t2, cp, .inr fr, _, _, _, rfl⟩;unfold encI qbnv at Y0;dsimp only at Y0;rw [HFV.out] at Y0;have n1 := World.alloc_heap_new w1 (.cells #[.string (qg X.p.maj), .string (qg X.p.min), .string (qg X.p.pat), .slice av nv cv, .slice none 0 0, .int .i64 (X.p.told : Int), .func (.func X.f) #[] #[], .int .i64 X.err] 58);have Y1 := qb Y0;have HJ1 := qb hJ1;have HP := qb hpre;clear t1 t2 fr cp hJ1 hpre Y0 hb1 cS;obtain ⟨fn, tmps, assign, body, hy, hRd⟩ := Y1.out;gi_wp2
        refine hRd.mono ?_;rintro e' W5 (⟨rfl, herr, hJ5, hT⟩ | ⟨rfl, hJx5⟩)
        · obtain ⟨e, hpe, _, hel⟩ := HOK.out herr
          rw [qh] at hel;obtain ⟨bA5, bS5⟩ := hT.boxed bA1 bS1;have cS5 := bS5.cell;have R6 := qb (Run6 s e hs hel X.pos hpe);have hle := qdh (l := s.data.toList) (a := e) (by rw [qh]; exact hel)
          rw [qh] at hle
          have HQ : Hid (rowL s.data.toList a = (pre ++ [(X, Value.slice av nv cv)]).map Prod.fst ++ rowG s.data.toList f (k + 1) (blk s.data.toList e)) := by
            show _ = _;rw [HR.out, HG.out herr, hpe, Int.toNat_natCast];simp
          have HE := qb hpe;clear hpe hy hRd;gi_wp2
          refine ⟨trivial, (callsIn_wide.2 (R6.out _)).mono ?_⟩;rintro e' w' ⟨rfl, hw'⟩;rw [hw']; clear hw' w';gi_wp2
          go_roundw
          case rel => exact ⟨k + 1, blk s.data.toList e, pre ++ [(X, .slice av nv cv)], by omega, hle, by go_num, rfl, hJ5, bA5, bS5, by show _ = _; rw [HQ.out, show 33 - (k + 1) = f by omega]⟩
          case measure => simp [intOf]; omega
        · gi_wp2
          refine bodyPost_ret (results_none rfl _ _ _) rfl ?_;exact ⟨⟨_, rfl⟩, .inr ⟨_, by rw [List.map_append]; exact HP.out, hJx5⟩⟩
    · rw [he] at CE
      have CE := qb CE;rw [qbrw he, List.append_nil] at HR;clear he hf;gi_wp2
      refine ⟨trivial, (callsIn_wide.2 (CE.out _)).mono ?_⟩;rintro e' w' ⟨rfl, hw'⟩;rw [hw']; clear hw' w';gi_wp2
      refine bodyPost_end (results_none rfl _ _ _) rfl ?_;exact ⟨⟨_, rfl⟩, .inl ⟨pre, HR.out.symm, hJs⟩⟩
end Go.Proofs.YtpdlgiioahjhiaaGreat

namespace Go.Proofs.YtpdlgiioahjhiaaGreat
open Go.RowKit Go.Shelf
set_option linter.unusedVariables false
set_option maxHeartbeats 4000000
set_option maxRecDepth 100000
attribute [local go_sem] Oper.semAt_some
def Tri (b c d : Nat) (W W' : World) : Prop := W'.heap[b]? = W.heap[b]? ∧ W'.heap[c]? = W.heap[c]? ∧ W'.heap[d]? = W.heap[d]?
def toI (l : QB) (e : Nat) : Item := ⟨(qgh l (blk l e + 1)).1, 87, (qgh l (blk l e + 1)).2.2, (qgh l (blk l e + 1)).2.1⟩
def ftL (l : QB) (p : PartL) (e : Nat) : List Item :=
 ⟨p, 85, 0, (e : Int)⟩ :: toI l e :: (if (toI l e).err = 0 ∧ qcc l (blk l (toI l e).pos.toNat) = false then [⟨qcz, 0, 10, (blk l (toI l e).pos.toNat : Int)⟩] else [])
theorem qbzb {l : QB} {a : Nat} (ha : a ≤ l.length) (h : (qgh l a).2.2 = 0) : ∃ e : Nat, (qgh l a).2.1 = (e : Int) ∧ e ≤ l.length := by
 unfold qgh at *;split at h
 ·exact absurd h (by show misL l.length a ≠ 0; unfold misL; split <;> decide)
 ·rename_i hb;rw [if_neg hb];obtain ⟨e, he, _, h2⟩ := qbbg (qdh ha) h;exact ⟨e, he, h2⟩
theorem from1_in (n : Nat) (hn : 1 ≤ n) (l Bp Be Bs : Nat) (s : QY) (p : PartL) (e : Nat) (av : Option Addr) (nv cv : Nat) (he : e ≤ s.size) (hs : s.size ≤ 256) (hd : blk s.data.toList e + 1 ≤ s.size)
    (J Jx : List (Item × Value) → World → Prop) (B0 : Nat) (hJ : AbidesFrom B0 J)
    (R Z : Nat) (hfr : CapA (fun b => R ≤ b ∧ b < Z) (.slice av nv cv)) (hY : ∀ pre x W0 W, J pre W0 → J pre W → Below W0.heap.size W0 W → CX R Z (ftL s.data.toList p e) pre x W0 W → YieldAt Fence.wide (n - 1) Tryz.prog l (encI x) W fun e W' =>
      (e = .returned (.bool true) ∧ x.1.err = 0 ∧ J (pre ++ [x]) W' ∧ Tri Bp Be Bs W W') ∨ (e = .returned (.bool false) ∧ Jx (pre ++ [x]) W'))
    (W : World) (hBp : W.heap[Bp]? = some (.cells #[.string (qg p.maj), .string (qg p.min), .string (qg p.pat), .slice av nv cv, .slice none 0 0, .int .i64 (p.told : Int)] 54 (0, 0))) (hBe : Boxed W Be 3 (.int .i64 (e : Int))) (hBs : Boxed W Bs 9 (.string s)) (ht : Txt W (.slice av nv cv) p.pre) (hcp : Cap (.slice av nv cv)) (h0 : J [] W) :
    CallsIn Fence.wide n Tryz.prog 84 #[.func (.yield l) #[] #[], .pointer (some ⟨Bp, 0, none⟩), .pointer (some ⟨Be, 0, none⟩), .pointer (some ⟨Bs, 0, none⟩)] W fun r W' => (∃ v, r = .returned v) ∧
      ((∃ xs : List (Item × Value), xs.map Prod.fst = ftL s.data.toList p e ∧ J xs W') ∨ (∃ pre : List (Item × Value), pre.map Prod.fst <+: ftL s.data.toList p e ∧ Jx pre W')) := by
  have q0 := qd 0 hBp rfl;have q1 := qd 1 hBp rfl;have q2 := qd 2 hBp rfl;have q3 := qd 3 hBp rfl;have q4 := qd 4 hBp rfl;have q5 := qd 5 hBp rfl;have ce := hBe.cell;have cs := hBs.cell;have hP1 : [(⟨p, 85, 0, (e : Int)⟩ : Item)] <+: ftL s.data.toList p e := ⟨_, rfl⟩;have hP2 : [(⟨p, 85, 0, (e : Int)⟩ : Item), toI s.data.toList e] <+: ftL s.data.toList p e := ⟨_, rfl⟩;have Y1 : YieldAt Fence.wide (n - 1) Tryz.prog l #[.agg #[.string (qg p.maj), .string (qg p.min), .string (qg p.pat), .slice av nv cv, .slice none 0 0, .int .i64 (p.told : Int), .func (.func 85) #[] #[], .int .i64 0], .int .i64 (e : Int)] W _ := hY [] (⟨p, 85, 0, (e : Int)⟩, .slice av nv cv) W W h0 h0 (Below.refl _ _) ⟨hP1, ht, hcp, .inl ⟨rfl, hfr⟩, _, _, _, rfl⟩;obtain ⟨fn, tmps, assign, body, hy, hRd⟩ := Y1;have R6 := qb (Run6 s e hs he (e : Int) rfl);have RT := qb (fun (z : Int) W (hz : z = (blk s.data.toList e : Int) + 1) => (by rw [hz]; exact qbtz s (blk s.data.toList e + 1) W hs hd : Calls Tryz.prog 86 #[.string s, .int .i64 z] W (PartP W (qgh s.data.toList (blk s.data.toList e + 1)))))
  have hok := qb (fun h => qbzb (l := s.data.toList) (a := blk s.data.toList e + 1) (by rw [qh]; exact hd) h)
  have hF1 : (qgh s.data.toList (blk s.data.toList e + 1)).2.2 = 0 → qcc s.data.toList (blk s.data.toList (qgh s.data.toList (blk s.data.toList e + 1)).2.1.toNat) = true → ftL s.data.toList p e = [⟨p, 85, 0, (e : Int)⟩, toI s.data.toList e] := fun h1 h2 => by
    unfold ftL;rw [if_neg (fun h => by have h3 := h.2; unfold toI at h3; dsimp only at h3; rw [h2] at h3; cases h3)]
  have hF2 : (qgh s.data.toList (blk s.data.toList e + 1)).2.2 = 0 → qcc s.data.toList (blk s.data.toList (qgh s.data.toList (blk s.data.toList e + 1)).2.1.toNat) = false → ftL s.data.toList p e = [⟨p, 85, 0, (e : Int)⟩, toI s.data.toList e, ⟨qcz, 0, 10, (blk s.data.toList (qgh s.data.toList (blk s.data.toList e + 1)).2.1.toNat : Int)⟩] := fun h1 h2 => by
    unfold ftL;rw [if_pos ⟨h1, h2⟩]
    rfl
  unfold toI at hP2 hF1 hF2;generalize qgh s.data.toList (blk s.data.toList e + 1) = D at *;obtain ⟨q, z, r⟩ := D;dsimp only at hP2 hF1 hF2 hok RT;have HF1 := qb hF1;have HF2 := qb hF2;have HP1 := qb hP1;have HP2 := qb hP2;clear hF1 hF2;have hlb : blk s.data.toList e ≤ 256 := by omega
  have hwr : IntKind.i64.wrap ((blk s.data.toList e : Int) + 1) = (blk s.data.toList e : Int) + 1 := by rw [IntKind.wrap_i64]; omega
  clear hP1 hP2;refine callsIn_of_wp Tryz.func84 rfl trivial ?_ rfl;simp only [Tryz.ntmps84, List.size_toArray, List.length_cons, List.length_nil, Nat.reduceAdd, Nat.reduceSub, Array.replicate_succ, Array.replicate_zero, List.push_toArray, List.append_toArray, List.nil_append, List.cons_append];gi_wp2
  refine hRd.mono ?_;rintro e' W5 (⟨rfl, _, hJ5, hT⟩ | ⟨rfl, hJx5⟩)
  case inr =>
    gi_wp2
    refine bodyPost_ret (results_none rfl _ _ _) rfl ?_;exact ⟨⟨_, rfl⟩, .inr ⟨[(⟨p, 85, 0, (e : Int)⟩, .slice av nv cv)], HP1.out, hJx5⟩⟩
  have hBe5 : Boxed W5 Be 3 (.int .i64 (e : Int)) := hT.2.1.trans hBe;have hBs5 : Boxed W5 Bs 9 (.string s) := hT.2.2.trans hBs;have ce5 := hBe5.cell;have cs5 := hBs5.cell;have hBe6 : Boxed W5.drew Be 3 (.int .i64 (e : Int)) := qbs hBe5 (qbh _ _);have hBs6 : Boxed W5.drew Bs 9 (.string s) := qbs hBs5 (qbh _ _);have bA : Below W5.heap.size W5 (W5.alloc (.cells #[.string ⟨#[]⟩, .string ⟨#[]⟩, .string ⟨#[]⟩, .slice none 0 0, .slice none 0 0, .int .i64 0] 54)).drew := ((Below.refl _ W5).alloc (Nat.le_refl _) (.cells #[.string ⟨#[]⟩, .string ⟨#[]⟩, .string ⟨#[]⟩, .slice none 0 0, .slice none 0 0, .int .i64 0] 54)).trans (qbh _ _);have hBe8 : Boxed (W5.alloc (.cells #[.string ⟨#[]⟩, .string ⟨#[]⟩, .string ⟨#[]⟩, .slice none 0 0, .slice none 0 0, .int .i64 0] 54)).drew Be 3 (.int .i64 (e : Int)) := qbs hBe5 bA;have hBs8 : Boxed (W5.alloc (.cells #[.string ⟨#[]⟩, .string ⟨#[]⟩, .string ⟨#[]⟩, .slice none 0 0, .slice none 0 0, .int .i64 0] 54)).drew Bs 9 (.string s) := qbs hBs5 bA;have n8 : (W5.alloc (.cells #[.string ⟨#[]⟩, .string ⟨#[]⟩, .string ⟨#[]⟩, .slice none 0 0, .slice none 0 0, .int .i64 0] 54)).drew.heap[W5.heap.size]? = some (.cells #[.string ⟨#[]⟩, .string ⟨#[]⟩, .string ⟨#[]⟩, .slice none 0 0, .slice none 0 0, .int .i64 0] 54) := qll (World.alloc_heap_new W5 (.cells #[.string ⟨#[]⟩, .string ⟨#[]⟩, .string ⟨#[]⟩, .slice none 0 0, .slice none 0 0, .int .i64 0] 54));have hl8 := (Array.getElem?_eq_some_iff.1 n8).1
  have ce8 := hBe8.cell;have cs8 := hBs8.cell;have ne3 := World.new_ne W5 _ ce5;have ne4 := World.new_ne W5 _ cs5;dsimp only at ne3 ne4;have NB8 := qb n8;have HL8 := qb hl8;clear q0 q1 q2 q3 q4 q5 ce cs hy hRd n8 hl8;gi_wp2
  refine wpIn_wide.2 ?_
  go_region_held3 (fun W' => W'.cell? ⟨Be, 0, none⟩ = some (.int .i64 (e : Int)) ∧ W'.cell? ⟨Bs, 0, none⟩ = some (.string s)) (go_keep) ((first
    | (go_at_call 28; refine (R6.out _).mono ?_; rintro e9 w9 ⟨rfl, hw9⟩; rw [hw9]; clear hw9 w9)
    | (go_at_call 86; refine (RT.out _ _ rfl).mono ?_; rintro e9 w2 ⟨hb2, v2, rfl, t2, fr2, cp2, a2, n2, c2, rfl⟩; (first | (have hBe7 := qbs hBe6 hb2; have hBs7 := qbs hBs6 hb2; have hW2 : Below W5.heap.size W5 w2 := (qbh _ W5).trans (hb2.mono (Nat.le_refl _))) | (have hW2 : Below W5.heap.size W5 w2 := bA.trans (hb2.mono bA.size); have hBe7 := qbs hBe8 hb2; have hBs7 := qbs hBs8 hb2; have z2 := (hb2.block _ HL8.out).trans NB8.out; have k0 := qd 0 z2 rfl; have k1 := qd 1 z2 rfl; have k2 := qd 2 z2 rfl; have k3 := qd 3 z2 rfl; have k4 := qd 4 z2 rfl; have k5 := qd 5 z2 rfl; have o0 := qf 0 z2; have o1 := qf 1 z2; have o2 := qf 2 z2; have o3 := qf 3 z2; have o4 := qf 4 z2; have o5 := qf 5 z2)); have ce7 := hBe7.cell; have cs7 := hBs7.cell; have ne1 := World.new_ne w2 _ ce7; have ne2 := World.new_ne w2 _ cs7; dsimp only at ne1 ne2; unfold qjj)
    | fail))
  · have hq := World.alloc_heap_new w2 (.cells #[.string (qg q.maj), .string (qg q.min), .string (qg q.pat), .slice a2 n2 c2, .slice none 0 0, .int .i64 (q.told : Int)] 54)
    have hV := hW2.alloc hW2.size (.cells #[.string (qg q.maj), .string (qg q.min), .string (qg q.pat), .slice a2 n2 c2, .slice none 0 0, .int .i64 (q.told : Int)] 54);have tV := t2.below ((Below.refl _ w2).alloc (Nat.le_refl _) (.cells #[.string (qg q.maj), .string (qg q.min), .string (qg q.pat), .slice a2 n2 c2, .slice none 0 0, .int .i64 (q.told : Int)] 54));generalize w2.alloc (.cells #[.string (qg q.maj), .string (qg q.min), .string (qg q.pat), .slice a2 n2 c2, .slice none 0 0, .int .i64 (q.told : Int)] 54) = V at *;generalize w2.heap.size = B5 at *;have HV := qb hV;have FR := qb (qdn fr2 (Nat.le_refl W5.heap.size));clear hV fr2 ce7 cs7 ne1 ne2 ne3 ne4 ce8 cs8 hBe6 hBs6 hBe7 hBs7 hBe8 hBs8 bA NB8 HL8 ce5 cs5 hwr;have hBe9 := qbs hBe5 HV.out;have hBs9 := qbs hBs5 HV.out;have cs9 := hBs9.cell;have m0 := qd 0 hq rfl;have m1 := qd 1 hq rfl;have m2 := qd 2 hq rfl;have m3 := qd 3 hq rfl;have m4 := qd 4 hq rfl;have m5 := qd 5 hq rfl;have hJ9 := hJ _ W5 V none hJ5 (qjb HV.out) (fun r e => by cases e)
    have Y2 : YieldAt Fence.wide (n - 1) Tryz.prog l #[.agg #[.string (qg q.maj), .string (qg q.min), .string (qg q.pat), .slice a2 n2 c2, .slice none 0 0, .int .i64 (q.told : Int), .func (.func 87) #[] #[], .int .i64 r], .int .i64 z] V _ := hY [(⟨p, 85, 0, (e : Int)⟩, .slice av nv cv)] (⟨q, 87, r, z⟩, .slice a2 n2 c2) W5 V hJ5 hJ9 HV.out ⟨HP2.out, tV, cp2, .inr FR.out, _, _, _, rfl⟩;obtain ⟨fn2, tmps2, assign2, body2, hy2, hRd2⟩ := Y2
    try dsimp only
    gi_wp2
    refine hRd2.mono ?_;rintro e7 W7 (⟨rfl, herr, hJ7, hT7⟩ | ⟨rfl, hJx7⟩)
    case inr =>
      gi_wp2
      refine bodyPost_ret (results_none rfl _ _ _) rfl ?_;exact ⟨⟨_, rfl⟩, .inr ⟨[(⟨p, 85, 0, (e : Int)⟩, .slice av nv cv), (⟨q, 87, r, z⟩, .slice a2 n2 c2)], HP2.out, hJx7⟩⟩
    obtain ⟨e2, hz, hel⟩ := hok.out herr;rw [qh] at hel;have hBs10 : Boxed W7 Bs 9 (.string s) := hT7.2.2.trans hBs9;have cs10 := hBs10.cell;have hle := qdh (l := s.data.toList) (a := e2) (by rw [qh]; exact hel)
    rw [qh] at hle;have R7 := qb (Run6 s e2 hs hel z hz);have CE := fun w => qgj s (blk s.data.toList e2) w hle;have HG1 := qb (HF1.out herr);have HG2 := qb (HF2.out herr);rw [show z.toNat = e2 by rw [hz]; exact Int.toNat_natCast _] at HG1 HG2
    have HZ := qb hz;clear m0 m1 m2 m3 m4 m5 hy2 hRd2 cs9 hz;generalize blk s.data.toList e2 = d at *;cases hE : qcc s.data.toList d
    · rw [hE] at CE
      have CE := qb CE;have HL := qb (HG2.out hE);have hJ7' := qb hJ7;have Y3 : YieldAt Fence.wide (n - 1) Tryz.prog l #[.agg #[.string ⟨#[]⟩, .string ⟨#[]⟩, .string ⟨#[]⟩, .slice none 0 0, .slice none 0 0, .int .i64 0, .nilFunc, .int .i64 10], .int .i64 (d : Int)] W7 _ := hY [(⟨p, 85, 0, (e : Int)⟩, .slice av nv cv), (⟨q, 87, r, z⟩, .slice a2 n2 c2)] (⟨qcz, 0, 10, (d : Int)⟩, .slice none 0 0) W7 W7 hJ7 hJ7 (Below.refl _ _) ⟨by rw [HL.out]; exact List.prefix_refl _, qt _, capN (qt W7), .inr (by rintro a i c h; cases h), _, _, _, rfl⟩
      obtain ⟨fn3, tmps3, assign3, body3, hy3, hRd3⟩ := Y3;clear hE;gi_wp2
      refine ⟨trivial, (callsIn_wide.2 (R7.out _)).mono ?_⟩;rintro e9 w9 ⟨rfl, hw9⟩;rw [hw9]; clear hw9 w9;gi_wp2
      refine ⟨trivial, (callsIn_wide.2 (CE.out _)).mono ?_⟩;rintro e9 w9 ⟨rfl, hw9⟩;rw [hw9]; clear hw9 w9;gi_wp2
      refine hRd3.mono ?_;rintro e8 W8 (⟨rfl, h10, _⟩ | ⟨rfl, hJx8⟩)
      · cases h10
      · gi_wp2
        refine bodyPost_end (results_none rfl _ _ _) rfl ?_;exact ⟨⟨_, rfl⟩, .inr ⟨[(⟨p, 85, 0, (e : Int)⟩, .slice av nv cv), (⟨q, 87, r, z⟩, .slice a2 n2 c2), (⟨qcz, 0, 10, (d : Int)⟩, .slice none 0 0)], by rw [HL.out]; exact List.prefix_refl _, hJx8⟩⟩
    · rw [hE] at CE
      have CE := qb CE;have HL := qb (HG1.out hE);clear hE;gi_wp2
      refine ⟨trivial, (callsIn_wide.2 (R7.out _)).mono ?_⟩;rintro e9 w9 ⟨rfl, hw9⟩;rw [hw9]; clear hw9 w9;gi_wp2
      refine ⟨trivial, (callsIn_wide.2 (CE.out _)).mono ?_⟩;rintro e9 w9 ⟨rfl, hw9⟩;rw [hw9]; clear hw9 w9;gi_wp2
      refine bodyPost_end (results_none rfl _ _ _) rfl ?_;exact ⟨⟨_, rfl⟩, .inl ⟨[(⟨p, 85, 0, (e : Int)⟩, .slice av nv cv), (⟨q, 87, r, z⟩, .slice a2 n2 c2)], HL.out.symm, hJ7⟩⟩
  · have hq := put6 (.string (qg q.maj)) (.string (qg q.min)) (.string (qg q.pat)) (.slice a2 n2 c2) (.slice none 0 0) (.int .i64 (q.told : Int)) z2
    have hV := qck hW2 (.string (qg q.maj)) (.string (qg q.min)) (.string (qg q.pat)) (.slice a2 n2 c2) (.slice none 0 0) (.int .i64 (q.told : Int));have tV := txt6 t2 fr2 (B := W5.heap.size) HL8.out (.string (qg q.maj)) (.string (qg q.min)) (.string (qg q.pat)) (.slice a2 n2 c2) (.slice none 0 0) (.int .i64 (q.told : Int));generalize ((((((w2.setCell ⟨W5.heap.size, 0, none⟩ (.string (qg q.maj))).setCell ⟨W5.heap.size, 1, none⟩ (.string (qg q.min))).setCell ⟨W5.heap.size, 2, none⟩ (.string (qg q.pat))).setCell ⟨W5.heap.size, 3, none⟩ (.slice a2 n2 c2)).setCell ⟨W5.heap.size, 4, none⟩ (.slice none 0 0)).setCell ⟨W5.heap.size, 5, none⟩ (.int .i64 (q.told : Int))) = V at *;have HV := qb hV;have FR := qb (qdn fr2 (Nat.le_of_lt HL8.out));clear hV fr2 z2 k0 k1 k2 k3 k4 k5 o0 o1 o2 o3 o4 o5 ce7 cs7 ne1 ne2 ne3 ne4 ce8 cs8 hBe6 hBs6 hBe7 hBs7 hBe8 hBs8 bA NB8 HL8 ce5 cs5 hwr;generalize W5.heap.size = B5 at hq ⊢;have hBe9 := qbs hBe5 HV.out;have hBs9 := qbs hBs5 HV.out;have cs9 := hBs9.cell;have m0 := qd 0 hq rfl;have m1 := qd 1 hq rfl;have m2 := qd 2 hq rfl;have m3 := qd 3 hq rfl;have m4 := qd 4 hq rfl;have m5 := qd 5 hq rfl;have hJ9 := hJ _ W5 V none hJ5 (qjb HV.out) (fun r e => by cases e)
    have Y2 : YieldAt Fence.wide (n - 1) Tryz.prog l #[.agg #[.string (qg q.maj), .string (qg q.min), .string (qg q.pat), .slice a2 n2 c2, .slice none 0 0, .int .i64 (q.told : Int), .func (.func 87) #[] #[], .int .i64 r], .int .i64 z] V _ := hY [(⟨p, 85, 0, (e : Int)⟩, .slice av nv cv)] (⟨q, 87, r, z⟩, .slice a2 n2 c2) W5 V hJ5 hJ9 HV.out ⟨HP2.out, tV, cp2, .inr FR.out, _, _, _, rfl⟩;obtain ⟨fn2, tmps2, assign2, body2, hy2, hRd2⟩ := Y2
    try dsimp only
    gi_wp2
    refine hRd2.mono ?_;rintro e7 W7 (⟨rfl, herr, hJ7, hT7⟩ | ⟨rfl, hJx7⟩)
    case inr =>
      gi_wp2
      refine bodyPost_ret (results_none rfl _ _ _) rfl ?_;exact ⟨⟨_, rfl⟩, .inr ⟨[(⟨p, 85, 0, (e : Int)⟩, .slice av nv cv), (⟨q, 87, r, z⟩, .slice a2 n2 c2)], HP2.out, hJx7⟩⟩
    obtain ⟨e2, hz, hel⟩ := hok.out herr;rw [qh] at hel;have hBs10 : Boxed W7 Bs 9 (.string s) := hT7.2.2.trans hBs9;have cs10 := hBs10.cell;have hle := qdh (l := s.data.toList) (a := e2) (by rw [qh]; exact hel)
    rw [qh] at hle;have R7 := qb (Run6 s e2 hs hel z hz);have CE := fun w => qgj s (blk s.data.toList e2) w hle;have HG1 := qb (HF1.out herr);have HG2 := qb (HF2.out herr);rw [show z.toNat = e2 by rw [hz]; exact Int.toNat_natCast _] at HG1 HG2
    have HZ := qb hz;clear m0 m1 m2 m3 m4 m5 hy2 hRd2 cs9 hz;generalize blk s.data.toList e2 = d at *;cases hE : qcc s.data.toList d
    · rw [hE] at CE
      have CE := qb CE;have HL := qb (HG2.out hE);have hJ7' := qb hJ7;have Y3 : YieldAt Fence.wide (n - 1) Tryz.prog l #[.agg #[.string ⟨#[]⟩, .string ⟨#[]⟩, .string ⟨#[]⟩, .slice none 0 0, .slice none 0 0, .int .i64 0, .nilFunc, .int .i64 10], .int .i64 (d : Int)] W7 _ := hY [(⟨p, 85, 0, (e : Int)⟩, .slice av nv cv), (⟨q, 87, r, z⟩, .slice a2 n2 c2)] (⟨qcz, 0, 10, (d : Int)⟩, .slice none 0 0) W7 W7 hJ7 hJ7 (Below.refl _ _) ⟨by rw [HL.out]; exact List.prefix_refl _, qt _, capN (qt W7), .inr (by rintro a i c h; cases h), _, _, _, rfl⟩
      obtain ⟨fn3, tmps3, assign3, body3, hy3, hRd3⟩ := Y3;clear hE;gi_wp2
      refine ⟨trivial, (callsIn_wide.2 (R7.out _)).mono ?_⟩;rintro e9 w9 ⟨rfl, hw9⟩;rw [hw9]; clear hw9 w9;gi_wp2
      refine ⟨trivial, (callsIn_wide.2 (CE.out _)).mono ?_⟩;rintro e9 w9 ⟨rfl, hw9⟩;rw [hw9]; clear hw9 w9;gi_wp2
      refine hRd3.mono ?_;rintro e8 W8 (⟨rfl, h10, _⟩ | ⟨rfl, hJx8⟩)
      · cases h10
      · gi_wp2
        refine bodyPost_end (results_none rfl _ _ _) rfl ?_;exact ⟨⟨_, rfl⟩, .inr ⟨[(⟨p, 85, 0, (e : Int)⟩, .slice av nv cv), (⟨q, 87, r, z⟩, .slice a2 n2 c2), (⟨qcz, 0, 10, (d : Int)⟩, .slice none 0 0)], by rw [HL.out]; exact List.prefix_refl _, hJx8⟩⟩
    · rw [hE] at CE
      have CE := qb CE;have HL := qb (HG1.out hE);clear hE;gi_wp2
      refine ⟨trivial, (callsIn_wide.2 (R7.out _)).mono ?_⟩;rintro e9 w9 ⟨rfl, hw9⟩;rw [hw9]; clear hw9 w9;gi_wp2
      refine ⟨trivial, (callsIn_wide.2 (CE.out _)).mono ?_⟩;rintro e9 w9 ⟨rfl, hw9⟩;rw [hw9]; clear hw9 w9;gi_wp2
      refine bodyPost_end (results_none rfl _ _ _) rfl ?_;exact ⟨⟨_, rfl⟩, .inl ⟨[(⟨p, 85, 0, (e : Int)⟩, .slice av nv cv), (⟨q, 87, r, z⟩, .slice a2 n2 c2)], HL.out.symm, hJ7⟩⟩
  · have hq := put6 (.string (qg q.maj)) (.string (qg q.min)) (.string (qg q.pat)) (.slice a2 n2 c2) (.slice none 0 0) (.int .i64 (q.told : Int)) z2
    have hV := qck hW2 (.string (qg q.maj)) (.string (qg q.min)) (.string (qg q.pat)) (.slice a2 n2 c2) (.slice none 0 0) (.int .i64 (q.told : Int));have tV := txt6 t2 fr2 (B := W5.heap.size) HL8.out (.string (qg q.maj)) (.string (qg q.min)) (.string (qg q.pat)) (.slice a2 n2 c2) (.slice none 0 0) (.int .i64 (q.told : Int));generalize ((((((w2.setCell ⟨W5.heap.size, 0, none⟩ (.string (qg q.maj))).setCell ⟨W5.heap.size, 1, none⟩ (.string (qg q.min))).setCell ⟨W5.heap.size, 2, none⟩ (.string (qg q.pat))).setCell ⟨W5.heap.size, 3, none⟩ (.slice a2 n2 c2)).setCell ⟨W5.heap.size, 4, none⟩ (.slice none 0 0)).setCell ⟨W5.heap.size, 5, none⟩ (.int .i64 (q.told : Int))) = V at *;have HV := qb hV;have FR := qb (qdn fr2 (Nat.le_of_lt HL8.out));clear hV fr2 z2 k0 k1 k2 k3 k4 k5 o0 o1 o2 o3 o4 o5 ce7 cs7 ne1 ne2 ne3 ne4 ce8 cs8 hBe6 hBs6 hBe7 hBs7 hBe8 hBs8 bA NB8 HL8 ce5 cs5 hwr;generalize W5.heap.size = B5 at hq ⊢;have hBe9 := qbs hBe5 HV.out;have hBs9 := qbs hBs5 HV.out;have cs9 := hBs9.cell;have m0 := qd 0 hq rfl;have m1 := qd 1 hq rfl;have m2 := qd 2 hq rfl;have m3 := qd 3 hq rfl;have m4 := qd 4 hq rfl;have m5 := qd 5 hq rfl;have hJ9 := hJ _ W5 V none hJ5 (qjb HV.out) (fun r e => by cases e)
    have Y2 : YieldAt Fence.wide (n - 1) Tryz.prog l #[.agg #[.string (qg q.maj), .string (qg q.min), .string (qg q.pat), .slice a2 n2 c2, .slice none 0 0, .int .i64 (q.told : Int), .func (.func 87) #[] #[], .int .i64 r], .int .i64 z] V _ := hY [(⟨p, 85, 0, (e : Int)⟩, .slice av nv cv)] (⟨q, 87, r, z⟩, .slice a2 n2 c2) W5 V hJ5 hJ9 HV.out ⟨HP2.out, tV, cp2, .inr FR.out, _, _, _, rfl⟩;obtain ⟨fn2, tmps2, assign2, body2, hy2, hRd2⟩ := Y2
    try dsimp only
    gi_wp2
    refine hRd2.mono ?_;rintro e7 W7 (⟨rfl, herr, hJ7, hT7⟩ | ⟨rfl, hJx7⟩)
    case inr =>
      gi_wp2
      refine bodyPost_ret (results_none rfl _ _ _) rfl ?_;exact ⟨⟨_, rfl⟩, .inr ⟨[(⟨p, 85, 0, (e : Int)⟩, .slice av nv cv), (⟨q, 87, r, z⟩, .slice a2 n2 c2)], HP2.out, hJx7⟩⟩
    obtain ⟨e2, hz, hel⟩ := hok.out herr;rw [qh] at hel;have hBs10 : Boxed W7 Bs 9 (.string s) := hT7.2.2.trans hBs9;have cs10 := hBs10.cell;have hle := qdh (l := s.data.toList) (a := e2) (by rw [qh]; exact hel)
    rw [qh] at hle;have R7 := qb (Run6 s e2 hs hel z hz);have CE := fun w => qgj s (blk s.data.toList e2) w hle;have HG1 := qb (HF1.out herr);have HG2 := qb (HF2.out herr);rw [show z.toNat = e2 by rw [hz]; exact Int.toNat_natCast _] at HG1 HG2
    have HZ := qb hz;clear m0 m1 m2 m3 m4 m5 hy2 hRd2 cs9 hz;generalize blk s.data.toList e2 = d at *;cases hE : qcc s.data.toList d
    · rw [hE] at CE
      have CE := qb CE;have HL := qb (HG2.out hE);have hJ7' := qb hJ7;have Y3 : YieldAt Fence.wide (n - 1) Tryz.prog l #[.agg #[.string ⟨#[]⟩, .string ⟨#[]⟩, .string ⟨#[]⟩, .slice none 0 0, .slice none 0 0, .int .i64 0, .nilFunc, .int .i64 10], .int .i64 (d : Int)] W7 _ := hY [(⟨p, 85, 0, (e : Int)⟩, .slice av nv cv), (⟨q, 87, r, z⟩, .slice a2 n2 c2)] (⟨qcz, 0, 10, (d : Int)⟩, .slice none 0 0) W7 W7 hJ7 hJ7 (Below.refl _ _) ⟨by rw [HL.out]; exact List.prefix_refl _, qt _, capN (qt W7), .inr (by rintro a i c h; cases h), _, _, _, rfl⟩
      obtain ⟨fn3, tmps3, assign3, body3, hy3, hRd3⟩ := Y3;clear hE;gi_wp2
      refine ⟨trivial, (callsIn_wide.2 (R7.out _)).mono ?_⟩;rintro e9 w9 ⟨rfl, hw9⟩;rw [hw9]; clear hw9 w9;gi_wp2
      refine ⟨trivial, (callsIn_wide.2 (CE.out _)).mono ?_⟩;rintro e9 w9 ⟨rfl, hw9⟩;rw [hw9]; clear hw9 w9;gi_wp2
      refine hRd3.mono ?_;rintro e8 W8 (⟨rfl, h10, _⟩ | ⟨rfl, hJx8⟩)
      · cases h10
      · gi_wp2
        refine bodyPost_end (results_none rfl _ _ _) rfl ?_;exact ⟨⟨_, rfl⟩, .inr ⟨[(⟨p, 85, 0, (e : Int)⟩, .slice av nv cv), (⟨q, 87, r, z⟩, .slice a2 n2 c2), (⟨qcz, 0, 10, (d : Int)⟩, .slice none 0 0)], by rw [HL.out]; exact List.prefix_refl _, hJx8⟩⟩
    · rw [hE] at CE
      have CE := qb CE;have HL := qb (HG1.out hE);clear hE;gi_wp2
      refine ⟨trivial, (callsIn_wide.2 (R7.out _)).mono ?_⟩;rintro e9 w9 ⟨rfl, hw9⟩;rw [hw9]; clear hw9 w9;gi_wp2
      refine ⟨trivial, (callsIn_wide.2 (CE.out _)).mono ?_⟩;rintro e9 w9 ⟨rfl, hw9⟩;rw [hw9]; clear hw9 w9;gi_wp2
      refine bodyPost_end (results_none rfl _ _ _) rfl ?_;exact ⟨⟨_, rfl⟩, .inl ⟨[(⟨p, 85, 0, (e : Int)⟩, .slice av nv cv), (⟨q, 87, r, z⟩, .slice a2 n2 c2)], HL.out.symm, hJ7⟩⟩
end Go.Proofs.YtpdlgiioahjhiaaGreat
