/- Walks: Parse. -/
import Derived.Deep.LoopGhost
import Derived.RangeFuncBox
import Derived.Test.YtpdlgiioahjhiaaGreatPEzl
namespace Go.Proofs.YtpdlgiioahjhiaaGreat
open Go.RowKit Go.Shelf
open AllReadyIn renaming cons → qcgh, nil → qcgk
open Below renaming heap_setCell → qcgx
open List renaming length_append → qcgv
open Nat renaming le_refl → qcgl, le_trans → qcgs, lt_of_lt_of_le → qcgt
set_option linter.unusedVariables false
set_option maxHeartbeats 6000000
set_option maxRecDepth 100000
attribute [local go_sem] Oper.semAt_some
theorem fin8 {R : Ending → World → Prop} (tmps : Array Value) (Ds : List Nat) (W : World) (n₀ B : Nat) (v e p : Value) (h1 : tmps.getD 2 undef = v) (h2 : tmps.getD 3 undef = .pointer (some ⟨B, 0, none⟩)) (e1 : W.heap[B]? = some (.cells #[e, p] 25 (0, 0)))
  (hnd : Ds.Nodup) (hD : ∀ D ∈ Ds, n₀ ≤ D ∧ W.heap[D]? = some (.deferred (some []))) (hR : ∀ W', Past n₀ W W' → R (.returned (.tuple #[v, .agg #[e, p]])) W') :
  bodyPostM Fence.wide 5 Tryz.prog Tryz.f8 R .ret { tmps := tmps, defers := qbrn Ds } W := by
 show LeavesInM _ _ _ _ _ _ _ _ _;refine qpq n₀ Ds W hnd hD ?_;intro W' hW';have k := hW'.2 _ _ e1 rfl;have r0 := qd 0 k rfl;have r1 := qd 1 k rfl;rw [Array.getD_eq_getD_getElem?] at h1 h2;refine ⟨_, ?_, hR W' hW'⟩;simp [results, Tryz.results8, go_sem, h1, h2, r0, r1]
 try rfl
theorem qgn {W W' : World} {base : Nat} {e : TypeId} {size : Nat} {v : Value} {n : Nat} {xs : List Value} (h : W.ownsRow base e size v n xs) (hb : Below W.heap.size W W') : W'.ownsRow base e size v n xs :=
 qgq (A := fun _ => True) h (qfh hb) (fun _ _ => trivial)
theorem qcdm {A : Nat → Prop} {n₀ : Nat} {W W' : World} (h : Past n₀ W W') (hs : W.heap.size ≤ W'.heap.size) : Keep A W W' := ⟨hs, fun b cs t m _ hh => h.2 b _ hh rfl⟩
theorem info39 : (Tryz.prog.info? 39).map (fun i => (i.zero, i.size, i.bytes)) = some (some (.slice none 0 0), 1, 24) := by kernel_rfl
theorem qbxt {l : QB} {a n : Nat} (h : (qgg l a n).2 = 0) : (qgg l a n).1 ≤ l.length ∧ n ≠ 32 := by
 unfold qgg at h ⊢;split at h
 ·rename_i h1;rw [if_pos h1];have := (List.getElem?_eq_some_iff.1 h1).1;split at h
  ·cases h
  ·rename_i h2;rw [if_neg h2];exact ⟨by dsimp only; omega, h2⟩
 ·exfalso;unfold misL at h;dsimp only at h;split at h <;> cases h
theorem qccd {n₀ : Nat} {W W' w : World} (h : Past n₀ W W') (hb : Below n₀ w W) : W.heap.size ≤ W'.heap.size := h.1.size
theorem qbxk (f : Nat) (hf : f ∈ fns) : ∀ args w, (callFunc f args).run Tryz.prog w = .ok (.enter f args) w := by
 simp only [fns, List.mem_cons, List.not_mem_nil, or_false] at hf;rcases hf with rfl | rfl | rfl | rfl | rfl | rfl | rfl
 ·exact enters_of Tryz.func160 (by kernel_rfl) rfl
 ·exact enters_of Tryz.func161 (by kernel_rfl) rfl
 ·exact enters_of Tryz.func87 (by kernel_rfl) rfl
 ·exact enters_of Tryz.func162 (by kernel_rfl) rfl
 ·exact enters_of Tryz.func85 (by kernel_rfl) rfl
 ·exact enters_of Tryz.func163 (by kernel_rfl) rfl
 ·exact enters_of Tryz.func164 (by kernel_rfl) rfl
theorem qbcz : ∀ (xs : List Item), (xs.flatMap (fun x => qr x.f x.p)).length ≤ 2 * xs.length
 | [] => by simp
 | x :: xs => by
  have h1 := qjl x.f x.p;have h2 := qbcz xs;rw [List.flatMap_cons, qcgv, List.length_cons];omega
theorem qcdx (s : QY) (w : World) (hs : s.size ≤ 256) :
  CallsIn Fence.wide 5 Tryz.prog 8 #[.string s] w (qxr (npGo s.data.toList 33 0 []) w) := by
 refine callsIn_of_wp_marks Tryz.func8 rfl trivial (wpIn_wide.2 ?_) rfl;simp only [Tryz.ntmps8, List.size_toArray, List.length_cons, List.length_nil, Nat.reduceAdd, Nat.reduceSub, Array.replicate_succ, Array.replicate_zero, List.push_toArray, List.append_toArray, List.nil_append, List.cons_append];have hs' : decide ((256 : Int) < (s.size : Int)) = false := by simp; omega
 have HL : Hid (s.data.toList.length = s.size) := qh s;generalize hG : npGo s.data.toList 33 0 [] = G;have HGO := qb hG;clear hG;(go_wp2_with fail);go_step3
 (go_wp2_with fail);go_step3
 (go_wp2_with fail);clear hs';rename_i K0 hK0;have TAIL : Hid (∀ (u0 u1 u4 u7 u8 u9 u10 u11 u12 u13 u14 u15 u16 u17 u18 u19 u20 u21 u22 u23 u24 u25 u26 u27 u28 u29 u30 u31 u32 u33 u34 u35 u36 u37 u38 u39 u40 u41 u42 u43 u44 u45 u46 u47 u48 u49 u50 u51 u52 u53 u54 u55 u56 : Value) (Ds : List Nat) (sets : List (List Comp)) (sv : Value) (z e : Int) (W : World), PK w Ds sets sv z e W → G = (e, z, []) → K0 { tmps := #[u0, u1, .slice none 0 0, .pointer (some ⟨w.heap.size, 0, none⟩), u4, .pointer (some ⟨w.heap.size + 1, 0, none⟩), .pointer (some ⟨w.heap.size + 1 + 1, 0, none⟩), u7, u8, u9, u10, u11, u12, u13, u14, u15, u16, u17, u18, u19, u20, u21, u22, u23, u24, u25, u26, u27, u28, u29, u30, u31, u32, u33, u34, u35, u36, u37, u38, u39, u40, u41, u42, u43, u44, u45, u46, u47, u48, u49, u50, u51, u52, u53, u54, u55, u56], defers := qbrn Ds } W) := by
  intro u0 u1 u4 u7 u8 u9 u10 u11 u12 u13 u14 u15 u16 u17 u18 u19 u20 u21 u22 u23 u24 u25 u26 u27 u28 u29 u30 u31 u32 u33 u34 u35 u36 u37 u38 u39 u40 u41 u42 u43 u44 u45 u46 u47 u48 u49 u50 u51 u52 u53 u54 u55 u56 Ds sets sv z e W hp hG;have HP := qb hp;have HGG := qb hG;have q2 : W.cell? ⟨w.heap.size + 1, 0, none⟩ = some (.int .i64 z) := qd 0 hp.pl rfl;have q3 : W.cell? ⟨w.heap.size + 1 + 1, 0, none⟩ = some (.int .i64 e) := qd 0 hp.er rfl;have hA : W.heap[w.heap.size]? = some (.cells #[.int .i64 0, .int .i64 0] 25 (0, 0)) := hp.flt;have a0 : W.cell? ⟨w.heap.size, 0, none⟩ = some (.int .i64 0) := qd 0 hA rfl;have a1 : W.cell? ⟨w.heap.size, 1, none⟩ = some (.int .i64 0) := qd 1 hA rfl;have f0 := qf 0 hA;have f1 := qf 1 hA;clear hp hG;refine hK0 _ _ ?_;(go_wp2_with fail);go_region
  all_goals
   (go_wp2_with fail);have e5 : ((W.setCell ⟨w.heap.size, 0, none⟩ (.int .i64 e)).setCell ⟨w.heap.size, 1, none⟩ (.int .i64 z)).drew.heap[w.heap.size]? = some (.cells #[.int .i64 e, .int .i64 z] 25 (0, 0)) := qv 1 _ (qv 0 _ hA);have hb5 : Below w.heap.size w ((W.setCell ⟨w.heap.size, 0, none⟩ (.int .i64 e)).setCell ⟨w.heap.size, 1, none⟩ (.int .i64 z)).drew := ((HP.out.bel.setCell (p := ⟨w.heap.size, 0, none⟩) (qcgl _) _).setCell (p := ⟨w.heap.size, 1, none⟩) (qcgl _) _).trans (qbh _ _);refine fin8 _ Ds _ w.heap.size w.heap.size (.slice none 0 0) _ _ rfl rfl e5 HP.out.nd (by
    intro E hE;have hne := qrx (HP.out.ds E hE).2 HP.out.flt;exact ⟨(HP.out.ds E hE).1, (qcgx _ _ _ _ hne).trans ((qcgx _ _ _ _ hne).trans (HP.out.ds E hE).2)⟩) ?_
   intro W' hpst;refine ⟨.slice none 0 0, ?_, ?_, hb5.trans hpst.1⟩
   ·rw [HGG.out]
   ·rw [HGG.out];exact ⟨none, 0, rfl, .inl rfl⟩
 clear hK0;refine wp_loop_ghost_k (fun n a W => ∃ (Ds : List Nat) (sets : List (List Comp)) (sv : Value) (c : Nat) (y7 y14 y15 y16 y31 y32 y33 y34 y35 y36 y37 y38 y39 y40 y41 y42 y43 y44 y45 y46 y47 y48 y49 y50 y51 y52 y53 : Value), a = { tmps := #[.string s, undef, .slice none 0 0, .pointer (some ⟨w.heap.size, 0, none⟩), sv, .pointer (some ⟨w.heap.size + 1, 0, none⟩), .pointer (some ⟨w.heap.size + 1 + 1, 0, none⟩), y7, undef, undef, .string s, .int .i64 (s.size : Int), .bool false, undef, y14, y15, y16, undef, undef, undef, undef, undef, undef, undef, undef, undef, undef, undef, undef, undef, undef, y31, y32, y33, y34, y35, y36, y37, y38, y39, y40, y41, y42, y43, y44, y45, y46, y47, y48, y49, y50, y51, y52, y53, undef, undef, undef], defers := qbrn Ds } ∧ PIn s.data.toList w Ds sets sv c n W) 33 ?start ?round
 case start =>
  refine ⟨[], [], .slice none 0 0, 0, undef, undef, undef, undef, undef, undef, undef, undef, undef, undef, undef, undef, undef, undef, undef, undef, undef, undef, undef, undef, undef, undef, undef, undef, undef, undef, undef, rfl, ⟨⟨?_, ?_, ?_, ?_, List.nodup_nil, (fun D h => by cases h), ⟨[], World.ownsRow_nil _ _ _ _, fun i h => by cases h⟩⟩, Nat.zero_le _, rfl, rfl, Nat.zero_le _⟩⟩
  ·exact qbzh w _ _ _
  ·exact qzq w _ _ _
  ·exact qzj w _ _ _
  ·exact qth w _ _ _
 case round =>
  rintro n a W ⟨Ds, sets, sv, c, y7, y14, y15, y16, y31, y32, y33, y34, y35, y36, y37, y38, y39, y40, y41, y42, y43, y44, y45, y46, y47, y48, y49, y50, y51, y52, y53, rfl, hI⟩ J K hJ hK;obtain ⟨m, rfl⟩ : ∃ m, n = m + 1 := ⟨n - 1, by have := hI.num; have := hI.sl; omega⟩
  have hcl := hI.cl;rw [HL.out] at hcl;have q1 : W.cell? ⟨w.heap.size + 1, 0, none⟩ = some (.int .i64 (c : Int)) := qd 0 hI.pk.pl rfl;have ne1 : (W.alloc (.cells #[.slice none 0 0] 39)).cell? ⟨w.heap.size + 1, 0, none⟩ = some (.int .i64 (c : Int)) := qd 0 ((Below.heap_alloc W _ _ hI.pk.pl.lt).trans hI.pk.pl) rfl;have PT := qb (fun V => qcbs s c V hs hcl);have HI := qb hI;have HK := qb hK;have HJ := qb hJ;clear hI hK hJ;(go_wp2_with fail);refine (PT.out _).mono ?_;rintro e W1 hP;have hb1 := hP.1;obtain ⟨gf, lb, Kp, rfl, eg, hseq, hKt, hKp⟩ := qbls s c _ W1 hs hcl e hP;have hbW : Below W.heap.size W W1 := ((Below.refl _ W).alloc (qcgl _) _).trans (hb1.mono (by simp))
  have hg0 : Boxed W1 W.heap.size 39 (.slice none 0 0) := (hb1.block _ (by simp)).trans (World.alloc_heap_new W _)
  have hX : W.heap.size < W1.heap.size := hg0.lt;have hN : w.heap.size + 1 + 1 < W.heap.size := HI.out.pk.er.lt;simp only [World.size_alloc] at hseq hKp;have HSEQ := qb hseq;have HKP := qb hKp;have HKT := qb hKt;have HBW := qb hbW;have HEG := qb eg;have PJ0 : PJ w W1 W.heap.size [] (c : Int) 0 W1 := ⟨(hbW.block _ HI.out.pk.pl.lt).trans HI.out.pk.pl, (hbW.block _ HI.out.pk.er.lt).trans HI.out.pk.er, ⟨_, [], hg0, World.ownsRow_nil _ _ _ _, rfl⟩, fun k _ _ _ _ => rfl, HI.out.pk.bel.trans (hbW.mono HI.out.pk.bel.size), qcgl _⟩;have HJ0 := qb PJ0;clear hP hb1 hseq hKp hKt hbW hg0 eg PJ0 q1 ne1 PT;generalize hXW : W.heap.size = X at *;have HXW := qb hXW;clear hXW;(go_wp2_with fail);refine (wpIn_wide (n := 5)).1 ?_
  obtain ⟨ACT, hACT⟩ : ∃ ACT : Item × Value → Nat → Act, ACT = fun x B => { tmps := #[.string s, undef, .slice none 0 0, .pointer (some ⟨w.heap.size, 0, none⟩), sv, .pointer (some ⟨w.heap.size + 1, 0, none⟩), .pointer (some ⟨w.heap.size + 1 + 1, 0, none⟩), .pointer (some ⟨X, 0, none⟩), .pointer (some ⟨B, 0, none⟩), .int .i64 x.1.pos, .string s, .int .i64 (s.size : Int), .bool false, undef, .string s, .int .i64 (c : Int), .func (.func gf) #[] lb, .agg #[.string (qg x.1.p.maj), .string (qg x.1.p.min), .string (qg x.1.p.pat), x.2, .slice none 0 0, .int .i64 (x.1.p.told : Int), fnV x.1.f, .int .i64 x.1.err], .int .i64 x.1.pos, undef, undef, undef, undef, undef, undef, undef, undef, undef, undef, undef, undef, y31, y32, y33, y34, y35, y36, y37, y38, y39, y40, y41, y42, y43, y44, y45, y46, y47, y48, y49, y50, y51, y52, y53, undef, undef, undef], defers := [] } := ⟨_, rfl⟩;refine qbvk (F := Fence.wide) (n := 5) (α := Item × Value) rfl (by omega) (gf := gf) (lb := lb) rfl trivial HEG.out (w0 := W1) HSEQ.out (Below.refl _ _) (fun h k => HKT.out _ _ _ h k)
   (fun V l o o' hl _ _ _ => HKP.out _ _ (fun k _ h2 => World.putObj_heap_other (by omega))) (fun _ => rfl)
   (fun pre V => Goes8 (c : Int) w W1 X (pre.map Prod.fst) V) (fun k pre V => Left8 (c : Int) w W1 X k (pre.map Prod.fst) V)
   (fun pre A B row h hg hr => ⟨h.ok, PJ.own hX hN () A B row h.pj hg hr⟩)
   (fun k pre A B row h hg hr => ⟨h.code, by obtain ⟨p0, x, h1, h2, h3, h4⟩ := h.is; exact ⟨p0, x, h1, h2, h3, PJ.own hX hN () A B row h4 hg hr⟩⟩)
   ⟨(fun x h => by cases h), HJ0.out⟩ (fun pre x V h => h.ok x.1 (by simp))
   (fun pre x b V => ∃ B, W1.heap.size ≤ B ∧ B < V.heap.size ∧ b = ACT x B ∧ At V B (.cells #[.string (qg x.1.p.maj), .string (qg x.1.p.min), .string (qg x.1.p.pat), x.2, .slice none 0 0, .int .i64 (x.1.p.told : Int), fnV x.1.f, .int .i64 x.1.err] 58 (0, 0)) ∧ Txt V x.2 x.1.p.pre ∧ (∃ v, Boxed V X 39 v ∧ CapA (fun b => X < b ∧ v.ownBlock ≠ some b) x.2) ∧ pre.map Prod.fst ++ [x.1] <+: qfw s.data.toList c ∧ ∃ a n c, x.2 = .slice a n c)
   (fun pre x b u A B row h hg hr => by
    obtain ⟨B1, h1, h2, h3, h4, h5, ⟨v, h6, h7⟩, h8⟩ := h;have K : Keep (fun _ => True) A B := qbpt hg hr;exact ⟨B1, h1, qcgt h2 hg.size, h3, K.at_ trivial h4, qkg h5 h7 ⟨K.1, fun b cs t m _ => K.2 b cs t m trivial⟩, ⟨v, K.at_ trivial h6, h7⟩, h8⟩)
   ?assign ?body ?done ?stop
  case assign =>
   rintro l pre x V0 V K2 hi0 hi hbl ⟨hpre, tx, cp, hfr, hx2⟩ hK2;obtain ⟨v, xs, hv, hr, hc⟩ := hi0.pj.row;have hvV : Boxed V X 39 v := (hbl.block X hv.lt).trans hv;have CA : CapA (fun b => X < b ∧ v.ownBlock ≠ some b) x.2 := by
    rcases hfr with ⟨_, h⟩ | h
    ·exact ⟨cp, fun p n c e => (h.2 p n c e).imp id (fun q => ⟨q.1, fun e2 => by have := (qcn hr _ e2).1; have := q.2; omega⟩)⟩
    ·exact ⟨cp, fun p n c e => .inr ⟨by have := h p n c e; have := hi0.pj.sz; omega, fun e2 => by have := (qcn hr _ e2).2; have := h p n c e; omega⟩⟩
   obtain ⟨x1, x2⟩ := x;obtain ⟨a2, n2, c2, rfl⟩ := hx2;have hfv : fnV x1.f = .nilFunc ∨ fnV x1.f = .func (.func x1.f) #[] #[] := by
    unfold fnV;split
    ·exact .inl rfl
    ·exact .inr rfl
   rcases hfv with h | h
   all_goals
    unfold encI qbnv;dsimp only;rw [h];gi_wp2
    have hal : Below V.heap.size V (V.alloc (.cells #[.string (qg x1.p.maj), .string (qg x1.p.min), .string (qg x1.p.pat), .slice a2 n2 c2, .slice none 0 0, .int .i64 (x1.p.told : Int), fnV x1.f, .int .i64 x1.err] 58)) := (Below.refl _ V).alloc (qcgl _) _;rw [h] at hal;refine hK2 _ _ ((KeepsOthers.alloc _ _).from _) (HKP.out _ _ (fun k _ h2 => Below.heap_alloc _ _ _ (qcgt h2 hi.pj.sz))) ⟨hi.ok, hi.pj.next hal⟩ ⟨V.heap.size, hi.pj.sz, by simp, ?_, by rw [h]; exact World.alloc_heap_new V _, tx.below hal, ⟨v, (hal.block X hvV.lt).trans hvV, CA⟩, hpre, _, _, _, rfl⟩
    rw [hACT];dsimp only;rw [h]
  case body =>
   rintro lx pre x b Wi hlx _ hi ⟨B, hB, hBW, rfl, eB, tx, ⟨v, hv, hca⟩, hpre, av, nv, cv, hx2⟩;rw [hACT];clear hACT;obtain ⟨⟨p, f, er, pos⟩, xv⟩ := x;dsimp only at hx2 eB tx hca hpre ⊢;subst hx2;have hsz := hi.pj.sz;have x7 : Wi.cell? ⟨B, 7, none⟩ = some (.int .i64 er) := qd 7 eB rfl;have q1 : Wi.cell? ⟨w.heap.size + 1, 0, none⟩ = some (.int .i64 (qvd (c : Int) (pre.map Prod.fst))) := qd 0 hi.pj.pl rfl;have q2 : Wi.cell? ⟨w.heap.size + 1 + 1, 0, none⟩ = some (.int .i64 0) := qd 0 hi.pj.er rfl;have f1 : Wi.frozen? ⟨w.heap.size + 1, 0, none⟩ = false := qf 0 hi.pj.pl;have f2 : Wi.frozen? ⟨w.heap.size + 1 + 1, 0, none⟩ = false := qf 0 hi.pj.er;have hx2 : B ≠ w.heap.size + 1 := by omega
   have hx3 : B ≠ w.heap.size + 1 + 1 := by omega
   have HIJ := qb hi;have HTX := qb tx;have HCA := qb hca;have HV := qb hv;have HP := qb hpre;have HEB := qb eB;clear hi tx hca hv hpre eB;gi_wp2
   refine wpIn_mono (Q := fun e a' W' => e = .normal ∧ a' = { tmps := #[.string s, undef, .slice none 0 0, .pointer (some ⟨w.heap.size, 0, none⟩), sv, .pointer (some ⟨w.heap.size + 1, 0, none⟩), .pointer (some ⟨w.heap.size + 1 + 1, 0, none⟩), .pointer (some ⟨X, 0, none⟩), .pointer (some ⟨B, 0, none⟩), .int .i64 pos, .string s, .int .i64 (s.size : Int), .bool false, undef, .string s, .int .i64 (c : Int), .func (.func gf) #[] lb, .agg #[.string (qg p.maj), .string (qg p.min), .string (qg p.pat), .slice av nv cv, .slice none 0 0, .int .i64 (p.told : Int), fnV f, .int .i64 er], .int .i64 pos, .int .i64 pos, .pointer (some ⟨B, 7, none⟩), .int .i64 er, undef, undef, undef, undef, undef, undef, undef, undef, undef, y31, y32, y33, y34, y35, y36, y37, y38, y39, y40, y41, y42, y43, y44, y45, y46, y47, y48, y49, y50, y51, y52, y53, undef, undef, undef], defers := [] } ∧ W' = ((Wi.setCell ⟨w.heap.size + 1, 0, none⟩ (.int .i64 pos)).setCell ⟨w.heap.size + 1 + 1, 0, none⟩ (.int .i64 er)).drew) ?reg9 ?rest9
   case reg9 =>
    refine wpIn_region_any (by kernel_rfl) ?_
    refine qgs (F := Fence.wide) rfl (qml (by kernel_rfl)) _ _ _ _ ?_
    change wpAnyIn _ _ _ _ _ _ _ _ _ (World.drew _)
    refine wpAnyIn_take (i := 0) (v := ?_) rfl rfl (by kernel_rfl) (by kernel_rfl) (by kernel_rfl) (fun _ _ _ h => nomatch h.1) ⟨Or.inl ⟨by rfl, ?_⟩, fun _ => rfl⟩ ?_
    rotate_left
    ·intro w; go_simp
     try with_reducible rfl
    refine wpAnyIn_take (i := 1) (v := ?_) rfl rfl (by kernel_rfl) (by kernel_rfl) (by kernel_rfl) (fun _ _ _ h => nomatch h.1) ⟨Or.inl ⟨by rfl, ?_⟩, fun _ => rfl⟩ ?_
    rotate_left
    ·intro w; go_simp
     try with_reducible rfl
    refine wpAnyIn_ready (rs := [2, 3]) (by kernel_rfl) (by simp) ?_
    refine qcgh rfl (fun K hK => ?_) ?_
    ·go_simp
     refine hK _ _ ?_;clear hK K;refine wpAnyIn_ready (rs := [3]) (by kernel_rfl) (by simp) ?_
     refine qcgh rfl (fun K hK => ?_) ?_
     ·go_simp
      refine hK _ _ ?_;clear hK K;refine wpAnyIn_ready (rs := [4]) (by kernel_rfl) (by simp) ?_
      refine qcgh rfl (fun K hK => ?_) ?_
      ·go_simp
       refine hK _ _ ?_;clear hK K;refine wpAnyIn_done (by kernel_rfl) ?_ _
       exact ⟨rfl, rfl, rfl⟩
      exact qcgk
     exact qcgk
    refine qcgh rfl (fun K hK => ?_) ?_
    ·go_simp
     refine hK _ _ ?_;clear hK K;refine wpAnyIn_ready (rs := [2]) (by kernel_rfl) (by simp) ?_
     refine qcgh rfl (fun K hK => ?_) ?_
     ·go_simp
      refine hK _ _ ?_;clear hK K;refine wpAnyIn_ready (rs := [4]) (by kernel_rfl) (by simp) ?_
      refine qcgh rfl (fun K hK => ?_) ?_
      ·go_simp
       refine hK _ _ ?_;clear hK K;refine wpAnyIn_done (by kernel_rfl) ?_ _
       exact ⟨rfl, rfl, rfl⟩
      exact qcgk
     exact qcgk
    exact qcgk
   case rest9 =>
    rintro _ _ _ ⟨rfl, rfl, rfl⟩;have R50 := (HIJ.out.pj.place hX hN pos).fault hX hN er;have hBd : Below ((Wi.setCell ⟨w.heap.size + 1, 0, none⟩ (.int .i64 pos)).setCell ⟨w.heap.size + 1 + 1, 0, none⟩ (.int .i64 er)).heap.size ((Wi.setCell ⟨w.heap.size + 1, 0, none⟩ (.int .i64 pos)).setCell ⟨w.heap.size + 1 + 1, 0, none⟩ (.int .i64 er)) ((Wi.setCell ⟨w.heap.size + 1, 0, none⟩ (.int .i64 pos)).setCell ⟨w.heap.size + 1 + 1, 0, none⟩ (.int .i64 er)).drew := qbm _ _ 1;have R5 := R50.next hBd;have O5 := ((KeepsOthers.setCell Wi ⟨w.heap.size + 1, 0, none⟩ (.int .i64 pos)).trans (KeepsOthers.setCell _ ⟨w.heap.size + 1 + 1, 0, none⟩ (.int .i64 er))).trans (qwz hBd);have hko : Keep (fun b => X ≤ b) Wi ((Wi.setCell ⟨w.heap.size + 1, 0, none⟩ (.int .i64 pos)).setCell ⟨w.heap.size + 1 + 1, 0, none⟩ (.int .i64 er)).drew := ((qlz Wi _ _ (fun b hb => by omega)).trans (qlz _ _ _ (fun b hb => by omega))).trans (qfh hBd)
    have eB5 := hko.at_ (by omega) HEB.out
    have v5 : Boxed _ X 39 v := hko.at_ (qcgl _) HV.out;have t5 := qkg HTX.out HCA.out ⟨hko.1, fun b cs t m hb => hko.2 b cs t m (Nat.le_of_lt hb.1)⟩;clear x7 q1 q2 f1 f2 R50 hBd hko hBW;generalize ((Wi.setCell ⟨w.heap.size + 1, 0, none⟩ (.int .i64 pos)).setCell ⟨w.heap.size + 1 + 1, 0, none⟩ (.int .i64 er)).drew = W5 at *;have q3 : W5.cell? ⟨w.heap.size + 1 + 1, 0, none⟩ = some (.int .i64 er) := qd 0 R5.er rfl;have R5H := qb R5
    by_cases hx : er = 0
    ·subst hx;have hgd := qsv (l := s.data.toList) (by rw [HL.out]; exact hs) (a := c) HI.out.cl ⟨p, f, 0, pos⟩ (HP.out.subset (by simp)) rfl
     have hfn : f ∈ fns := hgd.fn;have hsh := hgd.short;dsimp only at hsh;have hfv : fnV f = .func (.func f) #[] #[] := by
      unfold fnV;rw [if_neg];rintro rfl
      revert hfn
      decide
     have eg2 : ∀ args w, (callFunc f args).run Tryz.prog w = .ok (.enter f args) w := qbxk f hfn;rw [hfv] at eB5 ⊢;have B6 : Below W5.heap.size W5 W5.drew := qbm _ W5 1;have R6 := qb (R5.next B6);have e6 : At W5.drew B _ := (B6.block B eB5.lt).trans eB5;have HV6 : Hid (Boxed W5.drew X 39 v) := v5;obtain ⟨v0, xs, hv0, hr0, hc0⟩ := R6.out.row;have hvv : v0 = v := by
      have e1 := (show W5.drew.heap[X]? = _ from hv0).symm.trans (show W5.drew.heap[X]? = _ from HV6.out);simp only [Option.some.injEq, Obj.cells.injEq, and_true] at e1;simpa using e1
     subst hvv;have HR := qb hr0;have HC := qb hc0;have HLN : Hid (((pre.map Prod.fst).flatMap (fun x => qr x.f x.p)).length + (qr f p).length ≤ 1048576) := by
      have h1 := qjl f p;have h2 := qbcz (pre.map Prod.fst);have h3 := HP.out.length_le;have h4 := qbhf s.data.toList c;simp only [qcgv, List.length_cons, List.length_nil] at h3;show _ ≤ _;omega
     have HS : Hid (W1.heap.size ≤ W5.drew.heap.size) := R6.out.sz;have MA := qb (mean_any (A := fun b => X < b ∧ v0.ownBlock ≠ some b) f hfn (qjj p (.slice av nv cv)) p W5.drew (fun b hb => ⟨by have := R6.out.sz; omega, fun e => by have := (qcn hr0 b e).2; omega⟩) ⟨_, rfl, t5.below B6, HCA.out, _, _, _, rfl⟩ hsh)
     unfold qjj at MA;have c0 : W5.cell? ⟨B, 0, none⟩ = some (.string (qg p.maj)) := qd 0 eB5 rfl;have c1 : W5.cell? ⟨B, 1, none⟩ = some (.string (qg p.min)) := qd 1 eB5 rfl;have c2 : W5.cell? ⟨B, 2, none⟩ = some (.string (qg p.pat)) := qd 2 eB5 rfl;have c3 : W5.cell? ⟨B, 3, none⟩ = some (.slice av nv cv) := qd 3 eB5 rfl;have c4 : W5.cell? ⟨B, 4, none⟩ = some (.slice none 0 0) := qd 4 eB5 rfl;have c5 : W5.cell? ⟨B, 5, none⟩ = some (.int .i64 (p.told : Int)) := qd 5 eB5 rfl;have c6 : W5.cell? ⟨B, 6, none⟩ = some (.func (.func f) #[] #[]) := qd 6 eB5 rfl;have cX : W5.cell? ⟨X, 0, none⟩ = some v0 := (show Boxed W5 X 39 v0 from v5).cell;have HX := qb hX;have HN := qb hN;have HO5 := qb O5;obtain ⟨ao, nn, co, rfl⟩ : ∃ a n c, v0 = .slice a n c := by
      obtain ⟨a, c, h, _⟩ := qdd hr0;exact ⟨a, _, c, h⟩
     clear hv0 hr0 hc0 R5 v5 t5 eB5 hfn hsh hgd B6 e6 hx2 hx3;gi_wp2
     refine wpIn_mono (Q := fun e a' W' => ∃ q24 q25 q26 q27 q28 q29 q30, e = .normal ∧ a' = { tmps := #[.string s, undef, .slice none 0 0, .pointer (some ⟨w.heap.size, 0, none⟩), sv, .pointer (some ⟨w.heap.size + 1, 0, none⟩), .pointer (some ⟨w.heap.size + 1 + 1, 0, none⟩), .pointer (some ⟨X, 0, none⟩), .pointer (some ⟨B, 0, none⟩), .int .i64 pos, .string s, .int .i64 (s.size : Int), .bool false, undef, .string s, .int .i64 (c : Int), .func (.func gf) #[] lb, .agg #[.string (qg p.maj), .string (qg p.min), .string (qg p.pat), .slice av nv cv, .slice none 0 0, .int .i64 (p.told : Int), .func (.func f) #[] #[], .int .i64 0], .int .i64 pos, .int .i64 pos, .pointer (some ⟨B, 7, none⟩), .int .i64 0, .int .i64 0, .bool false, q24, q25, q26, q27, q28, q29, q30, y31, y32, y33, y34, y35, y36, y37, y38, y39, y40, y41, y42, y43, y44, y45, y46, y47, y48, y49, y50, y51, y52, y53, undef, undef, undef], defers := [] } ∧ PJ w W1 X ((pre.map Prod.fst).flatMap (fun x => qr x.f x.p) ++ qr f p) pos 0 W' ∧ KeepsOthers W5.drew W') ?reg11 ?rest11
     case reg11 =>
      refine wpIn_region_any (by kernel_rfl) ?_
      refine qgs (F := Fence.wide) rfl (qml (by kernel_rfl)) _ _ _ _ ?_
      change wpAnyIn _ _ _ _ _ _ _ _ _ (World.drew _)
      refine wpAnyIn_take (i := 1) (v := ?_) rfl rfl (by kernel_rfl) (by kernel_rfl) (by kernel_rfl) (fun _ _ _ h => (by obtain ⟨_, _, _, _, _, _, _, h, _⟩ := h; cases h)) ⟨Or.inl ⟨by rfl, ?_⟩, fun _ => rfl⟩ ?_
      rotate_left
      ·intro w; go_simp
       try with_reducible rfl
      refine wpAnyIn_take (i := 3) (v := ?_) rfl rfl (by kernel_rfl) (by kernel_rfl) (by kernel_rfl) (fun _ _ _ h => (by obtain ⟨_, _, _, _, _, _, _, h, _⟩ := h; cases h)) ⟨Or.inl ⟨by rfl, ?_⟩, fun _ => rfl⟩ ?_
      rotate_left
      ·intro w; go_simp
       try with_reducible rfl
      refine wpAnyIn_ready (rs := [0, 2, 4]) (by kernel_rfl) (by simp) ?_
      refine qcgh rfl (fun K hK => ?_) ?_
      ·go_simp
       refine hK _ _ ?_;clear hK K;refine wpAnyIn_ready (rs := [2, 4]) (by kernel_rfl) (by simp) ?_
       refine qcgh rfl (fun K hK => ?_) ?_
       ·go_simp
        refine hK _ _ ?_;clear hK K;refine wpAnyIn_ready (rs := [4]) (by kernel_rfl) (by simp) ?_
        refine qcgh rfl (fun K hK => ?_) ?_
        ·go_simp
         refine hK _ _ ?_;clear hK K;refine wpAnyIn_ready (rs := [5]) (by kernel_rfl) (by simp) ?_
         refine qcgh rfl (fun K hK => ?_) ?_
         ·go_simp
          refine ⟨trivial, (callsIn_wide.2 (MA.out)).mono ?_⟩;rintro e Wc hcp;have b2 := hcp.1;obtain ⟨u, rfl, v', w3, ys, hrun, hown, hcs, hgr, hpl⟩ := qjc (qgn HR.out b2) (HC.out.below b2) hcp (qcgs HS.out b2.size) HLN.out;have cX2 : Wc.cell? ⟨X, 0, none⟩ = some (.slice ao nn co) := (show Boxed Wc X 39 (.slice ao nn co) from (b2.block X HV6.out.lt).trans HV6.out).cell;have FIN := qb (R6.out.app HX.out HN.out b2 HV6.out (fun g hg => ⟨(qcn HR.out g hg).1, qcgt (qcn HR.out g hg).2 b2.size⟩) hown hcs hgr hpl);obtain ⟨av', nv', cv', rfl⟩ : ∃ a n c, v' = .slice a n c := by obtain ⟨a, c, h, _⟩ := qdd hown; exact ⟨a, _, c, h⟩
          have cX3 : w3.cell? ⟨X, 0, none⟩ = some (.slice ao nn co) := FIN.out.2.2.cell;have fX3 : w3.frozen? ⟨X, 0, none⟩ = false := FIN.out.2.2.frozen;clear hown hcs hgr hpl hcp b2
          try dsimp only
          refine hK _ _ ?_;clear hK K;refine wpAnyIn_ready (rs := [6]) (by kernel_rfl) (by simp) ?_
          refine qcgh rfl (fun K hK => ?_) ?_
          ·refine qcv rfl _ _ 39 rfl _ u _ rfl rfl hrun ?_;refine hK _ _ ?_;clear hK K;refine wpAnyIn_ready (rs := [7]) (by kernel_rfl) (by simp) ?_
           refine qcgh rfl (fun K hK => ?_) ?_
           ·go_simp
            refine hK _ _ ?_;clear hK K;refine wpAnyIn_done (by kernel_rfl) ?_ _
            exact ⟨_, _, _, _, _, _, _, rfl, rfl, FIN.out.1, FIN.out.2.1.trans (KeepsOthers.setCell _ _ _)⟩
           exact qcgk
          exact qcgk
         exact qcgk
        exact qcgk
       refine qcgh rfl (fun K hK => ?_) ?_
       ·go_simp
        refine hK _ _ ?_;clear hK K;refine wpAnyIn_ready (rs := [2]) (by kernel_rfl) (by simp) ?_
        refine qcgh rfl (fun K hK => ?_) ?_
        ·go_simp
         refine hK _ _ ?_;clear hK K;refine wpAnyIn_ready (rs := [5]) (by kernel_rfl) (by simp) ?_
         refine qcgh rfl (fun K hK => ?_) ?_
         ·go_simp
          refine ⟨trivial, (callsIn_wide.2 (MA.out)).mono ?_⟩;rintro e Wc hcp;have b2 := hcp.1;obtain ⟨u, rfl, v', w3, ys, hrun, hown, hcs, hgr, hpl⟩ := qjc (qgn HR.out b2) (HC.out.below b2) hcp (qcgs HS.out b2.size) HLN.out;have cX2 : Wc.cell? ⟨X, 0, none⟩ = some (.slice ao nn co) := (show Boxed Wc X 39 (.slice ao nn co) from (b2.block X HV6.out.lt).trans HV6.out).cell;have FIN := qb (R6.out.app HX.out HN.out b2 HV6.out (fun g hg => ⟨(qcn HR.out g hg).1, qcgt (qcn HR.out g hg).2 b2.size⟩) hown hcs hgr hpl);obtain ⟨av', nv', cv', rfl⟩ : ∃ a n c, v' = .slice a n c := by obtain ⟨a, c, h, _⟩ := qdd hown; exact ⟨a, _, c, h⟩
          have cX3 : w3.cell? ⟨X, 0, none⟩ = some (.slice ao nn co) := FIN.out.2.2.cell;have fX3 : w3.frozen? ⟨X, 0, none⟩ = false := FIN.out.2.2.frozen;clear hown hcs hgr hpl hcp b2
          try dsimp only
          refine hK _ _ ?_;clear hK K;refine wpAnyIn_ready (rs := [6]) (by kernel_rfl) (by simp) ?_
          refine qcgh rfl (fun K hK => ?_) ?_
          ·refine qcv rfl _ _ 39 rfl _ u _ rfl rfl hrun ?_;refine hK _ _ ?_;clear hK K;refine wpAnyIn_ready (rs := [7]) (by kernel_rfl) (by simp) ?_
           refine qcgh rfl (fun K hK => ?_) ?_
           ·go_simp
            refine hK _ _ ?_;clear hK K;refine wpAnyIn_done (by kernel_rfl) ?_ _
            exact ⟨_, _, _, _, _, _, _, rfl, rfl, FIN.out.1, FIN.out.2.1.trans (KeepsOthers.setCell _ _ _)⟩
           exact qcgk
          exact qcgk
         exact qcgk
        exact qcgk
       exact qcgk
      refine qcgh rfl (fun K hK => ?_) ?_
      ·go_simp
       refine hK _ _ ?_;clear hK K;refine wpAnyIn_ready (rs := [0, 4]) (by kernel_rfl) (by simp) ?_
       refine qcgh rfl (fun K hK => ?_) ?_
       ·go_simp
        refine hK _ _ ?_;clear hK K;refine wpAnyIn_ready (rs := [4]) (by kernel_rfl) (by simp) ?_
        refine qcgh rfl (fun K hK => ?_) ?_
        ·go_simp
         refine hK _ _ ?_;clear hK K;refine wpAnyIn_ready (rs := [5]) (by kernel_rfl) (by simp) ?_
         refine qcgh rfl (fun K hK => ?_) ?_
         ·go_simp
          refine ⟨trivial, (callsIn_wide.2 (MA.out)).mono ?_⟩;rintro e Wc hcp;have b2 := hcp.1;obtain ⟨u, rfl, v', w3, ys, hrun, hown, hcs, hgr, hpl⟩ := qjc (qgn HR.out b2) (HC.out.below b2) hcp (qcgs HS.out b2.size) HLN.out;have cX2 : Wc.cell? ⟨X, 0, none⟩ = some (.slice ao nn co) := (show Boxed Wc X 39 (.slice ao nn co) from (b2.block X HV6.out.lt).trans HV6.out).cell;have FIN := qb (R6.out.app HX.out HN.out b2 HV6.out (fun g hg => ⟨(qcn HR.out g hg).1, qcgt (qcn HR.out g hg).2 b2.size⟩) hown hcs hgr hpl);obtain ⟨av', nv', cv', rfl⟩ : ∃ a n c, v' = .slice a n c := by obtain ⟨a, c, h, _⟩ := qdd hown; exact ⟨a, _, c, h⟩
          have cX3 : w3.cell? ⟨X, 0, none⟩ = some (.slice ao nn co) := FIN.out.2.2.cell;have fX3 : w3.frozen? ⟨X, 0, none⟩ = false := FIN.out.2.2.frozen;clear hown hcs hgr hpl hcp b2
          try dsimp only
          refine hK _ _ ?_;clear hK K;refine wpAnyIn_ready (rs := [6]) (by kernel_rfl) (by simp) ?_
          refine qcgh rfl (fun K hK => ?_) ?_
          ·refine qcv rfl _ _ 39 rfl _ u _ rfl rfl hrun ?_;refine hK _ _ ?_;clear hK K;refine wpAnyIn_ready (rs := [7]) (by kernel_rfl) (by simp) ?_
           refine qcgh rfl (fun K hK => ?_) ?_
           ·go_simp
            refine hK _ _ ?_;clear hK K;refine wpAnyIn_done (by kernel_rfl) ?_ _
            exact ⟨_, _, _, _, _, _, _, rfl, rfl, FIN.out.1, FIN.out.2.1.trans (KeepsOthers.setCell _ _ _)⟩
           exact qcgk
          exact qcgk
         exact qcgk
        exact qcgk
       refine qcgh rfl (fun K hK => ?_) ?_
       ·go_simp
        refine hK _ _ ?_;clear hK K;refine wpAnyIn_ready (rs := [0, 5]) (by kernel_rfl) (by simp) ?_
        refine qcgh rfl (fun K hK => ?_) ?_
        ·go_simp
         refine hK _ _ ?_;clear hK K;refine wpAnyIn_ready (rs := [5]) (by kernel_rfl) (by simp) ?_
         refine qcgh rfl (fun K hK => ?_) ?_
         ·go_simp
          refine ⟨trivial, (callsIn_wide.2 (MA.out)).mono ?_⟩;rintro e Wc hcp;have b2 := hcp.1;obtain ⟨u, rfl, v', w3, ys, hrun, hown, hcs, hgr, hpl⟩ := qjc (qgn HR.out b2) (HC.out.below b2) hcp (qcgs HS.out b2.size) HLN.out;have cX2 : Wc.cell? ⟨X, 0, none⟩ = some (.slice ao nn co) := (show Boxed Wc X 39 (.slice ao nn co) from (b2.block X HV6.out.lt).trans HV6.out).cell;have FIN := qb (R6.out.app HX.out HN.out b2 HV6.out (fun g hg => ⟨(qcn HR.out g hg).1, qcgt (qcn HR.out g hg).2 b2.size⟩) hown hcs hgr hpl);obtain ⟨av', nv', cv', rfl⟩ : ∃ a n c, v' = .slice a n c := by obtain ⟨a, c, h, _⟩ := qdd hown; exact ⟨a, _, c, h⟩
          have cX3 : w3.cell? ⟨X, 0, none⟩ = some (.slice ao nn co) := FIN.out.2.2.cell;have fX3 : w3.frozen? ⟨X, 0, none⟩ = false := FIN.out.2.2.frozen;clear hown hcs hgr hpl hcp b2
          try dsimp only
          refine hK _ _ ?_;clear hK K;refine wpAnyIn_ready (rs := [6]) (by kernel_rfl) (by simp) ?_
          refine qcgh rfl (fun K hK => ?_) ?_
          ·refine qcv rfl _ _ 39 rfl _ u _ rfl rfl hrun ?_;refine hK _ _ ?_;clear hK K;refine wpAnyIn_ready (rs := [7]) (by kernel_rfl) (by simp) ?_
           refine qcgh rfl (fun K hK => ?_) ?_
           ·go_simp
            refine hK _ _ ?_;clear hK K;refine wpAnyIn_done (by kernel_rfl) ?_ _
            exact ⟨_, _, _, _, _, _, _, rfl, rfl, FIN.out.1, FIN.out.2.1.trans (KeepsOthers.setCell _ _ _)⟩
           exact qcgk
          exact qcgk
         exact qcgk
        refine qcgh rfl (fun K hK => ?_) ?_
        ·go_simp
         refine ⟨trivial, (callsIn_wide.2 (MA.out)).mono ?_⟩;rintro e Wc hcp;have b2 := hcp.1;obtain ⟨u, rfl, v', w3, ys, hrun, hown, hcs, hgr, hpl⟩ := qjc (qgn HR.out b2) (HC.out.below b2) hcp (qcgs HS.out b2.size) HLN.out;have cX2 : Wc.cell? ⟨X, 0, none⟩ = some (.slice ao nn co) := (show Boxed Wc X 39 (.slice ao nn co) from (b2.block X HV6.out.lt).trans HV6.out).cell;have FIN := qb (R6.out.app HX.out HN.out b2 HV6.out (fun g hg => ⟨(qcn HR.out g hg).1, qcgt (qcn HR.out g hg).2 b2.size⟩) hown hcs hgr hpl);obtain ⟨av', nv', cv', rfl⟩ : ∃ a n c, v' = .slice a n c := by obtain ⟨a, c, h, _⟩ := qdd hown; exact ⟨a, _, c, h⟩
         have cX3 : w3.cell? ⟨X, 0, none⟩ = some (.slice ao nn co) := FIN.out.2.2.cell;have fX3 : w3.frozen? ⟨X, 0, none⟩ = false := FIN.out.2.2.frozen;clear hown hcs hgr hpl hcp b2
         try dsimp only
         refine hK _ _ ?_;clear hK K;refine wpAnyIn_ready (rs := [0]) (by kernel_rfl) (by simp) ?_
         refine qcgh rfl (fun K hK => ?_) ?_
         ·go_simp
          refine hK _ _ ?_;clear hK K;refine wpAnyIn_ready (rs := [6]) (by kernel_rfl) (by simp) ?_
          refine qcgh rfl (fun K hK => ?_) ?_
          ·refine qcv rfl _ _ 39 rfl _ u _ rfl rfl hrun ?_;refine hK _ _ ?_;clear hK K;refine wpAnyIn_ready (rs := [7]) (by kernel_rfl) (by simp) ?_
           refine qcgh rfl (fun K hK => ?_) ?_
           ·go_simp
            refine hK _ _ ?_;clear hK K;refine wpAnyIn_done (by kernel_rfl) ?_ _
            exact ⟨_, _, _, _, _, _, _, rfl, rfl, FIN.out.1, FIN.out.2.1.trans (KeepsOthers.setCell _ _ _)⟩
           exact qcgk
          exact qcgk
         exact qcgk
        exact qcgk
       exact qcgk
      refine qcgh rfl (fun K hK => ?_) ?_
      ·go_simp
       refine hK _ _ ?_;clear hK K;refine wpAnyIn_ready (rs := [0, 2]) (by kernel_rfl) (by simp) ?_
       refine qcgh rfl (fun K hK => ?_) ?_
       ·go_simp
        refine hK _ _ ?_;clear hK K;refine wpAnyIn_ready (rs := [2]) (by kernel_rfl) (by simp) ?_
        refine qcgh rfl (fun K hK => ?_) ?_
        ·go_simp
         refine hK _ _ ?_;clear hK K;refine wpAnyIn_ready (rs := [5]) (by kernel_rfl) (by simp) ?_
         refine qcgh rfl (fun K hK => ?_) ?_
         ·go_simp
          refine ⟨trivial, (callsIn_wide.2 (MA.out)).mono ?_⟩;rintro e Wc hcp;have b2 := hcp.1;obtain ⟨u, rfl, v', w3, ys, hrun, hown, hcs, hgr, hpl⟩ := qjc (qgn HR.out b2) (HC.out.below b2) hcp (qcgs HS.out b2.size) HLN.out;have cX2 : Wc.cell? ⟨X, 0, none⟩ = some (.slice ao nn co) := (show Boxed Wc X 39 (.slice ao nn co) from (b2.block X HV6.out.lt).trans HV6.out).cell;have FIN := qb (R6.out.app HX.out HN.out b2 HV6.out (fun g hg => ⟨(qcn HR.out g hg).1, qcgt (qcn HR.out g hg).2 b2.size⟩) hown hcs hgr hpl);obtain ⟨av', nv', cv', rfl⟩ : ∃ a n c, v' = .slice a n c := by obtain ⟨a, c, h, _⟩ := qdd hown; exact ⟨a, _, c, h⟩
          have cX3 : w3.cell? ⟨X, 0, none⟩ = some (.slice ao nn co) := FIN.out.2.2.cell;have fX3 : w3.frozen? ⟨X, 0, none⟩ = false := FIN.out.2.2.frozen;clear hown hcs hgr hpl hcp b2
          try dsimp only
          refine hK _ _ ?_;clear hK K;refine wpAnyIn_ready (rs := [6]) (by kernel_rfl) (by simp) ?_
          refine qcgh rfl (fun K hK => ?_) ?_
          ·refine qcv rfl _ _ 39 rfl _ u _ rfl rfl hrun ?_;refine hK _ _ ?_;clear hK K;refine wpAnyIn_ready (rs := [7]) (by kernel_rfl) (by simp) ?_
           refine qcgh rfl (fun K hK => ?_) ?_
           ·go_simp
            refine hK _ _ ?_;clear hK K;refine wpAnyIn_done (by kernel_rfl) ?_ _
            exact ⟨_, _, _, _, _, _, _, rfl, rfl, FIN.out.1, FIN.out.2.1.trans (KeepsOthers.setCell _ _ _)⟩
           exact qcgk
          exact qcgk
         exact qcgk
        exact qcgk
       refine qcgh rfl (fun K hK => ?_) ?_
       ·go_simp
        refine hK _ _ ?_;clear hK K;refine wpAnyIn_ready (rs := [0, 5]) (by kernel_rfl) (by simp) ?_
        refine qcgh rfl (fun K hK => ?_) ?_
        ·go_simp
         refine hK _ _ ?_;clear hK K;refine wpAnyIn_ready (rs := [5]) (by kernel_rfl) (by simp) ?_
         refine qcgh rfl (fun K hK => ?_) ?_
         ·go_simp
          refine ⟨trivial, (callsIn_wide.2 (MA.out)).mono ?_⟩;rintro e Wc hcp;have b2 := hcp.1;obtain ⟨u, rfl, v', w3, ys, hrun, hown, hcs, hgr, hpl⟩ := qjc (qgn HR.out b2) (HC.out.below b2) hcp (qcgs HS.out b2.size) HLN.out;have cX2 : Wc.cell? ⟨X, 0, none⟩ = some (.slice ao nn co) := (show Boxed Wc X 39 (.slice ao nn co) from (b2.block X HV6.out.lt).trans HV6.out).cell;have FIN := qb (R6.out.app HX.out HN.out b2 HV6.out (fun g hg => ⟨(qcn HR.out g hg).1, qcgt (qcn HR.out g hg).2 b2.size⟩) hown hcs hgr hpl);obtain ⟨av', nv', cv', rfl⟩ : ∃ a n c, v' = .slice a n c := by obtain ⟨a, c, h, _⟩ := qdd hown; exact ⟨a, _, c, h⟩
          have cX3 : w3.cell? ⟨X, 0, none⟩ = some (.slice ao nn co) := FIN.out.2.2.cell;have fX3 : w3.frozen? ⟨X, 0, none⟩ = false := FIN.out.2.2.frozen;clear hown hcs hgr hpl hcp b2
          try dsimp only
          refine hK _ _ ?_;clear hK K;refine wpAnyIn_ready (rs := [6]) (by kernel_rfl) (by simp) ?_
          refine qcgh rfl (fun K hK => ?_) ?_
          ·refine qcv rfl _ _ 39 rfl _ u _ rfl rfl hrun ?_;refine hK _ _ ?_;clear hK K;refine wpAnyIn_ready (rs := [7]) (by kernel_rfl) (by simp) ?_
           refine qcgh rfl (fun K hK => ?_) ?_
           ·go_simp
            refine hK _ _ ?_;clear hK K;refine wpAnyIn_done (by kernel_rfl) ?_ _
            exact ⟨_, _, _, _, _, _, _, rfl, rfl, FIN.out.1, FIN.out.2.1.trans (KeepsOthers.setCell _ _ _)⟩
           exact qcgk
          exact qcgk
         exact qcgk
        refine qcgh rfl (fun K hK => ?_) ?_
        ·go_simp
         refine ⟨trivial, (callsIn_wide.2 (MA.out)).mono ?_⟩;rintro e Wc hcp;have b2 := hcp.1;obtain ⟨u, rfl, v', w3, ys, hrun, hown, hcs, hgr, hpl⟩ := qjc (qgn HR.out b2) (HC.out.below b2) hcp (qcgs HS.out b2.size) HLN.out;have cX2 : Wc.cell? ⟨X, 0, none⟩ = some (.slice ao nn co) := (show Boxed Wc X 39 (.slice ao nn co) from (b2.block X HV6.out.lt).trans HV6.out).cell;have FIN := qb (R6.out.app HX.out HN.out b2 HV6.out (fun g hg => ⟨(qcn HR.out g hg).1, qcgt (qcn HR.out g hg).2 b2.size⟩) hown hcs hgr hpl);obtain ⟨av', nv', cv', rfl⟩ : ∃ a n c, v' = .slice a n c := by obtain ⟨a, c, h, _⟩ := qdd hown; exact ⟨a, _, c, h⟩
         have cX3 : w3.cell? ⟨X, 0, none⟩ = some (.slice ao nn co) := FIN.out.2.2.cell;have fX3 : w3.frozen? ⟨X, 0, none⟩ = false := FIN.out.2.2.frozen;clear hown hcs hgr hpl hcp b2
         try dsimp only
         refine hK _ _ ?_;clear hK K;refine wpAnyIn_ready (rs := [0]) (by kernel_rfl) (by simp) ?_
         refine qcgh rfl (fun K hK => ?_) ?_
         ·go_simp
          refine hK _ _ ?_;clear hK K;refine wpAnyIn_ready (rs := [6]) (by kernel_rfl) (by simp) ?_
          refine qcgh rfl (fun K hK => ?_) ?_
          ·refine qcv rfl _ _ 39 rfl _ u _ rfl rfl hrun ?_;refine hK _ _ ?_;clear hK K;refine wpAnyIn_ready (rs := [7]) (by kernel_rfl) (by simp) ?_
           refine qcgh rfl (fun K hK => ?_) ?_
           ·go_simp
            refine hK _ _ ?_;clear hK K;refine wpAnyIn_done (by kernel_rfl) ?_ _
            exact ⟨_, _, _, _, _, _, _, rfl, rfl, FIN.out.1, FIN.out.2.1.trans (KeepsOthers.setCell _ _ _)⟩
           exact qcgk
          exact qcgk
         exact qcgk
        exact qcgk
       exact qcgk
      exact qcgk
     case rest11 =>
      rintro _ _ W7 ⟨q24, q25, q26, q27, q28, q29, q30, rfl, rfl, P7, O7⟩
      try gi_wp2
      have hfl : ((pre ++ [((⟨p, f, 0, pos⟩ : Item), Value.slice av nv cv)]).map Prod.fst).flatMap (fun x => qr x.f x.p) = (pre.map Prod.fst).flatMap (fun x => qr x.f x.p) ++ qr f p := by simp
      have hla : qvd (c : Int) ((pre ++ [((⟨p, f, 0, pos⟩ : Item), Value.slice av nv cv)]).map Prod.fst) = pos := by rw [List.map_append]; exact qbhh _ _ _
      refine ⟨((HO5.out.trans (KeepsOthers.drew W5)).trans O7).from _, HKP.out _ _ (fun k h1 h2 => (P7.kp k h2 (by omega) (by omega) (by omega)).trans (HIJ.out.pj.kp k h2 (by omega) (by omega) (by omega)).symm), ⟨?_, ?_⟩⟩
      ·intro y hy;rw [List.map_append] at hy;rcases List.mem_append.1 hy with hy | hy
       ·exact HIJ.out.ok y hy
       ·simp at hy; subst hy; rfl
      ·rw [hfl, hla];exact P7
    ·have hxb : (er == 0) = false := by simpa using hx
     have HXX := qb hx;clear hx;gi_wp2
     exact ⟨O5.from _, ⟨rfl, pre.map Prod.fst, ⟨p, f, er, pos⟩, by simp, HIJ.out.ok, HXX.out, R5H.out⟩⟩
  case done =>
   rintro D xs V hD hS hi hdef;have hset := hi.set;have hpj := hi.pj;have hok := hi.ok;rw [hS] at hset hpj hok;obtain ⟨e, he, hel⟩ := qbzm (c := c) HI.out.cl (qfw s.data.toList c) (fun x hx => (qsv (by rw [HL.out]; exact hs) HI.out.cl x hx (hok x hx)).place)
   rw [he] at hset hpj;generalize (qfw s.data.toList c).flatMap (fun x => qr x.f x.p) = cs at *;rw [HL.out] at hel;have PKV := HI.out.pk.range (by rw [HXW.out]; exact HBW.out) (by rw [HXW.out]; exact hX) (by rw [HXW.out]; exact hpj) hD hdef
   obtain ⟨v, hv, ⟨va, vc, rfl⟩, hso⟩ := HI.out.pk.set (W1 := W1) (V := V) (z' := (e : Int)) (e' := 0) (cs := cs) (by rw [HXW.out]; exact hX) (by rw [HXW.out]; exact hpj)
   rw [HXW.out] at hv;obtain ⟨us, hu1, hu2⟩ := PKV.st;obtain ⟨sa, sc, rfl, _⟩ := qdd hu1;have hsl := HI.out.sl;have hble := qdh (l := s.data.toList) (a := e) (by rw [HL.out]; exact hel)
   rw [HL.out] at hble;have R6 := qb (fun W => Run6 s e hs hel (e : Int) rfl W);have hstep : npGo s.data.toList (m + 1) c sets = if blk s.data.toList e = s.data.toList.length then (0, 0, sets ++ [cs])
     else if (qgg s.data.toList (blk s.data.toList e) (sets.length + 1)).2 ≠ 0 then ((qgg s.data.toList (blk s.data.toList e) (sets.length + 1)).2, ((qgg s.data.toList (blk s.data.toList e) (sets.length + 1)).1 : Int), [])
     else npGo s.data.toList m (qgg s.data.toList (blk s.data.toList e) (sets.length + 1)).1 (sets ++ [cs]) := by
    conv => lhs; unfold npGo
    have ho : qbr s.data.toList c = (0, (e : Int), cs) := hset;rw [ho];simp only [ne_eq, not_true_eq_false, if_false, Int.toNat_natCast]
   have HST := qb hstep;have hal : Below V.heap.size V (V.alloc (.cells #[.slice va cs.length vc] 39)) := (Below.refl _ V).alloc (qcgl _) _;have hu1a := qgn hu1 hal;have hba : w.heap.size + 1 + 1 + 1 ≤ (V.alloc (.cells #[.slice va cs.length vc] 39)).heap.size := by have := PKV.er.lt; simp; omega
   have cV : V.cell? ⟨X, 0, none⟩ = some (.slice va cs.length vc) := hv.cell;obtain ⟨i0, hi0, hz0, hz1, hz2⟩ := info_parts info39;have HPK := qb PKV;have HSO := qb hso;have HU1 := qb hu1;have HU2 := qb hu2;have HUA := qb hu1a;clear hset hpj hok hS hi hdef PKV hso hu1 hu2 hu1a hv he hstep hal hACT;generalize blk s.data.toList e = d at *;dsimp only
   by_cases hd : d = s.size
   ·have hdb : ((d : Int) == (s.size : Int)) = true := by simp [hd]
    have HD := qb hd;clear hd;go_wp2_with (at_builtin; refine wpList_append_own_at _ rfl _ _ 22 rfl (w.heap.size + 1 + 1 + 1) 39 i0 (.slice none 0 0) 1 24 Tryz.underlying22 hi0 hz0 hz1 hz2 rfl (by decide) _ _ _ rfl HUA.out ⟨V.heap.size, 0, none⟩ 1 1 [.slice va cs.length vc] rfl rfl (cell_one_new _ _ _) (by simp [Value.oneCell']) (by unfold maxLen; omega) (by omega) hba ?_; intro v' w3 hown' hgrow _ hat; obtain ⟨g', cap', rfl⟩ := ownsRow_succ hown'; have PK3 := HPK.out.app _ HSO.out HU1.out HU2.out hown' hgrow hat; have p1 : w3.cell? ⟨w.heap.size + 1, 0, none⟩ = some (.int .i64 (e : Int)) := qd 0 PK3.pl rfl; have p2 := qf 0 PK3.pl; have HP3 := qb PK3; clear PK3 hown' hgrow hat)
    have p3 : w3.cell? ⟨w.heap.size, 0, none⟩ = some (.int .i64 0) := qd 0 HP3.out.flt rfl;have p4 : w3.cell? ⟨w.heap.size, 1, none⟩ = some (.int .i64 0) := qd 1 HP3.out.flt rfl;have p5 := qf 0 HP3.out.flt;have p6 := qf 1 HP3.out.flt;refine (R6.out _).mono ?_;rintro e9 w9 ⟨rfl, hw9⟩;rw [hw9];clear hw9 w9;(go_wp2_with fail);have PK4 := HP3.out.place (d : Int);generalize w3.setCell ⟨w.heap.size + 1, 0, none⟩ (.int .i64 (d : Int)) = W4 at *;have e5 : ((W4.setCell ⟨w.heap.size, 0, none⟩ (.int .i64 0)).setCell ⟨w.heap.size, 1, none⟩ (.int .i64 0)).heap[w.heap.size]? = some (.cells #[.int .i64 0, .int .i64 0] 25 (0, 0)) := qv 1 _ (qv 0 _ PK4.flt);have hb5 : Below w.heap.size w ((W4.setCell ⟨w.heap.size, 0, none⟩ (.int .i64 0)).setCell ⟨w.heap.size, 1, none⟩ (.int .i64 0)) := (PK4.bel.setCell (p := ⟨w.heap.size, 0, none⟩) (qcgl _) _).setCell (p := ⟨w.heap.size, 1, none⟩) (qcgl _) _;have hk5 : Keep (fun b => w.heap.size + 1 + 1 + 1 ≤ b) W4 ((W4.setCell ⟨w.heap.size, 0, none⟩ (.int .i64 0)).setCell ⟨w.heap.size, 1, none⟩ (.int .i64 0)) := ⟨by rw [qnv, qnv]; exact qcgl _, fun b cs t m hb hh => (qcgx _ _ _ b (by simp only; omega)).trans ((qcgx _ _ _ b (by simp only; omega)).trans hh)⟩
    refine fin8 _ (D :: Ds) _ w.heap.size w.heap.size (.slice (some ⟨g', 0, none⟩) (sets.length + 1) cap') _ _ rfl rfl e5 PK4.nd (by
     intro E hE;have hne := qrx (PK4.ds E hE).2 PK4.flt;exact ⟨(PK4.ds E hE).1, (qcgx _ _ _ _ hne).trans ((qcgx _ _ _ _ hne).trans (PK4.ds E hE).2)⟩) ?_
    intro W' hpst;have hGe : G = (0, 0, sets ++ [cs]) := by rw [← HGO.out, HI.out.eq, HST.out, if_pos (by rw [HD.out, HL.out])]
    refine ⟨.slice (some ⟨g', 0, none⟩) (sets.length + 1) cap', ?_, ?_, hb5.trans hpst.1⟩
    ·rw [hGe]
    ·rw [hGe];exact ((PK4.st.keep hk5).keep (qcdm hpst (qccd hpst hb5))).at_
   ·have hdb : ((d : Int) == (s.size : Int)) = false := by simp; omega
    have hdl : d < s.size := by omega
    have RB := qb (fun (z : Int) (hz : z = ((sets.length + 1 : Nat) : Int)) (W : World) => (by rw [hz]; exact qbmx s d (sets.length + 1) W hs hdl (by omega) : Calls Tryz.prog 29 #[.string s, .int .i64 (d : Int), .int .i64 z] W fun e w' => e = .returned (.tuple #[.int .i64 ((qgg s.data.toList d (sets.length + 1)).1 : Int), .int .i64 (qgg s.data.toList d (sets.length + 1)).2]) ∧ Below W.heap.size W w'))
    have h1 := HST.out;rw [if_neg (by rw [HL.out]; exact hd), ← HI.out.eq, HGO.out] at h1
    have HGN := qb h1;clear h1;have hbo := qb (qbxt (l := s.data.toList) (a := d) (n := sets.length + 1));generalize qgg s.data.toList d (sets.length + 1) = bb at *;obtain ⟨ba, br⟩ := bb;dsimp only at HGN hbo RB;have HDL := qb hdl;clear hd hdl;go_wp2_with (at_builtin; refine wpList_append_own_at _ rfl _ _ 22 rfl (w.heap.size + 1 + 1 + 1) 39 i0 (.slice none 0 0) 1 24 Tryz.underlying22 hi0 hz0 hz1 hz2 rfl (by decide) _ _ _ rfl HUA.out ⟨V.heap.size, 0, none⟩ 1 1 [.slice va cs.length vc] rfl rfl (cell_one_new _ _ _) (by simp [Value.oneCell']) (by unfold maxLen; omega) (by omega) hba ?_; intro v' w3 hown' hgrow _ hat; obtain ⟨g', cap', rfl⟩ := ownsRow_succ hown'; have PK3 := HPK.out.app _ HSO.out HU1.out HU2.out hown' hgrow hat; have p1 : w3.cell? ⟨w.heap.size + 1, 0, none⟩ = some (.int .i64 (e : Int)) := qd 0 PK3.pl rfl; have p2 := qf 0 PK3.pl; have HP3 := qb PK3; clear PK3 hown' hgrow hat)
    have p7 : w3.cell? ⟨w.heap.size + 1 + 1, 0, none⟩ = some (.int .i64 0) := qd 0 HP3.out.er rfl;refine (R6.out _).mono ?_;rintro e9 w9 ⟨rfl, hw9⟩;rw [hw9];clear hw9 w9;(go_wp2_with fail);have PK4 := qb (HP3.out.place (d : Int));generalize w3.setCell ⟨w.heap.size + 1, 0, none⟩ (.int .i64 (d : Int)) = W4 at *;refine (RB.out _ (by first | rfl | (push_cast; rfl)) _).mono ?_
    rintro e9 w5 ⟨rfl, b5⟩;have PK5 := PK4.out.next b5;have m1 : w5.cell? ⟨w.heap.size + 1, 0, none⟩ = some (.int .i64 (d : Int)) := qd 0 PK5.pl rfl;have m2 := qf 0 PK5.pl;have m3 : w5.cell? ⟨w.heap.size + 1 + 1, 0, none⟩ = some (.int .i64 0) := qd 0 PK5.er rfl;have m4 := qf 0 PK5.er;have PK6 := qb ((PK5.place (ba : Int)).fault br);clear PK5 b5 PK4 HP3 p1 p2 p7
    try dsimp only
    by_cases hr : br = 0
    ·have hb2 := hbo.out hr;have HG0 := qb (HGN.out.trans (if_neg (fun h => h hr)));have HB2 := qb hb2;clear hb2 HGN hbo;subst hr;(go_wp2_with fail);have hb2 := HB2.out;refine HK.out _ _ (Handed.intro m (Nat.lt_succ_self _) (HJ.out m _ _ ⟨D :: Ds, sets ++ [cs], _, ba, _, _, _, _, _, _, _, _, _, _, _, _, _, _, _, _, _, _, _, _, _, _, _, _, _, _, _, rfl, ⟨PK6.out, hb2.1, ?_, ?_, ?_⟩⟩))
     ·rw [HGO.out];exact HG0.out
     ·have := HI.out.num;rw [qcgv, List.length_singleton];omega
     ·have := hb2.2;rw [qcgv, List.length_singleton];omega
    ·have hrb : (br == 0) = false := by simpa using hr
     have HRR := qb hr;clear hr;(go_wp2_with fail);exact TAIL.out _ _ _ _ _ _ _ _ _ _ _ _ _ _ _ _ _ _ _ _ _ _ _ _ _ _ _ _ _ _ _ _ _ _ _ _ _ _ _ _ _ _ _ _ _ _ _ _ _ _ _ _ _ (D :: Ds) (sets ++ [cs]) _ (ba : Int) br _ PK6.out (by rw [HGN.out]; exact if_pos HRR.out)
  case stop =>
   rintro D k pre V hD hp h hdef;obtain rfl := h.code;obtain ⟨rest, hrest⟩ := hp;obtain ⟨z, e, cs, h1, h2, h3⟩ := h.set (rest := rest);rw [hrest] at h1;have PKV := qb (HI.out.pk.range (by rw [HXW.out]; exact HBW.out) (by rw [HXW.out]; exact hX) (by rw [HXW.out]; exact h3) hD hdef)
   have hGe : G = (e, z, []) := by
    rw [← HGO.out, HI.out.eq];unfold npGo;have ho : qbr s.data.toList c = (e, z, cs) := h1;rw [ho];exact if_pos h2
   have HGE := qb hGe;clear h1 h2 h3 hGe hrest h hdef;dsimp only;gi_wp2
   exact TAIL.out _ _ _ _ _ _ _ _ _ _ _ _ _ _ _ _ _ _ _ _ _ _ _ _ _ _ _ _ _ _ _ _ _ _ _ _ _ _ _ _ _ _ _ _ _ _ _ _ _ _ _ _ _ (D :: Ds) sets sv z e V PKV.out HGE.out
end Go.Proofs.YtpdlgiioahjhiaaGreat
