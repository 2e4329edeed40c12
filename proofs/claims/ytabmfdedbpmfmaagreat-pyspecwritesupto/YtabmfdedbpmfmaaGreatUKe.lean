/- Walks: Pre, the document's Pre. -/
import Derived.Test.YtabmfdedbpmfmaaGreatUZe
import Derived.Test.YtabmfdedbpmfmaaGreatUJi
import Derived.Test.YtabmfdedbpmfmaaGreatUYc
import Derived.Test.YtabmfdedbpmfmaaGreatUGb
import Derived.Test.YtabmfdedbpmfmaaGreatUGy
import Derived.Test.YtabmfdedbpmfmaaGreatUKb
namespace Go.Proofs.YtabmfdedbpmfmaaGreat
open Go.RowKit Go.Shelf
open Nat renaming le_refl → qbst
open World renaming alloc_heap_new → qbsr, size_alloc → qbsx
set_option linter.unusedVariables false
set_option maxHeartbeats 4000000
set_option maxRecDepth 100000
theorem qbln (W:World) (A B C:Obj):(((W.alloc A).alloc B).alloc C).heap[W.heap.size+1]? = some B:=by
 have h:=qbsr (W.alloc A) B;rw[qbsx]at h;exact(((Below.refl ((W.alloc A).alloc B).heap.size _).alloc (qbst _) C).block _ (by simp)).trans h
theorem qrx (x:PepL) (r1 q1:Option Addr) (c1 d1:Nat) (w:World) (rr:qz w (.slice r1 x.rel.length c1) x.rel) (ll:qz w (.slice q1 x.loc.length d1) x.loc) (hl:x.rel.length≤1048576) (hnil:r1=none→c1=0) :
  Calls Tryz.prog 39 #[.agg #[.string (qd x.ep),.slice r1 x.rel.length c1,.int .u8 x.c,.string (qd x.n),.bool x.b,.string (qd x.m),.bool x.d,.string (qd x.k),.slice q1 x.loc.length d1]] w (qbcw x w):=by
 have S0:=TB.start rr ll;have b1:Below (w.alloc (.cells #[.string (qd x.ep),.slice r1 x.rel.length c1,.int .u8 x.c,.string (qd x.n),.bool x.b,.string (qd x.m),.bool x.d,.string (qd x.k),.slice q1 x.loc.length d1] 44)).heap.size (w.alloc (.cells #[.string (qd x.ep),.slice r1 x.rel.length c1,.int .u8 x.c,.string (qd x.n),.bool x.b,.string (qd x.m),.bool x.d,.string (qd x.k),.slice q1 x.loc.length d1] 44)) (((w.alloc (.cells #[.string (qd x.ep),.slice r1 x.rel.length c1,.int .u8 x.c,.string (qd x.n),.bool x.b,.string (qd x.m),.bool x.d,.string (qd x.k),.slice q1 x.loc.length d1] 44)).alloc (.cells #[.string ⟨#[]⟩,.slice none 0 0,.int .u8 0,.string ⟨#[]⟩,.bool false,.string ⟨#[]⟩,.bool false,.string ⟨#[]⟩,.slice none 0 0] 44)).alloc (.cells #[.string (qd x.ep),.slice none 0 0,.int .u8 x.c,.string (qd x.n),.bool x.b,.string (qd x.m),.bool x.d,.string (qd x.k),.slice q1 x.loc.length d1] 44)):=((Below.refl _ _).alloc (qbst _) _).alloc (by simp) _
 have b2:Below ((w.alloc (.cells #[.string (qd x.ep),.slice r1 x.rel.length c1,.int .u8 x.c,.string (qd x.n),.bool x.b,.string (qd x.m),.bool x.d,.string (qd x.k),.slice q1 x.loc.length d1] 44)).alloc (.cells #[.string ⟨#[]⟩,.slice none 0 0,.int .u8 0,.string ⟨#[]⟩,.bool false,.string ⟨#[]⟩,.bool false,.string ⟨#[]⟩,.slice none 0 0] 44)).heap.size ((w.alloc (.cells #[.string (qd x.ep),.slice r1 x.rel.length c1,.int .u8 x.c,.string (qd x.n),.bool x.b,.string (qd x.m),.bool x.d,.string (qd x.k),.slice q1 x.loc.length d1] 44)).alloc (.cells #[.string ⟨#[]⟩,.slice none 0 0,.int .u8 0,.string ⟨#[]⟩,.bool false,.string ⟨#[]⟩,.bool false,.string ⟨#[]⟩,.slice none 0 0] 44)) (((w.alloc (.cells #[.string (qd x.ep),.slice r1 x.rel.length c1,.int .u8 x.c,.string (qd x.n),.bool x.b,.string (qd x.m),.bool x.d,.string (qd x.k),.slice q1 x.loc.length d1] 44)).alloc (.cells #[.string ⟨#[]⟩,.slice none 0 0,.int .u8 0,.string ⟨#[]⟩,.bool false,.string ⟨#[]⟩,.bool false,.string ⟨#[]⟩,.slice none 0 0] 44)).alloc (.cells #[.string (qd x.ep),.slice none 0 0,.int .u8 x.c,.string (qd x.n),.bool x.b,.string (qd x.m),.bool x.d,.string (qd x.k),.slice q1 x.loc.length d1] 44)):=(Below.refl _ _).alloc (qbst _) _
 have a0:(((w.alloc (.cells #[.string (qd x.ep),.slice r1 x.rel.length c1,.int .u8 x.c,.string (qd x.n),.bool x.b,.string (qd x.m),.bool x.d,.string (qd x.k),.slice q1 x.loc.length d1] 44)).alloc (.cells #[.string ⟨#[]⟩,.slice none 0 0,.int .u8 0,.string ⟨#[]⟩,.bool false,.string ⟨#[]⟩,.bool false,.string ⟨#[]⟩,.slice none 0 0] 44)).alloc (.cells #[.string (qd x.ep),.slice none 0 0,.int .u8 x.c,.string (qd x.n),.bool x.b,.string (qd x.m),.bool x.d,.string (qd x.k),.slice q1 x.loc.length d1] 44)).heap[w.heap.size]? = some (.cells #[.string (qd x.ep),.slice r1 x.rel.length c1,.int .u8 x.c,.string (qd x.n),.bool x.b,.string (qd x.m),.bool x.d,.string (qd x.k),.slice q1 x.loc.length d1] 44 (0,0)):=(b1.block _ (by simp)).trans S0.ea
 have a1:(((w.alloc (.cells #[.string (qd x.ep),.slice r1 x.rel.length c1,.int .u8 x.c,.string (qd x.n),.bool x.b,.string (qd x.m),.bool x.d,.string (qd x.k),.slice q1 x.loc.length d1] 44)).alloc (.cells #[.string ⟨#[]⟩,.slice none 0 0,.int .u8 0,.string ⟨#[]⟩,.bool false,.string ⟨#[]⟩,.bool false,.string ⟨#[]⟩,.slice none 0 0] 44)).alloc (.cells #[.string (qd x.ep),.slice none 0 0,.int .u8 x.c,.string (qd x.n),.bool x.b,.string (qd x.m),.bool x.d,.string (qd x.k),.slice q1 x.loc.length d1] 44)).heap[w.heap.size+1]? = some (.cells #[.string ⟨#[]⟩,.slice none 0 0,.int .u8 0,.string ⟨#[]⟩,.bool false,.string ⟨#[]⟩,.bool false,.string ⟨#[]⟩,.slice none 0 0] 44 (0,0)):=by
  have h:=qbsr (w.alloc (.cells #[.string (qd x.ep),.slice r1 x.rel.length c1,.int .u8 x.c,.string (qd x.n),.bool x.b,.string (qd x.m),.bool x.d,.string (qd x.k),.slice q1 x.loc.length d1] 44)) (.cells #[.string ⟨#[]⟩,.slice none 0 0,.int .u8 0,.string ⟨#[]⟩,.bool false,.string ⟨#[]⟩,.bool false,.string ⟨#[]⟩,.slice none 0 0] 44);rw[qbsx]at h;exact(b2.block _ (by simp)).trans h
 have g1:(((w.alloc (.cells #[.string (qd x.ep),.slice r1 x.rel.length c1,.int .u8 x.c,.string (qd x.n),.bool x.b,.string (qd x.m),.bool x.d,.string (qd x.k),.slice q1 x.loc.length d1] 44)).alloc (.cells #[.string ⟨#[]⟩,.slice none 0 0,.int .u8 0,.string ⟨#[]⟩,.bool false,.string ⟨#[]⟩,.bool false,.string ⟨#[]⟩,.slice none 0 0] 44)).alloc (.cells #[.string (qd x.ep),.slice none 0 0,.int .u8 x.c,.string (qd x.n),.bool x.b,.string (qd x.m),.bool x.d,.string (qd x.k),.slice q1 x.loc.length d1] 44)).heap[w.heap.size+1+1]? = some (.cells #[.string (qd x.ep),.slice none 0 0,.int .u8 x.c,.string (qd x.n),.bool x.b,.string (qd x.m),.bool x.d,.string (qd x.k),.slice q1 x.loc.length d1] 44 (0,0)):=by
  have h:=qbsr ((w.alloc (.cells #[.string (qd x.ep),.slice r1 x.rel.length c1,.int .u8 x.c,.string (qd x.n),.bool x.b,.string (qd x.m),.bool x.d,.string (qd x.k),.slice q1 x.loc.length d1] 44)).alloc (.cells #[.string ⟨#[]⟩,.slice none 0 0,.int .u8 0,.string ⟨#[]⟩,.bool false,.string ⟨#[]⟩,.bool false,.string ⟨#[]⟩,.slice none 0 0] 44)) (.cells #[.string (qd x.ep),.slice none 0 0,.int .u8 x.c,.string (qd x.n),.bool x.b,.string (qd x.m),.bool x.d,.string (qd x.k),.slice q1 x.loc.length d1] 44);rw[qbsx,qbsx]at h;exact h
 have lP:(((w.alloc (.cells #[.string (qd x.ep),.slice r1 x.rel.length c1,.int .u8 x.c,.string (qd x.n),.bool x.b,.string (qd x.m),.bool x.d,.string (qd x.k),.slice q1 x.loc.length d1] 44)).alloc (.cells #[.string ⟨#[]⟩,.slice none 0 0,.int .u8 0,.string ⟨#[]⟩,.bool false,.string ⟨#[]⟩,.bool false,.string ⟨#[]⟩,.slice none 0 0] 44)).alloc (.cells #[.string (qd x.ep),.slice none 0 0,.int .u8 x.c,.string (qd x.n),.bool x.b,.string (qd x.m),.bool x.d,.string (qd x.k),.slice q1 x.loc.length d1] 44)).heap.size=w.heap.size+1+1+1:=by simp
 have B1:=S0.bel.trans (b1.mono S0.bel.size);have HO:=qb (World.ownsRow_nil (((w.alloc (.cells #[.string (qd x.ep),.slice r1 x.rel.length c1,.int .u8 x.c,.string (qd x.n),.bool x.b,.string (qd x.m),.bool x.d,.string (qd x.k),.slice q1 x.loc.length d1] 44)).alloc (.cells #[.string ⟨#[]⟩,.slice none 0 0,.int .u8 0,.string ⟨#[]⟩,.bool false,.string ⟨#[]⟩,.bool false,.string ⟨#[]⟩,.slice none 0 0] 44)).alloc (.cells #[.string (qd x.ep),.slice none 0 0,.int .u8 x.c,.string (qd x.n),.bool x.b,.string (qd x.m),.bool x.d,.string (qd x.k),.slice q1 x.loc.length d1] 44)) (((w.alloc (.cells #[.string (qd x.ep),.slice r1 x.rel.length c1,.int .u8 x.c,.string (qd x.n),.bool x.b,.string (qd x.m),.bool x.d,.string (qd x.k),.slice q1 x.loc.length d1] 44)).alloc (.cells #[.string ⟨#[]⟩,.slice none 0 0,.int .u8 0,.string ⟨#[]⟩,.bool false,.string ⟨#[]⟩,.bool false,.string ⟨#[]⟩,.slice none 0 0] 44)).alloc (.cells #[.string (qd x.ep),.slice none 0 0,.int .u8 x.c,.string (qd x.n),.bool x.b,.string (qd x.m),.bool x.d,.string (qd x.k),.slice q1 x.loc.length d1] 44)).heap.size 9 1);obtain⟨i0,hi,hz0,hz1,hz2⟩:=info_parts Tryz.info9;clear S0 b1 b2 ll;cases r1 with
 | none=>
  obtain rfl:=hnil rfl;have hs:x.rel=[]:=by
   obtain⟨a,c,hv,hra⟩:=rr;cases hv;rcases hra with h|⟨b,off,h,_⟩
   ·exact h
   ·cases h
  have hl0:x.rel.length=0:=by rw[hs];rfl
  have hv0:valT x.rel=[]:=by rw[hs];rfl
  clear a0 a1 g1 lP B1 rr;rw[hl0]at HO ⊢;go_enter Tryz.func39,Tryz.ntmps39
  go_wp2_with (at_builtin;refine wpList_append_own_none rfl (.tmp 7) (.tmp 9) 37 rfl _ 9 i0 1 Tryz.underlying37 hi _ 0 _ rfl HO.out rfl ?_)
  (try simp only[Exit.inBlock,Exit.then])
  refine bodyPost_ret (results_cell_row rfl _ _ (w.heap.size+1) 44 #[.string (qd x.ep),.slice none 0 0,.int .u8 x.c,.string (qd x.n),.bool x.b,.string (qd x.m),.bool x.d,.string (qd x.k),.slice none 0 0] (0,0) _ rfl (qbln _ _ _ _) Tryz.underlying44 rfl qrp) rfl ?_;refine⟨_,rfl,?_,(((Below.refl _ w).alloc (qbst _) _).alloc (by simp) _).alloc (by simp;omega) _⟩
  rw[hl0,hv0];exact World.ownsRow_nil _ _ _ _
 | some ad=>
  by_cases h0:x.rel=[]
  ·have hl0:x.rel.length=0:=by rw[h0];rfl
   have hv0:valT x.rel=[]:=by rw[h0];rfl
   clear rr;rw[hl0]at a0 a1 g1 lP B1 HO ⊢;go_enter Tryz.func39,Tryz.ntmps39
   go_wp2_with (at_builtin;refine wpList_append_own _ rfl (.tmp 7) (.tmp 9) 37 rfl _ 9 i0 (.string .empty) 1 16 Tryz.underlying37 hi hz0 hz1 hz2 rfl (by decide) _ _ _ rfl HO.out ad 0 c1 [] rfl rfl (fun j u h=>by simp at h) (fun u h=>by cases h) (by unfold maxLen;omega) (by omega) (qbst _) ?_;intro v' w3 own1 grow1 _;have own3:w3.ownsRow _ 9 1 v' x.rel.length (valT x.rel):=(by rw[hl0,hv0];exact own1);have B3:=B1.trans (qcj HO.out (qbst _) grow1 |>.mono B1.size);have f0:=(grow1.block _ (by rw[lP];omega) (fun e=>by cases e)).trans a0;have f1:=(grow1.block _ (by rw[lP];omega) (fun e=>by cases e)).trans a1;have f2:=(grow1.block _ (by rw[lP];omega) (fun e=>by cases e)).trans g1;obtain⟨va,vn,vc,rfl⟩:=qqn own3;have y1:=qc 1 f2 rfl;obtain⟨R1,e1e,g1,k1,B4,o4,z1,n1⟩:=qcg (o:=1) (.slice va vn vc) f2 (by omega) B3 own3 (by rw[lP];omega);change R1.heap[w.heap.size+1+1]? = some (.cells #[.string (qd x.ep),.slice va vn vc,.int .u8 x.c,.string (qd x.n),.bool x.b,.string (qd x.m),.bool x.d,.string (qd x.k),.slice q1 x.loc.length d1] 44 (0,0))at g1;have y8:=qc 8 g1 rfl;obtain⟨R2,e2e,g2,k2,B5,o5,z8,n2⟩:=qcg (o:=8) (.slice none 0 0) g1 (by omega) B4 o4 (by rw[lP];omega);change R2.heap[w.heap.size+1+1]? = some (.cells #[.string (qd x.ep),.slice va vn vc,.int .u8 x.c,.string (qd x.n),.bool x.b,.string (qd x.m),.bool x.d,.string (qd x.k),.slice none 0 0] 44 (0,0))at g2;have lt1:=(Array.getElem?_eq_some_iff.1 f1).1;have h0:R2.heap[w.heap.size+1]? = _:=((k2 _ (by omega) (by rw[n1];exact lt1)).trans (k1 _ (by omega) lt1)).trans f1;have x0:=qc 0 g2 rfl;have x1:=qc 1 g2 rfl;have x2:=qc 2 g2 rfl;have x3:=qc 3 g2 rfl;have x4:=qc 4 g2 rfl;have x5:=qc 5 g2 rfl;have x6:=qc 6 g2 rfl;have x7:=qc 7 g2 rfl;have x8:=qc 8 g2 rfl;have t0:=qc 0 h0 rfl;obtain⟨Q1,q1q,h1,_,C1,u1,m1,_⟩:=qcg (o:=0) (.string (qd x.ep)) h0 (by omega) B5 o5 (by rw[lP];omega);change Q1.heap[w.heap.size+1]? = some (.cells #[.string (qd x.ep),.slice none 0 0,.int .u8 0,.string ⟨#[]⟩,.bool false,.string ⟨#[]⟩,.bool false,.string ⟨#[]⟩,.slice none 0 0] 44 (0,0))at h1;have t1:=qc 1 h1 rfl;obtain⟨Q2,q2q,h2,_,C2,u2,m2,_⟩:=qcg (o:=1) (.slice va vn vc) h1 (by omega) C1 u1 (by rw[lP];omega);change Q2.heap[w.heap.size+1]? = some (.cells #[.string (qd x.ep),.slice va vn vc,.int .u8 0,.string ⟨#[]⟩,.bool false,.string ⟨#[]⟩,.bool false,.string ⟨#[]⟩,.slice none 0 0] 44 (0,0))at h2;have t2:=qc 2 h2 rfl;obtain⟨Q3,q3q,h3,_,C3,u3,m3,_⟩:=qcg (o:=2) (.int .u8 x.c) h2 (by omega) C2 u2 (by rw[lP];omega);change Q3.heap[w.heap.size+1]? = some (.cells #[.string (qd x.ep),.slice va vn vc,.int .u8 x.c,.string ⟨#[]⟩,.bool false,.string ⟨#[]⟩,.bool false,.string ⟨#[]⟩,.slice none 0 0] 44 (0,0))at h3;have t3:=qc 3 h3 rfl;obtain⟨Q4,q4q,h4,_,C4,u4,m4,_⟩:=qcg (o:=3) (.string (qd x.n)) h3 (by omega) C3 u3 (by rw[lP];omega);change Q4.heap[w.heap.size+1]? = some (.cells #[.string (qd x.ep),.slice va vn vc,.int .u8 x.c,.string (qd x.n),.bool false,.string ⟨#[]⟩,.bool false,.string ⟨#[]⟩,.slice none 0 0] 44 (0,0))at h4;have t4:=qc 4 h4 rfl;obtain⟨Q5,q5q,h5,_,C5,u5,m5,_⟩:=qcg (o:=4) (.bool x.b) h4 (by omega) C4 u4 (by rw[lP];omega);change Q5.heap[w.heap.size+1]? = some (.cells #[.string (qd x.ep),.slice va vn vc,.int .u8 x.c,.string (qd x.n),.bool x.b,.string ⟨#[]⟩,.bool false,.string ⟨#[]⟩,.slice none 0 0] 44 (0,0))at h5;have t5:=qc 5 h5 rfl;obtain⟨Q6,q6q,h6,_,C6,u6,m6,_⟩:=qcg (o:=5) (.string (qd x.m)) h5 (by omega) C5 u5 (by rw[lP];omega);change Q6.heap[w.heap.size+1]? = some (.cells #[.string (qd x.ep),.slice va vn vc,.int .u8 x.c,.string (qd x.n),.bool x.b,.string (qd x.m),.bool false,.string ⟨#[]⟩,.slice none 0 0] 44 (0,0))at h6;have t6:=qc 6 h6 rfl;obtain⟨Q7,q7q,h7,_,C7,u7,m7,_⟩:=qcg (o:=6) (.bool x.d) h6 (by omega) C6 u6 (by rw[lP];omega);change Q7.heap[w.heap.size+1]? = some (.cells #[.string (qd x.ep),.slice va vn vc,.int .u8 x.c,.string (qd x.n),.bool x.b,.string (qd x.m),.bool x.d,.string ⟨#[]⟩,.slice none 0 0] 44 (0,0))at h7;have t7:=qc 7 h7 rfl;obtain⟨Q8,q8q,h8,_,C8,u8,m8,_⟩:=qcg (o:=7) (.string (qd x.k)) h7 (by omega) C7 u7 (by rw[lP];omega);change Q8.heap[w.heap.size+1]? = some (.cells #[.string (qd x.ep),.slice va vn vc,.int .u8 x.c,.string (qd x.n),.bool x.b,.string (qd x.m),.bool x.d,.string (qd x.k),.slice none 0 0] 44 (0,0))at h8;have t8:=qc 8 h8 rfl;obtain⟨Q9,q9q,h9,_,C9,u9,m9,_⟩:=qcg (o:=8) (.slice none 0 0) h8 (by omega) C8 u8 (by rw[lP];omega);change Q9.heap[w.heap.size+1]? = some (.cells #[.string (qd x.ep),.slice va vn vc,.int .u8 x.c,.string (qd x.n),.bool x.b,.string (qd x.m),.bool x.d,.string (qd x.k),.slice none 0 0] 44 (0,0))at h9;have H9:=qb h9;have O9:=qb (qfk (b:=w.heap.size) u9 (by rw[lP];omega));have C9:=qb C9;clear k1 k2 g1 g2 h0 h1 h2 h3 h4 h5 h6 h7 h8 h9 f0 f1 f2 own3 o4 o5 u1 u2 u3 u4 u5 u6 u7 u8 u9 B3 B4 B5 C1 C2 C3 C4 C5 C6 C7 C8)
   (try simp only[Exit.inBlock,Exit.then])
   refine bodyPost_ret (results_cell_row rfl _ _ (w.heap.size+1) 44 _ (0,0) _ rfl H9.out Tryz.underlying44 rfl qrp) rfl ?_;exact⟨_,rfl,O9.out,C9.out⟩
  ·obtain ⟨_,_,hv,hra⟩:=rr.below B1;obtain⟨b,off,hab,hlb,hc⟩:∃ b off,some ad=some ⟨b,off,none⟩∧b<(((w.alloc (.cells #[.string (qd x.ep),.slice (some ad) x.rel.length c1,.int .u8 x.c,.string (qd x.n),.bool x.b,.string (qd x.m),.bool x.d,.string (qd x.k),.slice q1 x.loc.length d1] 44)).alloc (.cells #[.string ⟨#[]⟩,.slice none 0 0,.int .u8 0,.string ⟨#[]⟩,.bool false,.string ⟨#[]⟩,.bool false,.string ⟨#[]⟩,.slice none 0 0] 44)).alloc (.cells #[.string (qd x.ep),.slice none 0 0,.int .u8 x.c,.string (qd x.n),.bool x.b,.string (qd x.m),.bool x.d,.string (qd x.k),.slice q1 x.loc.length d1] 44)).heap.size∧∀ i (h:i<x.rel.length),(((w.alloc (.cells #[.string (qd x.ep),.slice (some ad) x.rel.length c1,.int .u8 x.c,.string (qd x.n),.bool x.b,.string (qd x.m),.bool x.d,.string (qd x.k),.slice q1 x.loc.length d1] 44)).alloc (.cells #[.string ⟨#[]⟩,.slice none 0 0,.int .u8 0,.string ⟨#[]⟩,.bool false,.string ⟨#[]⟩,.bool false,.string ⟨#[]⟩,.slice none 0 0] 44)).alloc (.cells #[.string (qd x.ep),.slice none 0 0,.int .u8 x.c,.string (qd x.n),.bool x.b,.string (qd x.m),.bool x.d,.string (qd x.k),.slice q1 x.loc.length d1] 44)).cell? ⟨b,off+i,none⟩=some (.string (qd x.rel[i])):=by
    cases hv;rcases hra with h1|h1
    ·exact absurd h1 h0
    ·exact h1
   cases hab;have HC:=qb (qvl hc);clear hc;go_enter Tryz.func39,Tryz.ntmps39
   go_wp2_with (at_builtin;refine wpList_append_own _ rfl (.tmp 7) (.tmp 9) 37 rfl _ 9 i0 (.string .empty) 1 16 Tryz.underlying37 hi hz0 hz1 hz2 rfl (by decide) _ _ _ rfl HO.out ⟨b,off,none⟩ x.rel.length c1 (valT x.rel) rfl (qvg _) HC.out (qwk _) (by unfold maxLen;omega) (by omega) (qbst _) ?_;intro v' w3 own1 grow1 _;have own3:w3.ownsRow _ 9 1 v' x.rel.length (valT x.rel):=(by simpa only[Nat.zero_add,List.nil_append] using own1);have B3:=B1.trans (qcj HO.out (qbst _) grow1 |>.mono B1.size);have f0:=(grow1.block _ (by rw[lP];omega) (fun e=>by cases e)).trans a0;have f1:=(grow1.block _ (by rw[lP];omega) (fun e=>by cases e)).trans a1;have f2:=(grow1.block _ (by rw[lP];omega) (fun e=>by cases e)).trans g1;obtain⟨va,vn,vc,rfl⟩:=qqn own3;have y1:=qc 1 f2 rfl;obtain⟨R1,e1e,g1,k1,B4,o4,z1,n1⟩:=qcg (o:=1) (.slice va vn vc) f2 (by omega) B3 own3 (by rw[lP];omega);change R1.heap[w.heap.size+1+1]? = some (.cells #[.string (qd x.ep),.slice va vn vc,.int .u8 x.c,.string (qd x.n),.bool x.b,.string (qd x.m),.bool x.d,.string (qd x.k),.slice q1 x.loc.length d1] 44 (0,0))at g1;have y8:=qc 8 g1 rfl;obtain⟨R2,e2e,g2,k2,B5,o5,z8,n2⟩:=qcg (o:=8) (.slice none 0 0) g1 (by omega) B4 o4 (by rw[lP];omega);change R2.heap[w.heap.size+1+1]? = some (.cells #[.string (qd x.ep),.slice va vn vc,.int .u8 x.c,.string (qd x.n),.bool x.b,.string (qd x.m),.bool x.d,.string (qd x.k),.slice none 0 0] 44 (0,0))at g2;have lt1:=(Array.getElem?_eq_some_iff.1 f1).1;have h0:R2.heap[w.heap.size+1]? = _:=((k2 _ (by omega) (by rw[n1];exact lt1)).trans (k1 _ (by omega) lt1)).trans f1;have x0:=qc 0 g2 rfl;have x1:=qc 1 g2 rfl;have x2:=qc 2 g2 rfl;have x3:=qc 3 g2 rfl;have x4:=qc 4 g2 rfl;have x5:=qc 5 g2 rfl;have x6:=qc 6 g2 rfl;have x7:=qc 7 g2 rfl;have x8:=qc 8 g2 rfl;have t0:=qc 0 h0 rfl;obtain⟨Q1,q1q,h1,_,C1,u1,m1,_⟩:=qcg (o:=0) (.string (qd x.ep)) h0 (by omega) B5 o5 (by rw[lP];omega);change Q1.heap[w.heap.size+1]? = some (.cells #[.string (qd x.ep),.slice none 0 0,.int .u8 0,.string ⟨#[]⟩,.bool false,.string ⟨#[]⟩,.bool false,.string ⟨#[]⟩,.slice none 0 0] 44 (0,0))at h1;have t1:=qc 1 h1 rfl;obtain⟨Q2,q2q,h2,_,C2,u2,m2,_⟩:=qcg (o:=1) (.slice va vn vc) h1 (by omega) C1 u1 (by rw[lP];omega);change Q2.heap[w.heap.size+1]? = some (.cells #[.string (qd x.ep),.slice va vn vc,.int .u8 0,.string ⟨#[]⟩,.bool false,.string ⟨#[]⟩,.bool false,.string ⟨#[]⟩,.slice none 0 0] 44 (0,0))at h2;have t2:=qc 2 h2 rfl;obtain⟨Q3,q3q,h3,_,C3,u3,m3,_⟩:=qcg (o:=2) (.int .u8 x.c) h2 (by omega) C2 u2 (by rw[lP];omega);change Q3.heap[w.heap.size+1]? = some (.cells #[.string (qd x.ep),.slice va vn vc,.int .u8 x.c,.string ⟨#[]⟩,.bool false,.string ⟨#[]⟩,.bool false,.string ⟨#[]⟩,.slice none 0 0] 44 (0,0))at h3;have t3:=qc 3 h3 rfl;obtain⟨Q4,q4q,h4,_,C4,u4,m4,_⟩:=qcg (o:=3) (.string (qd x.n)) h3 (by omega) C3 u3 (by rw[lP];omega);change Q4.heap[w.heap.size+1]? = some (.cells #[.string (qd x.ep),.slice va vn vc,.int .u8 x.c,.string (qd x.n),.bool false,.string ⟨#[]⟩,.bool false,.string ⟨#[]⟩,.slice none 0 0] 44 (0,0))at h4;have t4:=qc 4 h4 rfl;obtain⟨Q5,q5q,h5,_,C5,u5,m5,_⟩:=qcg (o:=4) (.bool x.b) h4 (by omega) C4 u4 (by rw[lP];omega);change Q5.heap[w.heap.size+1]? = some (.cells #[.string (qd x.ep),.slice va vn vc,.int .u8 x.c,.string (qd x.n),.bool x.b,.string ⟨#[]⟩,.bool false,.string ⟨#[]⟩,.slice none 0 0] 44 (0,0))at h5;have t5:=qc 5 h5 rfl;obtain⟨Q6,q6q,h6,_,C6,u6,m6,_⟩:=qcg (o:=5) (.string (qd x.m)) h5 (by omega) C5 u5 (by rw[lP];omega);change Q6.heap[w.heap.size+1]? = some (.cells #[.string (qd x.ep),.slice va vn vc,.int .u8 x.c,.string (qd x.n),.bool x.b,.string (qd x.m),.bool false,.string ⟨#[]⟩,.slice none 0 0] 44 (0,0))at h6;have t6:=qc 6 h6 rfl;obtain⟨Q7,q7q,h7,_,C7,u7,m7,_⟩:=qcg (o:=6) (.bool x.d) h6 (by omega) C6 u6 (by rw[lP];omega);change Q7.heap[w.heap.size+1]? = some (.cells #[.string (qd x.ep),.slice va vn vc,.int .u8 x.c,.string (qd x.n),.bool x.b,.string (qd x.m),.bool x.d,.string ⟨#[]⟩,.slice none 0 0] 44 (0,0))at h7;have t7:=qc 7 h7 rfl;obtain⟨Q8,q8q,h8,_,C8,u8,m8,_⟩:=qcg (o:=7) (.string (qd x.k)) h7 (by omega) C7 u7 (by rw[lP];omega);change Q8.heap[w.heap.size+1]? = some (.cells #[.string (qd x.ep),.slice va vn vc,.int .u8 x.c,.string (qd x.n),.bool x.b,.string (qd x.m),.bool x.d,.string (qd x.k),.slice none 0 0] 44 (0,0))at h8;have t8:=qc 8 h8 rfl;obtain⟨Q9,q9q,h9,_,C9,u9,m9,_⟩:=qcg (o:=8) (.slice none 0 0) h8 (by omega) C8 u8 (by rw[lP];omega);change Q9.heap[w.heap.size+1]? = some (.cells #[.string (qd x.ep),.slice va vn vc,.int .u8 x.c,.string (qd x.n),.bool x.b,.string (qd x.m),.bool x.d,.string (qd x.k),.slice none 0 0] 44 (0,0))at h9;have H9:=qb h9;have O9:=qb (qfk (b:=w.heap.size) u9 (by rw[lP];omega));have C9:=qb C9;clear k1 k2 g1 g2 h0 h1 h2 h3 h4 h5 h6 h7 h8 h9 f0 f1 f2 own3 o4 o5 u1 u2 u3 u4 u5 u6 u7 u8 u9 B3 B4 B5 C1 C2 C3 C4 C5 C6 C7 C8)
   (try simp only[Exit.inBlock,Exit.then])
   refine bodyPost_ret (results_cell_row rfl _ _ (w.heap.size+1) 44 _ (0,0) _ rfl H9.out Tryz.underlying44 rfl qrp) rfl ?_;exact⟨_,rfl,O9.out,C9.out⟩
set_option maxHeartbeats 4000000
set_option maxRecDepth 100000
theorem requal_w (x y:PepL) (r1 r2 q1 q2:Option Addr) (c1 c2 d1 d2:Nat) (a b:QY) (st:Bool) (w:World) (ra:qz w (.slice r1 x.rel.length c1) x.rel) (rb:qz w (.slice r2 y.rel.length c2) y.rel) (la:qz w (.slice q1 x.loc.length d1) x.loc) (lb:qz w (.slice q2 y.loc.length d2) y.loc) (B:Bool) (O1 O2:Int)
 (BG:∀ W,qz W (.slice r1 x.rel.length c1) x.rel→qz W (.slice r2 y.rel.length c2) y.rel→Calls Tryz.prog 43 #[.agg #[.string (qd x.ep),.slice r1 x.rel.length c1,.int .u8 x.c,.string (qd x.n),.bool x.b,.string (qd x.m),.bool x.d,.string (qd x.k),.slice q1 x.loc.length d1],.string (qd y.ep),.slice r2 y.rel.length c2] W fun e W'=>e=.returned (.bool B)∧Below W.heap.size W W')
 (PU:∀ W,qz W (.slice r1 x.rel.length c1) x.rel→qz W (.slice q1 x.loc.length d1) x.loc→Calls Tryz.prog 39 #[.agg #[.string (qd x.ep),.slice r1 x.rel.length c1,.int .u8 x.c,.string (qd x.n),.bool x.b,.string (qd x.m),.bool x.d,.string (qd x.k),.slice q1 x.loc.length d1]] W (qbcw x W))
 (OP:∀ W a3 k3,qz W (.slice a3 x.rel.length k3) x.rel→qz W (.slice r2 y.rel.length c2) y.rel→qz W (.slice q2 y.loc.length d2) y.loc→Calls Tryz.prog 40 #[.agg #[.string (qd x.ep),.slice a3 x.rel.length k3,.int .u8 x.c,.string (qd x.n),.bool x.b,.string (qd x.m),.bool x.d,.string (qd x.k),.slice none 0 0],.agg #[.string (qd y.ep),.slice r2 y.rel.length c2,.int .u8 y.c,.string (qd y.n),.bool y.b,.string (qd y.m),.bool y.d,.string (qd y.k),.slice q2 y.loc.length d2]] W fun e W'=>e=.returned (.int .i64 O1)∧Below W.heap.size W W')
 (OD:∀ W,qz W (.slice r1 x.rel.length c1) x.rel→qz W (.slice r2 y.rel.length c2) y.rel→qz W (.slice q1 x.loc.length d1) x.loc→qz W (.slice q2 y.loc.length d2) y.loc→Calls Tryz.prog 40 #[.agg #[.string (qd x.ep),.slice r1 x.rel.length c1,.int .u8 x.c,.string (qd x.n),.bool x.b,.string (qd x.m),.bool x.d,.string (qd x.k),.slice q1 x.loc.length d1],.agg #[.string (qd y.ep),.slice r2 y.rel.length c2,.int .u8 y.c,.string (qd y.n),.bool y.b,.string (qd y.m),.bool y.d,.string (qd y.k),.slice q2 y.loc.length d2]] W fun e W'=>e=.returned (.int .i64 O2)∧Below W.heap.size W W') :
 Calls Tryz.prog 42 #[.agg #[.string a,.string b,.bool st],.agg #[.string (qd x.ep),.slice r1 x.rel.length c1,.int .u8 x.c,.string (qd x.n),.bool x.b,.string (qd x.m),.bool x.d,.string (qd x.k),.slice q1 x.loc.length d1],.agg #[.string (qd y.ep),.slice r2 y.rel.length c2,.int .u8 y.c,.string (qd y.n),.bool y.b,.string (qd y.m),.bool y.d,.string (qd y.k),.slice q2 y.loc.length d2]] w fun e W'=>e=.returned (.bool (if st=true then B else if pubB y=true then O1==0 else O2==0))∧Below w.heap.size w W':=by
  have b0:Below w.heap.size w (w.alloc (.cells #[.string a,.string b,.bool st] 32)):=(Below.refl _ w).alloc (Nat.le_refl _) _;have b1:Below w.heap.size w (w.alloc (.cells #[.string a,.string b,.bool st] 32)):=b0;have S0:=OB.start (ra.below b0) (rb.below b0) (la.below b0) (lb.below b0);have m0:=(S0.bel.block w.heap.size (by simp)).trans (World.alloc_heap_new w (.cells #[.string a,.string b,.bool st] 32))
  have p2:=qc 2 m0 rfl;have BG:=qb BG;have PU:=qb PU;have OP:=qb OP;have OD:=qb OD;clear ra rb la lb m0 b1;go_enter Tryz.func42,Tryz.ntmps42
  go_upto_region 1 with fail
  generalize ((w.alloc _).alloc _).alloc _=W0 at *;obtain⟨s0,s1,s2,s3,s4,s5,s6,s7,s8,s9,s10,s11,s12,s13,s14,s15,s16,s17⟩:=S0.seen;simp only[World.size_alloc]at s0 s1 s2 s3 s4 s5 s6 s7 s8 s9 s10 s11 s12 s13 s14 s15 s16 s17;have HB:=qb (b0.trans (S0.bel.mono b0.size));cases st
  · have hlp:((y.loc.length:Int)>0)↔pubB y=false:=by unfold pubB;cases y.loc<;>simp<;>omega
    cases hp:pubB y
    · have hl:(0:Int)<(y.loc.length:Int):=hlp.2 hp
      (go_wp2_with fail);refine(OD.out _ S0.ra S0.rb S0.la S0.lb).mono ?_;rintro e w7 ⟨rfl,b7⟩;have HB7:=qb (HB.out.trans (b7.mono HB.out.size));clear b7;(go_wp2_with fail);go_ret
      exact⟨by first|rfl|simp,HB7.out⟩
    · have hl:¬ (0:Int)<(y.loc.length:Int):=fun h=>by rw[hlp.1 h]at hp;cases hp
      go_upto_region 5 with fail
      have D0:=S0.drew
      go_region_held3 (fun w'=>w'.cell? ⟨w.heap.size+1,0,none⟩=some (.string (qd x.ep))∧w'.cell? ⟨w.heap.size+1,1,none⟩=some (.slice r1 x.rel.length c1)∧w'.cell? ⟨w.heap.size+1,2,none⟩=some (.int .u8 x.c)∧w'.cell? ⟨w.heap.size+1,3,none⟩=some (.string (qd x.n))∧w'.cell? ⟨w.heap.size+1,4,none⟩=some (.bool x.b)∧w'.cell? ⟨w.heap.size+1,5,none⟩=some (.string (qd x.m))∧w'.cell? ⟨w.heap.size+1,6,none⟩=some (.bool x.d)∧w'.cell? ⟨w.heap.size+1,7,none⟩=some (.string (qd x.k))∧w'.cell? ⟨w.heap.size+1,8,none⟩=some (.slice q1 x.loc.length d1)∧w'.cell? ⟨w.heap.size+1+1,0,none⟩=some (.string (qd y.ep))∧w'.cell? ⟨w.heap.size+1+1,1,none⟩=some (.slice r2 y.rel.length c2)∧w'.cell? ⟨w.heap.size+1+1,2,none⟩=some (.int .u8 y.c)∧w'.cell? ⟨w.heap.size+1+1,3,none⟩=some (.string (qd y.n))∧w'.cell? ⟨w.heap.size+1+1,4,none⟩=some (.bool y.b)∧w'.cell? ⟨w.heap.size+1+1,5,none⟩=some (.string (qd y.m))∧w'.cell? ⟨w.heap.size+1+1,6,none⟩=some (.bool y.d)∧w'.cell? ⟨w.heap.size+1+1,7,none⟩=some (.string (qd y.k))∧w'.cell? ⟨w.heap.size+1+1,8,none⟩=some (.slice q2 y.loc.length d2))
        (go_keep)
        ((first
          | (go_at_call 40;refine(OP.out _ _ _ hT3 D1.rb D1.lb).mono ?_;rintro e w8 ⟨rfl,b8⟩;have D2:=D1.next b8;have HB8:=qb (HB7.out.trans (b8.mono HB7.out.size));obtain⟨v0,v1,v2,v3,v4,v5,v6,v7,v8,v9,v10,v11,v12,v13,v14,v15,v16,v17⟩:=D2.seen;simp only[World.size_alloc]at v0 v1 v2 v3 v4 v5 v6 v7 v8 v9 v10 v11 v12 v13 v14 v15 v16 v17)
          | (go_at_call 39;refine(PU.out _ D0.ra D0.la).mono ?_;rintro e w7 ⟨v3,rfl,ho,b7⟩;obtain⟨a3,k3,rfl,_⟩:=qpx ho;have hT3:=qmv ho;have D1:=D0.next b7;have HB7:=qb ((HB.out.trans ((qx _ W0 1).mono HB.out.size)).trans (b7.mono (Below.size (HB.out.trans ((qx _ W0 1).mono HB.out.size)))));obtain⟨t0,t1,t2,t3,t4,t5,t6,t7,t8,t9,t10,t11,t12,t13,t14,t15,t16,t17⟩:=D1.seen;simp only[World.size_alloc]at t0 t1 t2 t3 t4 t5 t6 t7 t8 t9 t10 t11 t12 t13 t14 t15 t16 t17)
          | fail))
      (go_wp2_with fail);go_ret
      exact⟨by first|rfl|simp,HB8.out⟩
  · go_wp2_with fail
    refine(BG.out _ S0.ra S0.rb).mono ?_;rintro e w7 ⟨rfl,b7⟩;have HB7:=qb (HB.out.trans (b7.mono HB.out.size));clear b7;(go_wp2_with fail);go_ret
    exact⟨by first|rfl|simp,HB7.out⟩
theorem SmallP.midP {x:PepL} (h:SmallP x):MidP x:=by
 constructor<;>first|exact h.e|exact h.n|exact h.m|exact h.k|exact h.r|exact h.l
theorem qjp (x y:PepL) (r1 r2 q1 q2:Option Addr) (c1 c2 d1 d2:Nat) (w:World) (ra:qz w (.slice r1 x.rel.length c1) x.rel) (rb:qz w (.slice r2 y.rel.length c2) y.rel) (la:qz w (.slice q1 x.loc.length d1) x.loc) (lb:qz w (.slice q2 y.loc.length d2) y.loc) (sx:SmallP x) (sy:SmallP y) (fx:FitT x) (fy:FitT y) :
  Calls Tryz.prog 40 #[.agg #[.string (qd x.ep),.slice r1 x.rel.length c1,.int .u8 x.c,.string (qd x.n),.bool x.b,.string (qd x.m),.bool x.d,.string (qd x.k),.slice q1 x.loc.length d1],.agg #[.string (qd y.ep),.slice r2 y.rel.length c2,.int .u8 y.c,.string (qd y.n),.bool y.b,.string (qd y.m),.bool y.d,.string (qd y.k),.slice q2 y.loc.length d2]] w fun e w'=>e=.returned (.int .i64 (ordP x y))∧Below w.heap.size w w':=by
 have h:=qblt x y r1 r2 q1 q2 c1 c2 d1 d2 w ra rb la lb sx.midP sy.midP (fit_to fx) (fit_to fy);rw[ord_same x y fx fy]at h;exact h
theorem qss (x y:PepL) (a3 r2 q2:Option Addr) (k3 c2 d2:Nat) (w:World) (ra:qz w (.slice a3 x.rel.length k3) x.rel) (rb:qz w (.slice r2 y.rel.length c2) y.rel) (lb:qz w (.slice q2 y.loc.length d2) y.loc) (hx:VerOK x) (hy:VerOK y) :
  Calls Tryz.prog 40 #[.agg #[.string (qd x.ep),.slice a3 x.rel.length k3,.int .u8 x.c,.string (qd x.n),.bool x.b,.string (qd x.m),.bool x.d,.string (qd x.k),.slice none 0 0],.agg #[.string (qd y.ep),.slice r2 y.rel.length c2,.int .u8 y.c,.string (qd y.n),.bool y.b,.string (qd y.m),.bool y.d,.string (qd y.k),.slice q2 y.loc.length d2]] w fun e w'=>e=.returned (.int .i64 (ordP (hpub x) y))∧Below w.heap.size w w':=
 qjp (hpub x) y a3 r2 none q2 k3 c2 0 d2 w ra rb (qsr w) lb hx.pub.1 hy.small hx.pub.2 hy.fit
theorem qwl (x y:PepL) (r1 r2 q1 q2:Option Addr) (c1 c2 d1 d2:Nat) (a b:QY) (st:Bool) (w:World) (ra:qz w (.slice r1 x.rel.length c1) x.rel) (rb:qz w (.slice r2 y.rel.length c2) y.rel) (la:qz w (.slice q1 x.loc.length d1) x.loc) (lb:qz w (.slice q2 y.loc.length d2) y.loc) (hx:VerOK x) (hy:VerOK y) (hn:r1=none→c1=0) :
  Calls Tryz.prog 42 #[.agg #[.string a,.string b,.bool st],.agg #[.string (qd x.ep),.slice r1 x.rel.length c1,.int .u8 x.c,.string (qd x.n),.bool x.b,.string (qd x.m),.bool x.d,.string (qd x.k),.slice q1 x.loc.length d1],.agg #[.string (qd y.ep),.slice r2 y.rel.length c2,.int .u8 y.c,.string (qd y.n),.bool y.b,.string (qd y.m),.bool y.d,.string (qd y.k),.slice q2 y.loc.length d2]] w fun e W'=>e=.returned (.bool (eqP x y st))∧Below w.heap.size w W':=
 requal_w x y r1 r2 q1 q2 c1 c2 d1 d2 a b st w ra rb la lb (begB x.ep x.rel y.ep y.rel) (ordP (hpub x) y) (ordP x y)
  (fun W h1 h2=>qsh x y.ep y.rel r1 r2 c1 c2 _ _ _ _ _ _ _ W h1 h2 hx hy.fit.f1 (fun t ht=>List.all_eq_true.1 hy.fit.f3 t ht) hy.small.e hy.small.r.2 (by have:=hy.len;omega))
  (fun W h1 h2=>qrx x r1 q1 c1 d1 W h1 h2 (by have:=hx.len;omega) hn)
  (fun W a3 k3 h1 h2 h3=>qss x y a3 r2 q2 k3 c2 d2 W h1 h2 h3 hx hy)
  (fun W h1 h2 h3 h4=>qjp x y r1 r2 q1 q2 c1 c2 d1 d2 W h1 h2 h3 h4 hx.small hy.small hx.fit hy.fit)
structure V9 (W:World) (B:Nat) (x:PepL) (r q:Option Addr) (c d:Nat):Prop where
 blk:W.heap[B]? = some (.cells #[.string (qd x.ep),.slice r x.rel.length c,.int .u8 x.c,.string (qd x.n),.bool x.b,.string (qd x.m),.bool x.d,.string (qd x.k),.slice q x.loc.length d] 44 (0,0))
 rel:qz W (.slice r x.rel.length c) x.rel
 loc:qz W (.slice q x.loc.length d) x.loc
theorem V9.next {W W':World} {B:Nat} {x:PepL} {r q:Option Addr} {c d:Nat} (h:V9 W B x r q c d) (hb:Below W.heap.size W W'):V9 W' B x r q c d:=
 ⟨(hb.block _ (Array.getElem?_eq_some_iff.1 h.blk).1).trans h.blk,h.rel.below hb,h.loc.below hb⟩
theorem V9.seen {W:World} {B:Nat} {x:PepL} {r q:Option Addr} {c d:Nat} (h:V9 W B x r q c d):W.cell? ⟨B,0,none⟩=some (.string (qd x.ep))∧W.cell? ⟨B,1,none⟩=some (.slice r x.rel.length c)∧W.cell? ⟨B,2,none⟩=some (.int .u8 x.c)∧W.cell? ⟨B,3,none⟩=some (.string (qd x.n))∧W.cell? ⟨B,4,none⟩=some (.bool x.b)∧W.cell? ⟨B,5,none⟩=some (.string (qd x.m))∧W.cell? ⟨B,6,none⟩=some (.bool x.d)∧W.cell? ⟨B,7,none⟩=some (.string (qd x.k))∧W.cell? ⟨B,8,none⟩=some (.slice q x.loc.length d):=
 ⟨qc 0 h.blk rfl,qc 1 h.blk rfl,qc 2 h.blk rfl,qc 3 h.blk rfl,qc 4 h.blk rfl,qc 5 h.blk rfl,qc 6 h.blk rfl,qc 7 h.blk rfl,qc 8 h.blk rfl⟩
theorem qbgq {W:World} {B:Nat} {x:PepL} {r:Option Addr} {c:Nat} (h:V9 W B (hpub x) r none c 0):W.cell? ⟨B,0,none⟩=some (.string (qd x.ep))∧W.cell? ⟨B,1,none⟩=some (.slice r x.rel.length c)∧W.cell? ⟨B,2,none⟩=some (.int .u8 x.c)∧W.cell? ⟨B,3,none⟩=some (.string (qd x.n))∧W.cell? ⟨B,4,none⟩=some (.bool x.b)∧W.cell? ⟨B,5,none⟩=some (.string (qd x.m))∧W.cell? ⟨B,6,none⟩=some (.bool x.d)∧W.cell? ⟨B,7,none⟩=some (.string (qd x.k))∧W.cell? ⟨B,8,none⟩=some (.slice none 0 0):=h.seen
def qxh (x:PepL) (w:World) (e:Ending) (w':World):Prop:=
 ∃ r c q d,e=.returned (.tuple #[.agg #[.string (qd x.ep),.slice r x.rel.length c,.int .u8 x.c,.string (qd x.n),.bool x.b,.string (qd x.m),.bool x.d,.string (qd x.k),.slice q x.loc.length d],.agg #[.int .i64 0,.int .i64 0]]) ∧
  qz w' (.slice r x.rel.length c) x.rel∧qz w' (.slice q x.loc.length d) x.loc∧(r=none→c=0)∧x.rel.length≤c∧Below w.heap.size w w'
theorem qbfc (s:QY) (w:World) (h:okP s.data.toList=true) :
  Calls Tryz.prog 25 #[.string s] w fun e w'=>∃ vr vl,e=.returned (.tuple #[pepV (qd (qm (qk s.data.toList)).ep) vr (qm (qk s.data.toList)).c (qd (qm (qk s.data.toList)).n) (qm (qk s.data.toList)).b (qd (qm (qk s.data.toList)).m) (qm (qk s.data.toList)).d (qd (qm (qk s.data.toList)).k) vl,.agg #[.int .i64 0,.int .i64 0]]) ∧
   qz w' vr (qm (qk s.data.toList)).rel∧qz w' vl (qm (qk s.data.toList)).loc∧qbr w.heap.size vr∧Below w.heap.size w w':=by
 unfold okP at h;simp only[Bool.and_eq_true,decide_eq_true_eq]at h;refine(qnx s w).mono ?_;rintro e w' ⟨hb,hp⟩;rw[if_neg (by omega),if_pos h.2]at hp
 obtain⟨v,rfl,⟨vr,vl,rfl,h1,h2⟩⟩:=hp;exact⟨vr,vl,rfl,qhq h1,qhq h2,qnt h1,hb⟩
theorem qgl (s:QY) (w:World) (h:okP s.data.toList=true):Calls Tryz.prog 25 #[.string s] w (qxh (qm (qk s.data.toList)) w):=by
 refine(qbfc s w h).mono ?_;rintro e w' ⟨vr,vl,rfl,hr,hl,hf,hb⟩;obtain⟨r,c,rfl,h0⟩:=id hr;obtain⟨q,d,rfl,_⟩:=id hl;have hx:=(qnz h).fit.f2;obtain⟨b,off,rfl,_⟩:=hr.some (List.length_pos_iff.2 hx);exact⟨_,c,q,d,rfl,hr,hl,fun hn=>(by cases hn),(hf _ _ _ rfl).2,hb⟩
theorem qbbp {W:World} {b o c n:Nat} {ts:List QB} (h:qz W (.slice (some ⟨b,o,none⟩) ts.length c) ts) (hn:ts.length=n+1):qz W (.slice (some ⟨b,o,none⟩) n c) ts.dropLast:=by
 have hdl:ts.dropLast.length=n:=by rw[List.length_dropLast];omega
 obtain⟨a,cap,e,h0|⟨b',off,e2,hlt,hc⟩⟩:=h
 ·rw[h0]at hn;cases hn
 ·cases e;cases e2;refine⟨_,c,by rw[hdl],.inr ⟨b,o,rfl,hlt,fun i hi=>?_⟩⟩
  rw[List.getElem_dropLast];exact hc i (by omega)
theorem qbkc (x y:PepL) (r1 r2:Option Addr) (c1 c2:Nat) (W:World) (ra:qz W (.slice r1 x.rel.length c1) x.rel) (rb:qz W (.slice r2 y.rel.length c2) y.rel) (hx:VerOK x) (hy:VerOK y) :
  Calls Tryz.prog 40 #[.agg #[.string (qd x.ep),.slice r1 x.rel.length c1,.int .u8 0,.string ⟨#[]⟩,.bool false,.string ⟨#[]⟩,.bool false,.string ⟨#[]⟩,.slice none 0 0],.agg #[.string (qd y.ep),.slice r2 y.rel.length c2,.int .u8 0,.string ⟨#[]⟩,.bool false,.string ⟨#[]⟩,.bool false,.string ⟨#[]⟩,.slice none 0 0]] W fun e w'=>e=.returned (.int .i64 (ordP (qfw x) (qfw y)))∧Below W.heap.size W w':=
 qjp (qfw x) (qfw y) r1 r2 none none c1 c2 0 0 W ra rb (qsr W) (qsr W) hx.base.1 hy.base.1 hx.base.2 hy.base.2
theorem qzl (x:PepL) (r1 q1:Option Addr) (c1 d1:Nat) (w:World) (rr:qz w (.slice r1 x.rel.length c1) x.rel) (ll:qz w (.slice q1 x.loc.length d1) x.loc) :
  Calls Tryz.prog 27 #[.agg #[.string (qd x.ep),.slice r1 x.rel.length c1,.int .u8 x.c,.string (qd x.n),.bool x.b,.string (qd x.m),.bool x.d,.string (qd x.k),.slice q1 x.loc.length d1]] w fun e w'=>e=.returned (.bool (preP x))∧Below w.heap.size w w':=
 RPre_any x r1 q1 c1 d1 w rr ll
open World renaming alloc_heap_new → qbsr
set_option maxHeartbeats 8000000
set_option maxRecDepth 100000
def qgj (q:Tri):Bool:=
 match (pyL (wrT q)).2.2 with
 | [c]=>decide (triC c=q)&&qpf c
 | _=>false
def qlm (qs:List Tri):Bool:=qs.any qgj
theorem qbfv {q:Tri} (h:fitT q=false):qgj q=false:=by
 unfold qgj;unfold fitT at h;split
 ·rename_i c hc;rw[hc]at h;have:decide (triC c=q)=false:=by
   simp only[List.map_cons,List.map_nil,decide_eq_false_iff_not]at h ⊢;intro h2;exact h (by rw[h2])
  rw[this]
  rfl
 ·rfl
theorem qbhg {q:Tri} {c:Cl} (h1:(pyL (wrT q)).2.2=[c]) (h2:triC c=q):qgj q=qpf c:=by
 unfold qgj;rw[h1];dsimp only;rw[h2];simp
theorem qbmr {q:Tri} (h:fitT q=true):∃ c,(pyL (wrT q)).2.2=[c]∧triC c=q:=by
 unfold fitT at h;have h2:=of_decide_eq_true h;cases hl:(pyL (wrT q)).2.2 with
 | nil=>rw[hl]at h2;cases h2
 | cons c r=>
  rw[hl]at h2;cases r with
  | nil=>exact⟨c,rfl,by simpa using h2⟩
  | cons d r=>simp at h2
theorem qqp {P:Program} {ops:Array Oper} {rest:List Oper} {op:Oper} {a:Act} {w:World} {Q:Exit→Act→World→Prop} (hgd:Region.wanted op (yielded ops a.tmps)=true) (ty:TypeId) (x:Operand) (ho:op.op=.load ty x)
  (b o:Nat) (hx:a.eval x=.pointer (some ⟨b,o,none⟩)) (cs:List Value) (d:TypeDesc) (hc:w.rangeAt b o cs)
  (hu:P.underlying ty=some d) (hd:d.isRow=true) (hi:(P.info? ty).map (·.size)=some cs.length)
  (h:wpList P ops Q rest (a.put op.dst (.agg cs.toArray)) w):wpList P ops Q (op::rest) a w:=
 wpList_step fun K hK=>by rw[if_pos hgd];exact wp_load_mid ty x ho b o hx cs d hc hu hd hi (hK _ _ h)
theorem qbpv (q:Tri) (w:World) (h0:q.1.length≤10000000) (h1:q.2.1.length≤10000000) :
  Calls Tryz.prog 45 #[triV q] w fun e w'=>e=.returned (.bool (qgj q))∧Below w.heap.size w w':=by
 have n0:=qbsr w (.cells #[.string (qd q.1),.string (qd q.2.1),.bool q.2.2] 32);have hb0:Below w.heap.size w (w.alloc (.cells #[.string (qd q.1),.string (qd q.2.1),.bool q.2.2] 32)):=(Below.refl _ w).alloc (qbst _) _;have MP:=qb (fun W=>qlp q W h0 h1);unfold qmj triV at MP;unfold triV;go_enter Tryz.func45,Tryz.ntmps45
 go_upto_region 1 with fail
 generalize w.alloc _=W0 at *;have pa:=qc 0 n0 rfl;have pb:=qc 1 n0 rfl;have pc:=qc 2 n0 rfl;refine wp_region_lit ?_;go_step
 go_step
 go_step
 (go_wp2_with fail);refine(MP.out _).mono ?_;rintro e w1 ⟨b1,⟨hf,rfl⟩|⟨it,hc,hq,⟨A,hT⟩,rfl⟩⟩
 ·have hone0:Z61.all (·.oneCell')=true:=by kernel_rfl
  dsimp only;go_step
  go_step
  go_step
  go_step
  go_step
  go_step
  go_step
  go_step
  go_step
  go_step
  refine qdh rfl rfl ?_;have hZ:=qbsr w1 (.cells Z61 61);refine wpList_store_mid rfl 61 (.tmp 3) (.tmp 8) rfl w1.heap.size 0 #[.string ⟨#[]⟩,.nilFunc,.nilFunc,.bool false,.string ⟨#[]⟩,.slice none 0 0,.int .u8 0,.string ⟨#[]⟩,.bool false,.string ⟨#[]⟩,.bool false,.string ⟨#[]⟩,.slice none 0 0,.string ⟨#[]⟩,.bool false,.int .i64 0,.int .i64 0,.int .i64 0] rfl rfl (qcf hZ (qbst 18)) qcs hone0 ?_;obtain⟨n3,hT⟩:=qgf (c:=#[.string ⟨#[]⟩,.nilFunc,.nilFunc,.bool false,.string ⟨#[]⟩,.slice none 0 0,.int .u8 0,.string ⟨#[]⟩,.bool false,.string ⟨#[]⟩,.bool false,.string ⟨#[]⟩,.slice none 0 0,.string ⟨#[]⟩,.bool false,.int .i64 0,.int .i64 0,.int .i64 0]) hZ rfl;have hal:=((Below.refl w1.heap.size w1).alloc (qbst _) (.cells Z61 61)).trans (hT.below (qbst _) (Nat.le_of_lt (Array.getElem?_eq_some_iff.1 hZ).1));generalize (w1.alloc (.cells Z61 61)).setCells _ _ _=W3 at *;have bb:=b1.trans (hal.mono b1.size);have HB3:=qb (hb0.trans (bb.mono hb0.size));clear hZ hT;(go_wp2_with fail);go_ret
  exact⟨by rw[qbfv hf];rfl,HB3.out⟩
 ·obtain⟨⟨k,y,u,su,s0,e0,er0⟩,x2,x3⟩:=it;have HL:=qb (qbhg hc hq);have LA:=qb (fun W h=>qqj (A:=A) (⟨k,y,u,su,s0,e0,er0⟩,x2,x3) W h);have HTT:=qb hT;obtain⟨rb,lb,cb,_⟩:=hT;dsimp only at rb lb cb hc hq;obtain⟨r2,c2,rfl,_⟩:=id rb;obtain⟨q2,d2,rfl,_⟩:=id lb;have HONE:Hid ((clV ⟨k,y,u,su,s0,e0,er0⟩ (.slice r2 y.rel.length c2) (.slice q2 y.loc.length d2)).all (·.oneCell')=true):=qb (by have:=all_oneCell_toArray (qjd (c:=⟨k,y,u,su,s0,e0,er0⟩) rb lb);simpa using this)
  dsimp only;go_step
  go_step
  go_step
  go_step
  go_step
  go_step
  go_step
  go_step
  go_step
  go_step
  refine qdh rfl rfl ?_;have hZ:=qbsr w1 (.cells Z61 61);refine wpList_store_mid rfl 61 (.tmp 3) (.tmp 8) rfl w1.heap.size 0 #[.string (qd (sgn k)),fnV (rdF k),fnV (hoF k),.bool (opB k),.string (qd y.ep),.slice r2 y.rel.length c2,.int .u8 y.c,.string (qd y.n),.bool y.b,.string (qd y.m),.bool y.d,.string (qd y.k),.slice q2 y.loc.length d2,.string (qd u),.bool su,.int .i64 (s0:Int),.int .i64 (e0:Int),.int .i64 er0] rfl rfl (qcf hZ (qbst 18)) qcs HONE.out ?_;obtain⟨n3,hT⟩:=qgf (c:=#[.string (qd (sgn k)),fnV (rdF k),fnV (hoF k),.bool (opB k),.string (qd y.ep),.slice r2 y.rel.length c2,.int .u8 y.c,.string (qd y.n),.bool y.b,.string (qd y.m),.bool y.d,.string (qd y.k),.slice q2 y.loc.length d2,.string (qd u),.bool su,.int .i64 (s0:Int),.int .i64 (e0:Int),.int .i64 er0]) hZ rfl;have hal:=((Below.refl w1.heap.size w1).alloc (qbst _) (.cells Z61 61)).trans (hT.below (qbst _) (Nat.le_of_lt (Array.getElem?_eq_some_iff.1 hZ).1));generalize (w1.alloc (.cells Z61 61)).setCells _ _ _=W3 at *;have bb:=b1.trans (hal.mono b1.size);have HB3:=qb (hb0.trans (bb.mono hb0.size));clear hZ hT;have hTk:=qb (HTT.out.keep (A':=fun _=>True) (qbn hal) (fun _ _ _=>trivial));go_upto_region 2 with fail
  refine wp_region_lit ?_;go_step
  go_step
  go_step
  go_step
  go_step
  go_step
  refine qqp (by rfl) 61 (.tmp 3) rfl w1.heap.size 0 rfl _ _ (qgv n3) Tryz.underlying61 rfl qcs ?_
  have LC:=qb (qqj (⟨k,y,u,su,s0,e0,er0⟩,.slice r2 y.rel.length c2,.slice q2 y.loc.length d2) _ hTk.out);unfold clV at LC;dsimp only at LC;clear n3 hal bb LA;(go_wp2_with fail);refine(LC.out).mono ?_;rintro e w7 ⟨rfl,b7⟩;(go_wp2_with fail);go_ret
  exact⟨by rw[HL.out];rfl,HB3.out.trans (b7.mono HB3.out.size)⟩
theorem qzx (v:Value) (qs:List Tri) (w:World) (hv:qgn w v qs) (hs:qgm qs) :
  Calls Tryz.prog 76 #[v,.func (.func 45) #[] #[]] w fun e w'=>∃ z:Int,e=.returned (.int .i64 z)∧decide (0≤z)=qlm qs∧Below w.heap.size w w':=by
 obtain⟨a,c,rfl,_⟩:=id hv;have HV:=qb hv;have HS:=qb hs;have hn:=hs.1;clear hv hs;go_enter Tryz.func76,Tryz.ntmps76
 (go_wp2_with fail);go_loopw [8] (fun x wr=>∃ i:Nat,i≤qs.length∧x=.int .i64 (i:Int)∧Hid ((qs.take i).any qgj=false)∧Below w.heap.size w wr) (fun x _=>qs.length-(intOf x).toNat)
 case atStart=>exact⟨0,Nat.zero_le _,rfl,rfl,Below.refl _ _⟩
 case round=>
  obtain⟨i,hi,rfl,HN,hb⟩:=hrel
  by_cases hin:i<qs.length
  ·have hin':(i:Int)<(qs.length:Int):=by omega
   obtain⟨_,_,he,hA⟩:=(HV.out.below hb);obtain⟨g1,o1,ha,hg,p0,p1,p2⟩:=hA i hin;cases he;subst ha;have hsm:=HS.out.2 qs[i] (List.getElem_mem hin);have HC:=qb (fun W=>qbpv qs[i] W hsm.1 hsm.2);have HT:=qb (qqb qgj qs i hin);have HF:=qb (qkb qgj qs i hin);unfold triV at HC;clear hA hsm;generalize qs[i]=q at *;cases hP:qgj q
   ·rw[hP]at HC HT;clear hP;(go_wp2_with fail);refine(HC.out _).mono ?_;rintro e w2 ⟨rfl,b2⟩;have HB:=qb (hb.trans (b2.mono hb.size));clear b2;(go_wp2_with fail);go_roundw
    case rel=>exact⟨i+1,by omega,by go_num,by show _=_;rw[HT.out,HN.out];rfl,HB.out⟩
    case measure=>simp[intOf];omega
   ·rw[hP]at HC;have HF2:=qb (HF.out hP);clear hP HF;(go_wp2_with fail);refine(HC.out _).mono ?_;rintro e w2 ⟨rfl,b2⟩;have HB:=qb (hb.trans (b2.mono hb.size));clear b2;(go_wp2_with fail);go_ret
    exact⟨_,rfl,by unfold qlm;rw[HF2.out];simp,HB.out⟩
  ·have hin':¬ (i:Int)<(qs.length:Int):=by omega
   obtain rfl:i=qs.length:=by omega
   have HE:=HN.out;rw[List.take_length]at HE;replace HE:=qb HE;(go_wp2_with fail);go_ret
   exact⟨_,rfl,by unfold qlm;rw[HE.out];rfl,hb⟩
theorem qsk (v:Value) (qs:List Tri) (w:World) (hv:qgn w v qs) (hs:qgm qs) :
  Calls Tryz.prog 44 #[v,.func (.func 45) #[] #[]] w fun e w'=>e=.returned (.bool (qlm qs))∧Below w.heap.size w w':=by
 have I:=qb (qzx v qs w hv hs);obtain⟨a,c,rfl,_⟩:=id hv;clear hv hs;go_enter Tryz.func44,Tryz.ntmps44
 (go_wp2_with fail);refine(I.out).mono ?_;rintro e w2 ⟨z,rfl,hz,b2⟩;have HZ:=qb hz;clear hz;(go_wp2_with fail);go_ret
 exact⟨by rw[←HZ.out];rfl,b2⟩
theorem qbqv (v:Value) (qs:List Tri) (w:World) (hv:qgn w v qs) (hs:qgm qs) :
  Calls Tryz.prog 18 #[v] w fun e w'=>e=.returned (.bool (qlm qs))∧Below w.heap.size w w':=by
 have I:=qb (qsk v qs w hv hs);obtain⟨a,c,rfl,_⟩:=id hv;clear hv hs;go_enter Tryz.func18,Tryz.ntmps18
 (go_wp2_with fail);refine(I.out).mono ?_;rintro e w2 ⟨rfl,b2⟩;(go_wp2_with fail);go_ret
 exact⟨rfl,b2⟩
end Go.Proofs.YtabmfdedbpmfmaaGreat
