/- Walks: PyspecWrites; clauses that came in, opened. -/
import Derived.Deep.Cut
import Derived.Test.YtabmfdedbpmfmaaGreatUKe
import Derived.Test.YtabmfdedbpmfmaaGreatUKd
import Derived.SliceStrings
import Derived.Deep.Slices
import Derived.Deep.Fields
import Derived.Test.YtabmfdedbpmfmaaGreatUKa
import Derived.Test.YtabmfdedbpmfmaaGreatUKf
namespace Go.Proofs.YtabmfdedbpmfmaaGreat
open Go.RowKit Go.Shelf
open _root_.Array renaming getElem?_eq_some_iff → qbsp
set_option linter.unusedVariables false
set_option maxHeartbeats 8000000
set_option maxRecDepth 100000
theorem qblz (q:Tri) (s:QY) (w:World) (ho:okP s.data.toList=false) :
  Calls Tryz.prog 17 #[triV q,.string s] w fun e w'=>e=.returned (.bool false)∧Below w.heap.size w w':=by
 have RV:=qb (fun W=>qfp s W ho);have hne:(errX s.data.toList).1≠0:=by simpa using qdw _ ho
 generalize (errX s.data.toList).1=e1 at *;generalize (errX s.data.toList).2=p1 at *;unfold pepZ at RV;unfold triV;have hb0:Below w.heap.size w (w.alloc (.cells #[.string (qd q.1),.string (qd q.2.1),.bool q.2.2] 32)):=(Below.refl _ w).alloc (Nat.le_refl _) _;have m1:(e1 != 0)=true:=by simpa using hne
 have m2:(e1==0)=false:=by simpa using hne
 clear ho hne;go_enter Tryz.func17,Tryz.ntmps17
 (go_wp2_with fail);generalize w.alloc _=W0 at *;refine(RV.out _).mono ?_;rintro e w1 ⟨rfl,b1⟩;obtain⟨V,hV,n1,n2,bV,sV⟩:=ql w1 #[.string ⟨#[]⟩,.slice none 0 0,.int .u8 0,.string ⟨#[]⟩,.bool false,.string ⟨#[]⟩,.bool false,.string ⟨#[]⟩,.slice none 0 0] #[.int .i64 e1,.int .i64 (p1:Int)] 44 25;obtain⟨u0,u1,_⟩:=qv n2;have HB:=qb (hb0.trans ((b1.trans (bV.mono b1.size)).mono hb0.size));have HVV:=qb hV;clear n1 n2 bV sV hV b1 hb0;go_upto_region 2 with fail
 rw[HVV.out];(go_wp2_with fail);go_ret
 exact⟨rfl,HB.out⟩
theorem qbqb (q:Tri) (x:PepL) (s:QY) (w:World) (PX:∀ W,Calls Tryz.prog 25 #[.string s] W (qxh x W))
  (FT:∀ W,Calls Tryz.prog 37 #[.agg #[.string (qd q.1),.string (qd q.2.1),.bool q.2.2]] W fun e w'=>e=.returned (.bool false)∧Below W.heap.size W w') :
  Calls Tryz.prog 17 #[triV q,.string s] w fun e w'=>e=.returned (.bool false)∧Below w.heap.size w w':=by
 unfold triV;have n0:=World.alloc_heap_new w (.cells #[.string (qd q.1),.string (qd q.2.1),.bool q.2.2] 32);have hb0:Below w.heap.size w (w.alloc (.cells #[.string (qd q.1),.string (qd q.2.1),.bool q.2.2] 32)):=(Below.refl _ w).alloc (Nat.le_refl _) _;have PX:=qb PX;have FT:=qb FT;go_enter Tryz.func17,Tryz.ntmps17
 (go_wp2_with fail);generalize w.alloc _=W0 at *;refine(PX.out _).mono ?_;rintro e w1 ⟨r1,c1,q1,d1,rfl,ra,la,hn,hc1,b1⟩;obtain⟨V,hV,n1,n2,bV,sV⟩:=ql w1 #[.string (qd x.ep),.slice r1 x.rel.length c1,.int .u8 x.c,.string (qd x.n),.bool x.b,.string (qd x.m),.bool x.d,.string (qd x.k),.slice q1 x.loc.length d1] #[.int .i64 0,.int .i64 0] 44 25;obtain⟨u0,u1,_⟩:=qv n2;have M1:=qb ((bV.block _ (Nat.lt_of_lt_of_le (qbsp.1 n0).1 b1.size)).trans ((b1.block _ (qbsp.1 n0).1).trans n0));have HB1:=qb ((hb0.trans (b1.mono hb0.size)).trans (bV.mono (hb0.trans (b1.mono hb0.size)).size));have HVV:=qb hV;have p0:=qc 0 M1.out rfl;have p1:=qc 1 M1.out rfl;have p2:=qc 2 M1.out rfl;clear n0 hb0 PX ra la b1 hV n1 n2 bV hn hc1;go_upto_region 2 with fail
 rw[HVV.out];clear HVV;(go_wp2_with fail);refine(FT.out _).mono ?_;rintro e w2 ⟨rfl,b2⟩;have HB2:=qb (HB1.out.trans (b2.mono HB1.out.size));(go_wp2_with fail);go_ret
 exact⟨rfl,HB2.out⟩
theorem RHolds_7 (x:PepL) (s T:QY) (ST:Bool) (w:World) (hs:s.size≤maxLen) (hT:T.size≤maxLen) (PX:∀ W,Calls Tryz.prog 25 #[.string s] W (qxh x W))
 (FT:∀ W,Calls Tryz.prog 37 #[.agg #[.string ⟨#[61,61,61]⟩,.string T,.bool ST]] W fun e w'=>e=.returned (.bool true)∧Below W.heap.size W w') :
 Calls Tryz.prog 17 #[.agg #[.string ⟨#[61,61,61]⟩,.string T,.bool ST],.string s] w fun e w'=>e=.returned (.bool (s.data.toList.map lowC==T.data.toList.map lowC))∧Below w.heap.size w w':=by
  have L1:=qb (fun W=>qlb s W hs);have L2:=qb (fun W=>qlb T W hT);have heq:=qld (s.data.toList.map lowC) (T.data.toList.map lowC);generalize s.data.toList.map lowC=A at *;generalize T.data.toList.map lowC=B at *;generalize hR:(A==B)=R at *;have n0:=World.alloc_heap_new w (.cells #[.string ⟨#[61,61,61]⟩,.string T,.bool ST] 32);have hb0:Below w.heap.size w (w.alloc (.cells #[.string ⟨#[61,61,61]⟩,.string T,.bool ST] 32)):=(Below.refl _ w).alloc (Nat.le_refl _) _;have PX:=qb PX;have FT:=qb FT;go_enter Tryz.func17,Tryz.ntmps17
  (go_wp2_with fail);generalize w.alloc _=W0 at *;refine(PX.out _).mono ?_;rintro e w1 ⟨r1,c1,q1,d1,rfl,ra,la,hn,hc1,b1⟩;obtain⟨V,hV,n1,n2,bV,sV⟩:=ql w1 #[.string (qd x.ep),.slice r1 x.rel.length c1,.int .u8 x.c,.string (qd x.n),.bool x.b,.string (qd x.m),.bool x.d,.string (qd x.k),.slice q1 x.loc.length d1] #[.int .i64 0,.int .i64 0] 44 25;obtain⟨u0,u1,_⟩:=qv n2;have M1:=qb ((bV.block _ (Nat.lt_of_lt_of_le (qbsp.1 n0).1 b1.size)).trans ((b1.block _ (qbsp.1 n0).1).trans n0));have HB1:=qb ((hb0.trans (b1.mono hb0.size)).trans (bV.mono (hb0.trans (b1.mono hb0.size)).size));have HVV:=qb hV;have p0:=qc 0 M1.out rfl;have p1:=qc 1 M1.out rfl;have p2:=qc 2 M1.out rfl;clear n0 hb0 PX ra la b1 hV n1 n2 bV hn hc1;go_upto_region 2 with fail
  rw[HVV.out];clear HVV;(go_wp2_with fail);refine(FT.out _).mono ?_;rintro e w2 ⟨rfl,b2⟩;have HB2:=qb (HB1.out.trans (b2.mono HB1.out.size));have M2:=qb ((b2.block _ (qbsp.1 M1.out).1).trans M1.out);clear p0 p1 p2 u0 u1 M1 HB1 b2 FT;have p0:=qc 0 M2.out rfl;have p1:=qc 1 M2.out rfl;have p2:=qc 2 M2.out rfl;go_upto_region 5 with fail
  have HD:=qb (Below.refl w2.heap.size w2).drew;have MD:=qb ((HD.out.block _ (qbsp.1 M2.out).1).trans M2.out);have d1:=qc 1 MD.out rfl
  go_region_held3 (fun w'=>w'.cell? ⟨w.heap.size,1,none⟩=some (.string T)) (go_keep)
    ((first
      | (
         go_at_call_of 38 (Value.string s);refine(L1.out _).mono ?_;rintro e wy ⟨rfl,hby⟩
         have HBy:=qb (HD.out.trans (hby.mono HD.out.size));have MY:=qb ((HBy.out.block _ (qbsp.1 M2.out).1).trans M2.out);have d2:=qc 1 MY.out rfl)
      | (
         go_at_call_of 38 (Value.string T);refine(L2.out _).mono ?_;rintro e wz ⟨rfl,hbz⟩
         have HBz:=qb (HBy.out.trans (hbz.mono HBy.out.size));have MZ:=qb ((HBz.out.block _ (qbsp.1 M2.out).1).trans M2.out);have d3:=qc 1 MZ.out rfl)
      | fail))
  all_goals
    (go_wp2_with fail);go_ret
    exact⟨by first|rfl|simp[hR],HB2.out.trans (HBz.out.mono HB2.out.size)⟩
theorem qbbc (q:Tri) (s:QY) (w:World) (h0:q.1.length≤10000000) (h1:q.2.1.length≤10000000) (hs:s.size≤maxLen) :
  Calls Tryz.prog 17 #[triV q,.string s] w fun e w'=>e=.returned (.bool (qls q s.data.toList))∧Below w.heap.size w w':=by
 cases ho:okP s.data.toList
 ·rw[qxd ho];exact qblz q s w ho
 ·cases hf:fitT q
  ·rw[qvp hf];exact qbqb q _ s w (fun W=>qgl s W ho) (fun W=>by have:=qrm q W h0 h1;rw[hf]at this;exact this)
  ·obtain ⟨c,hc,hq⟩:=qbmr hf;have hOK:=qwh (wrT q) _ (by rw[hc];exact List.mem_singleton.2 rfl)
   rw [qbhm hc hq ho];have FT:=fun W=>qrm q W h0 h1;rw[hf]at FT;subst hq;clear hc hf;obtain⟨k,y,u,su,s0,e0,er0⟩:=c;have hk:=hOK.k8;have htl:=hOK.tl;have hver:=hOK.ver;have htwo:=hOK.two;dsimp only[triC]at FT h1 hk htl hver htwo ⊢;have PX:=fun W=>qgl s W ho;have hx:=qnz ho;generalize qm (qk s.data.toList)=x at *;have PY:k≠7→∀ W,Calls Tryz.prog 25 #[.string (qd u)] W (qxh y W):=fun h W=>by
    have h2:=hver h;have:=qgl (qd u) W (by rw[qj];exact h2.1)
    rwa [qj,←h2.2]at this
   have hy:k≠7→VerOK y:=fun h=>by have:=hver h;rw[this.2];exact qnz this.1
   clear hOK hver ho;rcases(show k<7∨k=7 by omega)with h7|rfl
   ·have:=RHolds_k k h7 x y s (qd u) su w hx (hy (by omega)) htwo PX (PY (by omega)) FT
    rw[qj]at this;exact this
   ·have:=RHolds_7 x s (qd u) su w hs (by rw[qn];unfold maxLen;omega) PX FT
    rw[qj]at this;exact this
set_option maxHeartbeats 8000000
set_option maxRecDepth 100000
theorem qbhl (v:Value) (qs:List Tri) (q:Tri) (s:QY) (w:World) (hv:qgn w v qs) (hs:qgm qs) (h0:q.1.length≤10000000) (h1:q.2.1.length≤10000000) (hz:s.size≤140737488351232) :
 Calls Tryz.prog 4 #[v,triV q,.string s] w fun e w'=>e=.returned (.bool true)∧Below w.heap.size w w':=by
  obtain⟨a,c,rfl,_⟩:=id hv;have F14:=qb (fun W h=>qbcl (.slice a qs.length c) qs W h hs);have F15:=qb (fun W h=>qwt (.slice a qs.length c) qs W h hs);have P18:=qb (fun W h=>qbqv (.slice a qs.length c) qs W h hs);have P19:=qb (fun W h=>qbld (.slice a qs.length c) qs W h hs);have H16:=qb (fun W=>qbhr q s W h0 h1 hz);have H17:=qb (fun W=>qbbc q s W h0 h1 (by unfold maxLen;omega))
  have AW:=qb qbfd;unfold triV at H16 H17;unfold triV;generalize fmtT qs=FM at *;generalize qls q s.data.toList=HO at *;generalize qlm qs=LE at *;have n0:=World.alloc_heap_new w (.cells #[.string (qd q.1),.string (qd q.2.1),.bool q.2.2] 32);have hb0:Below w.heap.size w (w.alloc (.cells #[.string (qd q.1),.string (qd q.2.1),.bool q.2.2] 32)):=(Below.refl _ w).alloc (Nat.le_refl _) _;have HV:=qb (hv.below hb0);have M0:=qb n0;have HB0:=qb hb0;clear hv hs h0 h1 hz n0 hb0;go_enter Tryz.func4,Tryz.ntmps4
  go_upto_region 1 with fail
  generalize w.alloc _=W0 at *;have HBz:=qb (Below.refl W0.heap.size W0).drew;have MZ:=(HBz.out.block _ (qbsp.1 M0.out).1).trans M0.out;have f0:=qc 0 MZ rfl;have f1:=qc 1 MZ rfl;have f2:=qc 2 MZ rfl
  go_region_held3 (fun w'=>w'.cell? ⟨w.heap.size,0,none⟩=some (.string (qd q.1))∧w'.cell? ⟨w.heap.size,1,none⟩=some (.string (qd q.2.1))∧w'.cell? ⟨w.heap.size,2,none⟩=some (.bool q.2.2)) (go_keep)
    ((first
      | (
         go_at_call 14;refine(F14.out _ (HV.out.below HBz.out)).mono ?_;rintro e wz ⟨rfl,bz⟩
         have HBz:=qb (HBz.out.trans (bz.mono HBz.out.size));have MZ:=(HBz.out.block _ (qbsp.1 M0.out).1).trans M0.out;have f0:=qc 0 MZ rfl;have f1:=qc 1 MZ rfl;have f2:=qc 2 MZ rfl)
      | (
         go_at_call 15;refine(F15.out _ (HV.out.below HBz.out)).mono ?_;rintro e wz ⟨rfl,bz⟩
         have HBz:=qb (HBz.out.trans (bz.mono HBz.out.size));have MZ:=(HBz.out.block _ (qbsp.1 M0.out).1).trans M0.out;have f0:=qc 0 MZ rfl;have f1:=qc 1 MZ rfl;have f2:=qc 2 MZ rfl)
      | (
         go_at_call 16;refine(H16.out _).mono ?_;rintro e wz ⟨rfl,bz⟩
         have HBz:=qb (HBz.out.trans (bz.mono HBz.out.size));have MZ:=(HBz.out.block _ (qbsp.1 M0.out).1).trans M0.out;have f0:=qc 0 MZ rfl;have f1:=qc 1 MZ rfl;have f2:=qc 2 MZ rfl)
      | (
         go_at_call 17;refine(H17.out _).mono ?_;rintro e wz ⟨rfl,bz⟩
         have HBz:=qb (HBz.out.trans (bz.mono HBz.out.size));have MZ:=(HBz.out.block _ (qbsp.1 M0.out).1).trans M0.out;have f0:=qc 0 MZ rfl;have f1:=qc 1 MZ rfl;have f2:=qc 2 MZ rfl)
      | (
         go_at_call 18;refine(P18.out _ (HV.out.below HBz.out)).mono ?_;rintro e wz ⟨rfl,bz⟩
         have HBz:=qb (HBz.out.trans (bz.mono HBz.out.size));have MZ:=(HBz.out.block _ (qbsp.1 M0.out).1).trans M0.out;have f0:=qc 0 MZ rfl;have f1:=qc 1 MZ rfl;have f2:=qc 2 MZ rfl)
      | (
         go_at_call 19;refine(P19.out _ (HV.out.below HBz.out)).mono ?_;rintro e wz ⟨rfl,bz⟩
         have HBz:=qb (HBz.out.trans (bz.mono HBz.out.size));have MZ:=(HBz.out.block _ (qbsp.1 M0.out).1).trans M0.out;have f0:=qc 0 MZ rfl;have f1:=qc 1 MZ rfl;have f2:=qc 2 MZ rfl)
      | (
         go_at_call 13;refine(AW.out _).mono ?_;rintro e wz ⟨rfl,bz⟩
         have HBz:=qb (HBz.out.trans (bz.mono HBz.out.size));have MZ:=(HBz.out.block _ (qbsp.1 M0.out).1).trans M0.out;have f0:=qc 0 MZ rfl;have f1:=qc 1 MZ rfl;have f2:=qc 2 MZ rfl)
      | fail))
  all_goals
    (go_wp2_with fail);go_ret
    exact⟨by first|rfl|simp,HB0.out.trans (HBz.out.mono HB0.out.size)⟩
open Go.ChangeShapes Go.WideShapes Go.ChangeAt
def triD {H:Type} (q:Tri):DataW H:=.agg [.lit (.string q.1),.lit (.string q.2.1),.lit (.bool q.2.2)]
theorem qxl {H:Type} (D:Nat→DataW H) (τ : Nat→Tri):∀ l:List Nat,(∀ i∈l,D i=triD (τ i))→l.length≤Rows.uptoBulkAll (l.map D)∧∀ i∈l,(τ i).1.length≤Rows.uptoBulkAll (l.map D)∧(τ i).2.1.length≤Rows.uptoBulkAll (l.map D)
 | [],_=>⟨Nat.zero_le _,fun i h=>by cases h⟩
 | j::r,h=>by
  obtain⟨h1,h2⟩:=qxl D τ r (fun i hi=>h i (List.mem_cons_of_mem _ hi));have hj:=h j List.mem_cons_self;simp only[List.map_cons,Rows.uptoBulkAll,List.length_cons];rw[hj];simp only[triD,Rows.uptoBulk,Rows.uptoBulkAll];refine⟨by omega,fun i hi=>?_⟩
  rcases List.mem_cons.1 hi with rfl|hi
  ·exact⟨by omega,by omega⟩
  ·have:=h2 i hi;exact⟨by omega,by omega⟩
theorem c32:Tryz.prog.cellsOf 32=3:=by kernel_rfl
theorem c4:Tryz.prog.cellsOf 4=1:=by kernel_rfl
theorem c9:Tryz.prog.cellsOf 9=1:=by kernel_rfl
theorem add_at (b o j:Nat):(Addr.add ⟨b,o,none⟩ j)=⟨b,o+j,none⟩:=by
 by_cases e0:j=0
 ·subst e0;rfl
 ·simp[Addr.add,e0]
theorem qbdx {H:Type} {enc:TypeId×Value→H} {W:World} {k0:Nat} {cs:List Value} {D:DataW H} {Pl:List MemPlace} (hlen:cs.length=3) (h2:DataW.trod enc Tryz.prog W 0 (fun _=>true) true k0 32 cs=some (D,Pl)) :
  ∃ q:Tri,cs=[.string (qd q.1),.string (qd q.2.1),.bool q.2.2]∧D=triD q:=by
 obtain⟨xs,k,_,hxy,_,hxl,hf⟩:=DataW.trod_struct Tryz.underlying32 h2
 match xs,hxl,cs,hlen with
 | [y0,y1,y2],_,[v0,v1,v2],_=>
  have g0:=hf 0 _ rfl;have g1:=hf 1 _ rfl;have g2:=hf 2 _ rfl;obtain⟨s0,e0,z0,_⟩:=DataW.trod_string (cs:=[v0]) Tryz.underlying9 (g0:DataW.trod enc Tryz.prog W 0 _ true k 9 [v0]=some y0);obtain rfl:v0=.string s0:=by simpa using e0
  obtain⟨s1,e1,z1,_⟩:=DataW.trod_string (cs:=[v1]) Tryz.underlying9 (g1:DataW.trod enc Tryz.prog W 0 _ true k 9 [v1]=some y1);obtain rfl:v1=.string s1:=by simpa using e1
  obtain⟨s2,e2,z2⟩:=DataW.trod_bool (cs:=[v2]) Tryz.underlying4 (g2:DataW.trod enc Tryz.prog W 0 _ true k 4 [v2]=some y2);obtain rfl:v2=.bool s2:=by simpa using e2
  subst z0 z1 z2;simp only[Prod.mk.injEq]at hxy;refine⟨(s0.data.toList,s1.data.toList,s2),by rw[qcw,qcw],?_⟩
  rw[hxy.1]
  rfl
theorem qbqs {H:Type} {enc:TypeId×Value→H} {W:World} {fuel:Nat} {c:Value} {y:DataW H×List MemPlace} (h:DataW.trod enc Tryz.prog W 0 (fun _=>true) true fuel 22 [c]=some y) :
  ∃ qs:List Tri,qgn W c qs∧qs.length≤Rows.uptoBulk y.1∧∀ q∈qs,q.1.length≤Rows.uptoBulk y.1∧q.2.1.length≤Rows.uptoBulk y.1:=by
 rcases Go.Deep.open_slice Tryz.underlying22 h with ⟨hcs,rfl⟩|⟨a,len,cap,m,n,D,Pl,hcs,_,hl,hm,hmm,rfl,hx⟩
 ·obtain rfl:c=.slice none 0 0:=by simpa using hcs
  exact⟨[],⟨none,0,rfl,fun i hi=>by cases hi⟩,Nat.zero_le _,fun t ht=>by cases ht⟩
 ·obtain rfl:c=.slice (some a) len cap:=by simpa using hcs
  have hmc:m=cap:=by simpa using hmm
  have each:∀ i,i<len→∃ t:Tri,(W.cell? (a.add (i*3))=some (.string (qd t.1))∧W.cell? (a.add (i*3+1))=some (.string (qd t.2.1))∧W.cell? (a.add (i*3+2))=some (.bool t.2.2))∧D i=triD t:=by
   intro i hi;obtain⟨cs',h1,h2⟩:=hx i (by omega)
   rw[c32]at h1;obtain⟨_,hlen,hcell⟩:=World.cells?_some h1;obtain⟨q,rfl,hD⟩:=qbdx hlen h2;have q0:=hcell 0 (by simp)
   have q1:=hcell 1 (by simp)
   have q2:=hcell 2 (by simp)
   rw[Go.Deep.add_add]at q0 q1 q2;exact⟨q,⟨by simpa using q0,by simpa using q1,by simpa using q2⟩,hD⟩
  obtain⟨τ,hτ⟩:=Go.Deep.choose_lt each;obtain⟨hb1,hb2⟩:=qxl D τ (List.range len) (fun i hi=>(hτ i (List.mem_range.1 hi)).2);rw[List.length_range]at hb1;have hlen:((List.range len).map τ).length=len:=by rw[List.length_map,List.length_range]
  refine⟨(List.range len).map τ,⟨some a,cap,by rw[hlen],fun i hi=>?_⟩,?_,?_⟩
  ·rw[hlen]at hi;obtain⟨b,off,spot⟩:=a;have hc:=(hτ 0 (by omega)).1.1
   have hspot:spot=none:=by simpa[Addr.add] using World.cell?_spot hc
   subst hspot;have e:((List.range len).map τ)[i]'(by rw[hlen];exact hi)=τ i:=by simp
   obtain⟨h3,h4,h5⟩:=(hτ i hi).1;rw[add_at]at h3 h4 h5;rw[e];exact⟨b,off,rfl,cell_lt h3,h3,h4,h5⟩
  ·rw[hlen];simp only[Rows.uptoBulk];omega
  ·intro q hq;obtain⟨i,hi,rfl⟩:=List.mem_map.1 hq;have:=hb2 i hi;simp only[Rows.uptoBulk];omega
end Go.Proofs.YtabmfdedbpmfmaaGreat
