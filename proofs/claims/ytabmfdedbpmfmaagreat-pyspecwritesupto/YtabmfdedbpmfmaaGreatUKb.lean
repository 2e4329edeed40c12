/- Walks: Holds. -/
import Derived.Test.YtabmfdedbpmfmaaGreatUIg
import Derived.Test.YtabmfdedbpmfmaaGreatUKa
namespace Go.Proofs.YtabmfdedbpmfmaaGreat
open Go.RowKit Go.Shelf
open _root_.Array renaming getElem?_eq_some_iff → qbsp
open Nat renaming le_refl → qbst
open World renaming alloc_heap_new → qbsr
set_option linter.unusedVariables false
set_option maxHeartbeats 8000000
set_option maxRecDepth 100000
def qls (q:Tri) (u:QB):Bool:=
 match (pyL (wrT q)).2.2 with
 | [c]=>decide (triC c=q)&&okP u&&qft c.k (qm (qk u)) u c.x c.t c.st
 | _=>false
theorem qvp {q:Tri} {u:QB} (h:fitT q=false):qls q u=false:=by
 unfold qls;unfold fitT at h;split
 ·rename_i c hc;rw[hc]at h;have:decide (triC c=q)=false:=by
   simp only[List.map_cons,List.map_nil,decide_eq_false_iff_not]at h ⊢;intro h2;exact h (by rw[h2])
  rw[this]
  rfl
 ·rfl
theorem qxd {q:Tri} {u:QB} (h:okP u=false):qls q u=false:=by
 unfold qls;split
 ·rw[h];simp
 ·rfl
theorem qbhm {q:Tri} {u:QB} {c:Cl} (h1:(pyL (wrT q)).2.2=[c]) (h2:triC c=q) (h3:okP u=true):qls q u=qft c.k (qm (qk u)) u c.x c.t c.st:=by
 unfold qls;rw[h1];dsimp only;rw[h3,h2];simp
theorem seen18c {W:World} {B:Nat} {t:TypeId} {a0 a1 a2 a3 a4 a5 a6 a7 a8 a9 a10 a11 a12 a13 a14 a15 a16 a17:Value} (h:W.heap[B]? = some (.cells #[a0,a1,a2,a3,a4,a5,a6,a7,a8,a9,a10,a11,a12,a13,a14,a15,a16,a17] t (0,0))):W.cell? ⟨B,0,none⟩=some a0∧W.cell? ⟨B,1,none⟩=some a1∧W.cell? ⟨B,2,none⟩=some a2∧W.cell? ⟨B,3,none⟩=some a3∧W.cell? ⟨B,4,none⟩=some a4∧W.cell? ⟨B,5,none⟩=some a5∧W.cell? ⟨B,6,none⟩=some a6∧W.cell? ⟨B,7,none⟩=some a7∧W.cell? ⟨B,8,none⟩=some a8∧W.cell? ⟨B,9,none⟩=some a9∧W.cell? ⟨B,10,none⟩=some a10∧W.cell? ⟨B,11,none⟩=some a11∧W.cell? ⟨B,12,none⟩=some a12∧W.cell? ⟨B,13,none⟩=some a13∧W.cell? ⟨B,14,none⟩=some a14∧W.cell? ⟨B,15,none⟩=some a15∧W.cell? ⟨B,16,none⟩=some a16∧W.cell? ⟨B,17,none⟩=some a17:=
 ⟨qc 0 h rfl,qc 1 h rfl,qc 2 h rfl,qc 3 h rfl,qc 4 h rfl,qc 5 h rfl,qc 6 h rfl,qc 7 h rfl,qc 8 h rfl,qc 9 h rfl,qc 10 h rfl,qc 11 h rfl,qc 12 h rfl,qc 13 h rfl,qc 14 h rfl,qc 15 h rfl,qc 16 h rfl,qc 17 h rfl⟩
theorem qblj (q:Tri) (s:QY) (w:World) (h0:q.1.length≤10000000) (h1:q.2.1.length≤10000000) (hs:s.size≤140737488351232) (ho:okP s.data.toList=false) :
  Calls Tryz.prog 16 #[triV q,.string s] w fun e w'=>e=.returned (.bool (qls q s.data.toList))∧Below w.heap.size w w':=by
 have n0:=qbsr w (.cells #[.string (qd q.1),.string (qd q.2.1),.bool q.2.2] 32);have hb0:Below w.heap.size w (w.alloc (.cells #[.string (qd q.1),.string (qd q.2.1),.bool q.2.2] 32)):=(Below.refl _ w).alloc (qbst _) _;have MP:=qb (fun W=>qlp q W h0 h1);unfold qmj triV at MP;unfold triV;have RV:=qb (fun W=>qdz s W hs ho);have hq:qbp (fun _=>true) s.data.toList=.bad (errX s.data.toList).1 (errX s.data.toList).2:=by unfold qbp;rw[ho];rfl
 rw[hq]at RV;generalize (errX s.data.toList).1=e1 at *;generalize (errX s.data.toList).2=p1 at *;clear hq;go_enter Tryz.func16,Tryz.ntmps16
 go_upto_region 1 with fail
 generalize w.alloc _=W0 at *;have pa:=qc 0 n0 rfl;have pb:=qc 1 n0 rfl;have pc:=qc 2 n0 rfl;refine wp_region_lit ?_;go_step
 go_step
 go_step
 (go_wp2_with fail);refine(MP.out _).mono ?_;rintro e w1 ⟨b1,⟨hf,rfl⟩|⟨it,hc,hq,⟨A,hT⟩,rfl⟩⟩
 ·have hone0:Z61.all (·.oneCell')=true:=by kernel_rfl
  dsimp only;go_step
  go_step
  go_step
  go_step
  go_step
  go_step
  go_step
  go_step
  go_step
  go_step
  refine qdh rfl rfl ?_;have hZ:=qbsr w1 (.cells Z61 61);refine wpList_store_mid rfl 61 (.tmp 5) (.tmp 12) rfl w1.heap.size 0 #[.string ⟨#[]⟩,.nilFunc,.nilFunc,.bool false,.string ⟨#[]⟩,.slice none 0 0,.int .u8 0,.string ⟨#[]⟩,.bool false,.string ⟨#[]⟩,.bool false,.string ⟨#[]⟩,.slice none 0 0,.string ⟨#[]⟩,.bool false,.int .i64 0,.int .i64 0,.int .i64 0] rfl rfl (qcf hZ (qbst 18)) qcs hone0 ?_;obtain⟨n3,hT⟩:=qgf (c:=#[.string ⟨#[]⟩,.nilFunc,.nilFunc,.bool false,.string ⟨#[]⟩,.slice none 0 0,.int .u8 0,.string ⟨#[]⟩,.bool false,.string ⟨#[]⟩,.bool false,.string ⟨#[]⟩,.slice none 0 0,.string ⟨#[]⟩,.bool false,.int .i64 0,.int .i64 0,.int .i64 0]) hZ rfl;have hal:=((Below.refl w1.heap.size w1).alloc (qbst _) (.cells Z61 61)).trans (hT.below (qbst _) (Nat.le_of_lt (qbsp.1 hZ).1));generalize (w1.alloc (.cells Z61 61)).setCells _ _ _=W3 at *;have bb:=b1.trans (hal.mono b1.size);have HB3:=qb (hb0.trans (bb.mono hb0.size));clear hZ hT;(go_wp2_with fail);refine(RV.out _).mono ?_;rintro e w4 ⟨b4,hne,st,rfl⟩;unfold zerV;obtain⟨V,hV,n1,n2,bV,sV⟩:=ql w4 #[.string ⟨#[]⟩,.slice none 0 0,.int .u8 0,.string ⟨#[]⟩,.bool false,.string ⟨#[]⟩,.bool false,.string ⟨#[]⟩,.slice none 0 0,.string ⟨#[]⟩,.bool st] #[.int .i64 e1,.int .i64 (p1:Int)] 59 25;obtain⟨u0,u1,_⟩:=qv n2;have m1:(e1 != 0)=true:=by simpa using hne
  have m2:(e1==0)=false:=by simpa using hne
  have HB:=qb (HB3.out.trans ((b4.trans (bV.mono b4.size)).mono HB3.out.size));have HVV:=qb hV;clear n1 n2 bV sV hV b4 hne;go_upto_region 3 with fail
  rw[HVV.out];(go_wp2_with fail);go_ret
  exact⟨by rw[qvp hf];rfl,HB.out⟩
 ·obtain⟨⟨k,y,u,su,s0,e0,er0⟩,x2,x3⟩:=it;have hOK:=qwh (wrT q) _ (by rw[hc];exact List.mem_singleton.2 rfl)
  obtain⟨rb,lb,cb,_⟩:=hT;dsimp only at rb lb cb hOK hc hq;obtain⟨r2,c2,rfl,_⟩:=id rb;obtain⟨q2,d2,rfl,_⟩:=id lb;have HONE:Hid ((clV ⟨k,y,u,su,s0,e0,er0⟩ (.slice r2 y.rel.length c2) (.slice q2 y.loc.length d2)).all (·.oneCell')=true):=qb (by have:=all_oneCell_toArray (qjd (c:=⟨k,y,u,su,s0,e0,er0⟩) rb lb);simpa using this)
  dsimp only;go_step
  go_step
  go_step
  go_step
  go_step
  go_step
  go_step
  go_step
  go_step
  go_step
  refine qdh rfl rfl ?_;have hZ:=qbsr w1 (.cells Z61 61);refine wpList_store_mid rfl 61 (.tmp 5) (.tmp 12) rfl w1.heap.size 0 #[.string (qd (sgn k)),fnV (rdF k),fnV (hoF k),.bool (opB k),.string (qd y.ep),.slice r2 y.rel.length c2,.int .u8 y.c,.string (qd y.n),.bool y.b,.string (qd y.m),.bool y.d,.string (qd y.k),.slice q2 y.loc.length d2,.string (qd u),.bool su,.int .i64 (s0:Int),.int .i64 (e0:Int),.int .i64 er0] rfl rfl (qcf hZ (qbst 18)) qcs HONE.out ?_;obtain⟨n3,hT⟩:=qgf (c:=#[.string (qd (sgn k)),fnV (rdF k),fnV (hoF k),.bool (opB k),.string (qd y.ep),.slice r2 y.rel.length c2,.int .u8 y.c,.string (qd y.n),.bool y.b,.string (qd y.m),.bool y.d,.string (qd y.k),.slice q2 y.loc.length d2,.string (qd u),.bool su,.int .i64 (s0:Int),.int .i64 (e0:Int),.int .i64 er0]) hZ rfl;have hal:=((Below.refl w1.heap.size w1).alloc (qbst _) (.cells Z61 61)).trans (hT.below (qbst _) (Nat.le_of_lt (qbsp.1 hZ).1));generalize (w1.alloc (.cells Z61 61)).setCells _ _ _=W3 at *;have bb:=b1.trans (hal.mono b1.size);have HB3:=qb (hb0.trans (bb.mono hb0.size));clear hZ hT;(go_wp2_with fail);refine(RV.out _).mono ?_;rintro e w4 ⟨b4,hne,st,rfl⟩;unfold zerV
  obtain⟨V,hV,n1,n2,bV,sV⟩:=ql w4 #[.string ⟨#[]⟩,.slice none 0 0,.int .u8 0,.string ⟨#[]⟩,.bool false,.string ⟨#[]⟩,.bool false,.string ⟨#[]⟩,.slice none 0 0,.string ⟨#[]⟩,.bool st] #[.int .i64 e1,.int .i64 (p1:Int)] 59 25;obtain⟨u0,u1,_⟩:=qv n2;have m1:(e1 != 0)=true:=by simpa using hne
  have m2:(e1==0)=false:=by simpa using hne
  have HB:=qb (HB3.out.trans ((b4.trans (bV.mono b4.size)).mono HB3.out.size));have HVV:=qb hV;clear n1 n2 bV sV hV b4 hne;go_upto_region 3 with fail
  rw[HVV.out];(go_wp2_with fail);go_ret
  exact⟨by rw[qxd ho];rfl,HB.out⟩
theorem qbkl (q:Tri) (s:QY) (w:World) (h0:q.1.length≤10000000) (h1:q.2.1.length≤10000000) (hs:s.size≤140737488351232) (ho:okP s.data.toList=true) :
  Calls Tryz.prog 16 #[triV q,.string s] w fun e w'=>e=.returned (.bool (qls q s.data.toList))∧Below w.heap.size w w':=by
 have n0:=qbsr w (.cells #[.string (qd q.1),.string (qd q.2.1),.bool q.2.2] 32);have hb0:Below w.heap.size w (w.alloc (.cells #[.string (qd q.1),.string (qd q.2.1),.bool q.2.2] 32)):=(Below.refl _ w).alloc (qbst _) _;have MP:=qb (fun W=>qlp q W h0 h1);unfold qmj triV at MP;unfold triV;have RV:=qb (fun W=>qfb s W ho);have hx:=qnz ho;have hq:qbp (fun _=>true) s.data.toList=.ok (qm (qk s.data.toList)) s.data.toList false:=by unfold qbp;rw[ho];rfl
 rw[hq]at RV;have HT:=qb (fun c h1 h2=>@qbhm q s.data.toList c h1 h2 ho);generalize qm (qk s.data.toList)=x at *;clear hq;go_enter Tryz.func16,Tryz.ntmps16
 go_upto_region 1 with fail
 generalize w.alloc _=W0 at *;have pa:=qc 0 n0 rfl;have pb:=qc 1 n0 rfl;have pc:=qc 2 n0 rfl;refine wp_region_lit ?_;go_step
 go_step
 go_step
 (go_wp2_with fail);refine(MP.out _).mono ?_;rintro e w1 ⟨b1,⟨hf,rfl⟩|⟨it,hc,hq,⟨A,hT⟩,rfl⟩⟩
 ·have hone0:Z61.all (·.oneCell')=true:=by kernel_rfl
  dsimp only;go_step
  go_step
  go_step
  go_step
  go_step
  go_step
  go_step
  go_step
  go_step
  go_step
  refine qdh rfl rfl ?_;have hZ:=qbsr w1 (.cells Z61 61);refine wpList_store_mid rfl 61 (.tmp 5) (.tmp 12) rfl w1.heap.size 0 #[.string ⟨#[]⟩,.nilFunc,.nilFunc,.bool false,.string ⟨#[]⟩,.slice none 0 0,.int .u8 0,.string ⟨#[]⟩,.bool false,.string ⟨#[]⟩,.bool false,.string ⟨#[]⟩,.slice none 0 0,.string ⟨#[]⟩,.bool false,.int .i64 0,.int .i64 0,.int .i64 0] rfl rfl (qcf hZ (qbst 18)) qcs hone0 ?_;obtain⟨n3,hT⟩:=qgf (c:=#[.string ⟨#[]⟩,.nilFunc,.nilFunc,.bool false,.string ⟨#[]⟩,.slice none 0 0,.int .u8 0,.string ⟨#[]⟩,.bool false,.string ⟨#[]⟩,.bool false,.string ⟨#[]⟩,.slice none 0 0,.string ⟨#[]⟩,.bool false,.int .i64 0,.int .i64 0,.int .i64 0]) hZ rfl;have hal:=((Below.refl w1.heap.size w1).alloc (qbst _) (.cells Z61 61)).trans (hT.below (qbst _) (Nat.le_of_lt (qbsp.1 hZ).1));generalize (w1.alloc (.cells Z61 61)).setCells _ _ _=W3 at *;have bb:=b1.trans (hal.mono b1.size);have HB3:=qb (hb0.trans (bb.mono hb0.size));clear hZ hT;(go_wp2_with fail);refine(RV.out _).mono ?_;rintro e w4 ⟨b4,vr,vl,rfl,t1,t2,fr1,fr2⟩;obtain⟨r1,c1,rfl,_⟩:=id t1;obtain⟨q1,d1,rfl,_⟩:=id t2;unfold verV
  obtain⟨V,hV,n1,n2,bV,sV⟩:=ql w4 #[.string (qd x.ep),.slice r1 x.rel.length c1,.int .u8 x.c,.string (qd x.n),.bool x.b,.string (qd x.m),.bool x.d,.string (qd x.k),.slice q1 x.loc.length d1,.string (qd s.data.toList),.bool false] #[.int .i64 0,.int .i64 0] 59 25;obtain⟨u0,u1,_⟩:=qv n2;have BB:=qb (b4.trans (bV.mono b4.size));have HB:=qb (HB3.out.trans (BB.out.mono HB3.out.size));have T1:=qb (t1.below bV);have T2:=qb (t2.below bV);have HN1:=qb n1;have HVV:=qb hV;clear n1 n2 bV sV hV b4 t1 t2 fr1 fr2;go_upto_region 3 with fail
  rw[HVV.out];(go_wp2_with fail);go_ret
  exact⟨by rw[qvp hf];rfl,HB.out⟩
 ·obtain ⟨⟨k,y,u,su,s0,e0,er0⟩,x2,x3⟩:=it;have hOK:=qwh (wrT q) _ (by rw[hc];exact List.mem_singleton.2 rfl)
  obtain⟨rb,lb,cb,_⟩:=hT;dsimp only at rb lb cb hOK hc hq;obtain⟨r2,c2,rfl,_⟩:=id rb;obtain⟨q2,d2,rfl,_⟩:=id lb;have HONE:Hid ((clV ⟨k,y,u,su,s0,e0,er0⟩ (.slice r2 y.rel.length c2) (.slice q2 y.loc.length d2)).all (·.oneCell')=true):=qb (by have:=all_oneCell_toArray (qjd (c:=⟨k,y,u,su,s0,e0,er0⟩) rb lb);simpa using this)
  have HR:=qb (HT.out _ hc hq);dsimp only at HR;have hk:=hOK.k8;dsimp only at hk;have hu:(qd u).size≤maxLen:=by
   have:=hOK.tl;rw[qn];unfold maxLen;dsimp only at this;omega
  have hyv:k≠7→VerOK y:=fun h=>by have:=hOK.ver h;dsimp only at this;rw[this.2];exact qnz this.1
  have hcp:k=0→y.rel.length≤c2:=fun h=>by
   have h2:=hOK.two h;dsimp only at h2;obtain⟨b,off,e1,_⟩:=rb.some (by omega)
   exact(cb _ _ _ (by rw[e1])).2
  have h2l:k=0→2≤y.rel.length:=hOK.two;dsimp only;go_step
  go_step
  go_step
  go_step
  go_step
  go_step
  go_step
  go_step
  go_step
  go_step
  refine qdh rfl rfl ?_;have hZ:=qbsr w1 (.cells Z61 61);refine wpList_store_mid rfl 61 (.tmp 5) (.tmp 12) rfl w1.heap.size 0 #[.string (qd (sgn k)),fnV (rdF k),fnV (hoF k),.bool (opB k),.string (qd y.ep),.slice r2 y.rel.length c2,.int .u8 y.c,.string (qd y.n),.bool y.b,.string (qd y.m),.bool y.d,.string (qd y.k),.slice q2 y.loc.length d2,.string (qd u),.bool su,.int .i64 (s0:Int),.int .i64 (e0:Int),.int .i64 er0] rfl rfl (qcf hZ (qbst 18)) qcs HONE.out ?_;obtain⟨n3,hT⟩:=qgf (c:=#[.string (qd (sgn k)),fnV (rdF k),fnV (hoF k),.bool (opB k),.string (qd y.ep),.slice r2 y.rel.length c2,.int .u8 y.c,.string (qd y.n),.bool y.b,.string (qd y.m),.bool y.d,.string (qd y.k),.slice q2 y.loc.length d2,.string (qd u),.bool su,.int .i64 (s0:Int),.int .i64 (e0:Int),.int .i64 er0]) hZ rfl;have hal:=((Below.refl w1.heap.size w1).alloc (qbst _) (.cells Z61 61)).trans (hT.below (qbst _) (Nat.le_of_lt (qbsp.1 hZ).1));generalize (w1.alloc (.cells Z61 61)).setCells _ _ _=W3 at *;have bb:=b1.trans (hal.mono b1.size);have HB3:=qb (hb0.trans (bb.mono hb0.size));clear hZ hT;(go_wp2_with fail);refine(RV.out _).mono ?_;rintro e w4 ⟨b4,vr,vl,rfl,t1,t2,fr1,fr2⟩;obtain⟨r1,c1,rfl,_⟩:=id t1;obtain⟨q1,d1,rfl,_⟩:=id t2;unfold verV
  obtain ⟨V,hV,n1,n2,bV,sV⟩:=ql w4 #[.string (qd x.ep),.slice r1 x.rel.length c1,.int .u8 x.c,.string (qd x.n),.bool x.b,.string (qd x.m),.bool x.d,.string (qd x.k),.slice q1 x.loc.length d1,.string (qd s.data.toList),.bool false] #[.int .i64 0,.int .i64 0] 59 25;obtain⟨u0,u1,_⟩:=qv n2;have BB:=qb (b4.trans (bV.mono b4.size));have HB:=qb (HB3.out.trans (BB.out.mono HB3.out.size));have T1:=qb (t1.below bV);have T2:=qb (t2.below bV);have HN1:=qb n1;have HVV:=qb hV;have hne:Hid (r1=none→c1=0):=qb fun h=>by
   obtain⟨b,off,e1,_⟩:=T1.out.some (List.length_pos_iff.2 hx.fit.f2);rw[h]at e1;cases e1
  have bz:=BB.out;have HH:=qb (qzb k hk x y r1 r2 q1 q2 c1 c2 d1 d2 (qd s.data.toList) (qd u) false su V T1.out ((rb.below hal).below bz) T2.out ((lb.below hal).below bz) hx hne.out hyv hcp h2l (by rw[qn,qg];unfold maxLen;omega) hu)
  have HK:=qb ((bz.block _ (qbsp.1 n3).1).trans n3);rw[qj,qj]at HH;clear n1 n2 bV sV hV b4 t1 t2 fr1 fr2 rb lb cb hu hyv hcp h2l hal n3 bb bz hOK hc hq hx;obtain⟨s0',s1,s2,s3,s4,s5,s6,s7,s8,s9,s10,_⟩:=qh HN1.out;obtain⟨z0,z1,z2,z3,z4,z5,z6,z7,z8,z9,z10,z11,z12,z13,z14,z15,z16,z17⟩:=seen18c HK.out;go_upto_region 3 with fail
  rw[HVV.out]
  match k,hk with
  | 0,_=>
   replace z2:V.cell? ⟨w1.heap.size,2,none⟩=some (.func (.func 150) #[] #[]):=z2;(go_wp2_with fail);refine(HH.out).mono ?_;rintro e w7 ⟨rfl,b7⟩;(go_wp2_with fail);go_ret
   exact⟨by rw[HR.out];rfl,HB.out.trans (b7.mono HB.out.size)⟩
  | 1,_=>
   replace z2:V.cell? ⟨w1.heap.size,2,none⟩=some (.func (.func 152) #[] #[]):=z2;(go_wp2_with fail);refine(HH.out).mono ?_;rintro e w7 ⟨rfl,b7⟩;(go_wp2_with fail);go_ret
   exact⟨by rw[HR.out];rfl,HB.out.trans (b7.mono HB.out.size)⟩
  | 2,_=>
   replace z2:V.cell? ⟨w1.heap.size,2,none⟩=some (.func (.func 153) #[] #[]):=z2;(go_wp2_with fail);refine(HH.out).mono ?_;rintro e w7 ⟨rfl,b7⟩;(go_wp2_with fail);go_ret
   exact⟨by rw[HR.out];rfl,HB.out.trans (b7.mono HB.out.size)⟩
  | 3,_=>
   replace z2:V.cell? ⟨w1.heap.size,2,none⟩=some (.func (.func 155) #[] #[]):=z2;(go_wp2_with fail);refine(HH.out).mono ?_;rintro e w7 ⟨rfl,b7⟩;(go_wp2_with fail);go_ret
   exact⟨by rw[HR.out];rfl,HB.out.trans (b7.mono HB.out.size)⟩
  | 4,_=>
   replace z2:V.cell? ⟨w1.heap.size,2,none⟩=some (.func (.func 156) #[] #[]):=z2;(go_wp2_with fail);refine(HH.out).mono ?_;rintro e w7 ⟨rfl,b7⟩;(go_wp2_with fail);go_ret
   exact⟨by rw[HR.out];rfl,HB.out.trans (b7.mono HB.out.size)⟩
  | 5,_=>
   replace z2:V.cell? ⟨w1.heap.size,2,none⟩=some (.func (.func 157) #[] #[]):=z2;(go_wp2_with fail);refine(HH.out).mono ?_;rintro e w7 ⟨rfl,b7⟩;(go_wp2_with fail);go_ret
   exact⟨by rw[HR.out];rfl,HB.out.trans (b7.mono HB.out.size)⟩
  | 6,_=>
   replace z2:V.cell? ⟨w1.heap.size,2,none⟩=some (.func (.func 158) #[] #[]):=z2;(go_wp2_with fail);refine(HH.out).mono ?_;rintro e w7 ⟨rfl,b7⟩;(go_wp2_with fail);go_ret
   exact⟨by rw[HR.out];rfl,HB.out.trans (b7.mono HB.out.size)⟩
  | 7,_=>
   replace z2:V.cell? ⟨w1.heap.size,2,none⟩=some (.func (.func 160) #[] #[]):=z2;(go_wp2_with fail);refine(HH.out).mono ?_;rintro e w7 ⟨rfl,b7⟩;(go_wp2_with fail);go_ret
   exact⟨by rw[HR.out];rfl,HB.out.trans (b7.mono HB.out.size)⟩
theorem qbhr (q:Tri) (s:QY) (w:World) (h0:q.1.length≤10000000) (h1:q.2.1.length≤10000000) (hs:s.size≤140737488351232) :
  Calls Tryz.prog 16 #[triV q,.string s] w fun e w'=>e=.returned (.bool (qls q s.data.toList))∧Below w.heap.size w w':=by
 cases ho:okP s.data.toList
 ·exact qblj q s w h0 h1 hs ho
 ·exact qbkl q s w h0 h1 hs ho
end Go.Proofs.YtabmfdedbpmfmaaGreat
