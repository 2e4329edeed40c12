/- Walks: the document's Match. -/
import Derived.Deep.Cut
import Derived.Test.YtabmfdedbpmfmaaGreatVKf
import Derived.Test.YtabmfdedbpmfmaaGreatVKd
import Derived.Test.YtabmfdedbpmfmaaGreatVGl
import Derived.Test.YtabmfdedbpmfmaaGreatVJg
namespace Go.Proofs.YtabmfdedbpmfmaaGreat
open Go.RowKit Go.Shelf
open _root_.Array renaming getElem?_eq_some_iff → qbth
set_option linter.unusedVariables false
set_option maxHeartbeats 8000000
set_option maxRecDepth 100000
theorem qbks (q:Tri) (s:QY) (w:World) (ho:okP s.data.toList=false) :
  Calls Tryz.prog 17 #[triV q,.string s] w fun e w'=>e=.returned (.bool false)∧Below w.heap.size w w':=by
 have RV:=qb (fun W=>qct s W ho);have hne:(errX s.data.toList).1≠0:=by simpa using qcx _ ho
 generalize (errX s.data.toList).1=e1 at *;generalize (errX s.data.toList).2=p1 at *;unfold pepZ at RV;unfold triV;have hb0:Below w.heap.size w (w.alloc (.cells #[.string (qd q.1),.string (qd q.2.1),.bool q.2.2] 32)):=(Below.refl _ w).alloc (Nat.le_refl _) _;have m1:(e1 != 0)=true:=by simpa using hne
 have m2:(e1==0)=false:=by simpa using hne
 clear ho hne;go_enter Tryz.func17,Tryz.ntmps17
 (go_wp2_with fail);generalize w.alloc _=W0 at *;refine(RV.out _).mono ?_;rintro e w1 ⟨rfl,b1⟩;obtain⟨V,hV,n1,n2,bV,sV⟩:=qm w1 #[.string ⟨#[]⟩,.slice none 0 0,.int .u8 0,.string ⟨#[]⟩,.bool false,.string ⟨#[]⟩,.bool false,.string ⟨#[]⟩,.slice none 0 0] #[.int .i64 e1,.int .i64 (p1:Int)] 44 25;obtain⟨u0,u1,_⟩:=qv n2;have HB:=qb (hb0.trans ((b1.trans (bV.mono b1.size)).mono hb0.size));have HVV:=qb hV;clear n1 n2 bV sV hV b1 hb0;go_upto_region 2 with fail
 rw[HVV.out];(go_wp2_with fail);go_ret
 exact⟨rfl,HB.out⟩
theorem qbqj (q:Tri) (x:PepL) (s:QY) (w:World) (PX:∀ W,Calls Tryz.prog 25 #[.string s] W (qns x W))
  (FT:∀ W,Calls Tryz.prog 37 #[.agg #[.string (qd q.1),.string (qd q.2.1),.bool q.2.2]] W fun e w'=>e=.returned (.bool false)∧Below W.heap.size W w') :
  Calls Tryz.prog 17 #[triV q,.string s] w fun e w'=>e=.returned (.bool false)∧Below w.heap.size w w':=by
 unfold triV;have n0:=World.alloc_heap_new w (.cells #[.string (qd q.1),.string (qd q.2.1),.bool q.2.2] 32);have hb0:Below w.heap.size w (w.alloc (.cells #[.string (qd q.1),.string (qd q.2.1),.bool q.2.2] 32)):=(Below.refl _ w).alloc (Nat.le_refl _) _;have PX:=qb PX;have FT:=qb FT;go_enter Tryz.func17,Tryz.ntmps17
 (go_wp2_with fail);generalize w.alloc _=W0 at *;refine(PX.out _).mono ?_;rintro e w1 ⟨r1,c1,q1,d1,rfl,ra,la,hn,hc1,b1⟩;obtain⟨V,hV,n1,n2,bV,sV⟩:=qm w1 #[.string (qd x.ep),.slice r1 x.rel.length c1,.int .u8 x.c,.string (qd x.n),.bool x.b,.string (qd x.m),.bool x.d,.string (qd x.k),.slice q1 x.loc.length d1] #[.int .i64 0,.int .i64 0] 44 25;obtain⟨u0,u1,_⟩:=qv n2;have M1:=qb ((bV.block _ (Nat.lt_of_lt_of_le (qbth.1 n0).1 b1.size)).trans ((b1.block _ (qbth.1 n0).1).trans n0));have HB1:=qb ((hb0.trans (b1.mono hb0.size)).trans (bV.mono (hb0.trans (b1.mono hb0.size)).size));have HVV:=qb hV;have p0:=qc 0 M1.out rfl;have p1:=qc 1 M1.out rfl;have p2:=qc 2 M1.out rfl;clear n0 hb0 PX ra la b1 hV n1 n2 bV hn hc1;go_upto_region 2 with fail
 rw[HVV.out];clear HVV;(go_wp2_with fail);refine(FT.out _).mono ?_;rintro e w2 ⟨rfl,b2⟩;have HB2:=qb (HB1.out.trans (b2.mono HB1.out.size));(go_wp2_with fail);go_ret
 exact⟨rfl,HB2.out⟩
theorem RHolds_7 (x:PepL) (s T:QY) (ST:Bool) (w:World) (hs:s.size≤maxLen) (hT:T.size≤maxLen) (PX:∀ W,Calls Tryz.prog 25 #[.string s] W (qns x W))
 (FT:∀ W,Calls Tryz.prog 37 #[.agg #[.string ⟨#[61,61,61]⟩,.string T,.bool ST]] W fun e w'=>e=.returned (.bool true)∧Below W.heap.size W w') :
 Calls Tryz.prog 17 #[.agg #[.string ⟨#[61,61,61]⟩,.string T,.bool ST],.string s] w fun e w'=>e=.returned (.bool (s.data.toList.map lowC==T.data.toList.map lowC))∧Below w.heap.size w w':=by
  have L1:=qb (fun W=>qlk s W hs);have L2:=qb (fun W=>qlk T W hT);have heq:=qbjs (s.data.toList.map lowC) (T.data.toList.map lowC);generalize s.data.toList.map lowC=A at *;generalize T.data.toList.map lowC=B at *;generalize hR:(A==B)=R at *;have n0:=World.alloc_heap_new w (.cells #[.string ⟨#[61,61,61]⟩,.string T,.bool ST] 32);have hb0:Below w.heap.size w (w.alloc (.cells #[.string ⟨#[61,61,61]⟩,.string T,.bool ST] 32)):=(Below.refl _ w).alloc (Nat.le_refl _) _;have PX:=qb PX;have FT:=qb FT;go_enter Tryz.func17,Tryz.ntmps17
  (go_wp2_with fail);generalize w.alloc _=W0 at *;refine(PX.out _).mono ?_;rintro e w1 ⟨r1,c1,q1,d1,rfl,ra,la,hn,hc1,b1⟩;obtain⟨V,hV,n1,n2,bV,sV⟩:=qm w1 #[.string (qd x.ep),.slice r1 x.rel.length c1,.int .u8 x.c,.string (qd x.n),.bool x.b,.string (qd x.m),.bool x.d,.string (qd x.k),.slice q1 x.loc.length d1] #[.int .i64 0,.int .i64 0] 44 25;obtain⟨u0,u1,_⟩:=qv n2;have M1:=qb ((bV.block _ (Nat.lt_of_lt_of_le (qbth.1 n0).1 b1.size)).trans ((b1.block _ (qbth.1 n0).1).trans n0));have HB1:=qb ((hb0.trans (b1.mono hb0.size)).trans (bV.mono (hb0.trans (b1.mono hb0.size)).size));have HVV:=qb hV;have p0:=qc 0 M1.out rfl;have p1:=qc 1 M1.out rfl;have p2:=qc 2 M1.out rfl;clear n0 hb0 PX ra la b1 hV n1 n2 bV hn hc1;go_upto_region 2 with fail
  rw[HVV.out];clear HVV;(go_wp2_with fail);refine(FT.out _).mono ?_;rintro e w2 ⟨rfl,b2⟩;have HB2:=qb (HB1.out.trans (b2.mono HB1.out.size));have M2:=qb ((b2.block _ (qbth.1 M1.out).1).trans M1.out);clear p0 p1 p2 u0 u1 M1 HB1 b2 FT;have p0:=qc 0 M2.out rfl;have p1:=qc 1 M2.out rfl;have p2:=qc 2 M2.out rfl;go_upto_region 5 with fail
  have HD:=qb (Below.refl w2.heap.size w2).drew;have MD:=qb ((HD.out.block _ (qbth.1 M2.out).1).trans M2.out);have d1:=qc 1 MD.out rfl
  go_region_held3 (fun w'=>w'.cell? ⟨w.heap.size,1,none⟩=some (.string T)) (go_keep)
    ((first
      | (
         go_at_call_of 38 (Value.string s);refine(L1.out _).mono ?_;rintro e wy ⟨rfl,hby⟩
         have HBy:=qb (HD.out.trans (hby.mono HD.out.size));have MY:=qb ((HBy.out.block _ (qbth.1 M2.out).1).trans M2.out);have d2:=qc 1 MY.out rfl)
      | (
         go_at_call_of 38 (Value.string T);refine(L2.out _).mono ?_;rintro e wz ⟨rfl,hbz⟩
         have HBz:=qb (HBy.out.trans (hbz.mono HBy.out.size));have MZ:=qb ((HBz.out.block _ (qbth.1 M2.out).1).trans M2.out);have d3:=qc 1 MZ.out rfl)
      | fail))
  all_goals
    (go_wp2_with fail);go_ret
    exact⟨by first|rfl|simp[hR],HB2.out.trans (HBz.out.mono HB2.out.size)⟩
theorem qqj (q:Tri) (s:QY) (w:World) (h0:q.1.length≤10000000) (h1:q.2.1.length≤10000000) (hs:s.size≤maxLen) :
  Calls Tryz.prog 17 #[triV q,.string s] w fun e w'=>e=.returned (.bool (qdp q s.data.toList))∧Below w.heap.size w w':=by
 cases ho:okP s.data.toList
 ·rw[qbqb ho];exact qbks q s w ho
 ·cases hf:fitT q
  ·rw[holdT_no hf];exact qbqj q _ s w (fun W=>qfx s W ho) (fun W=>by have:=qrp q W h0 h1;rw[hf]at this;exact this)
  ·obtain ⟨c,hc,hq⟩:=qbnl hf;have hOK:=qbbz (wrT q) _ (by rw[hc];exact List.mem_singleton.2 rfl)
   rw [qbfr hc hq ho];have FT:=fun W=>qrp q W h0 h1;rw[hf]at FT;subst hq;clear hc hf;obtain⟨k,y,u,su,s0,e0,er0⟩:=c;have hk:=hOK.k8;have htl:=hOK.tl;have hver:=hOK.ver;have htwo:=hOK.two;dsimp only[triC]at FT h1 hk htl hver htwo ⊢;have PX:=fun W=>qfx s W ho;have hx:=qtk ho;generalize ql (qk s.data.toList)=x at *;have PY:k≠7→∀ W,Calls Tryz.prog 25 #[.string (qd u)] W (qns y W):=fun h W=>by
    have h2:=hver h;have:=qfx (qd u) W (by rw[qj];exact h2.1)
    rwa [qj,←h2.2]at this
   have hy:k≠7→VerOK y:=fun h=>by have:=hver h;rw[this.2];exact qtk this.1
   clear hOK hver ho;rcases(show k<7∨k=7 by omega)with h7|rfl
   ·have:=RHolds_k k h7 x y s (qd u) su w hx (hy (by omega)) htwo PX (PY (by omega)) FT
    rw[qj]at this;exact this
   ·have:=RHolds_7 x s (qd u) su w hs (by rw[qr];unfold maxLen;omega) PX FT
    rw[qj]at this;exact this
open Go.RowKit renaming Below → QE
open Go.Proofs.Tryz (prog)
set_option maxHeartbeats 4000000
set_option maxRecDepth 100000
theorem wrT_tri (c:Cl):wrT (triC c)=wrC c:=by unfold wrT wrC wdC triC;rw[List.append_assoc]
theorem wrC_in:∀ (cs:List Cl) (c:Cl),c∈cs→(wrC c).length≤(wrL cs).length
 | [],c,h=>by cases h
 | d::r,c,h=>by
  obtain⟨rest,h1,h2,h3⟩:=qks d r;rw[h1,List.length_append];rcases List.mem_cons.1 h with rfl|h
  ·omega
  ·have ih:=wrC_in r c h;rw[h3 (by rintro rfl;cases h),List.length_cons]
   omega
theorem qbdm {l:QB} {p:Nat} {cs:List Cl} (h:pyL l=(0,p,cs)) {c:Cl} (hc:c∈cs):∃ d,(pyL (wrT (triC c))).2.2=[d]∧qhq d=qhq c:=by
 obtain ⟨h1,h2,h3,h4⟩:=py_wr h;have hl:(wrL [c]).length≤256:=by
  obtain⟨rest,e1,e2,_⟩:=qks c [];rw[e1,e2 rfl,List.append_nil];have:=wrC_in cs c hc;omega
 obtain⟨ds,e1,e2⟩:=py_back (cs:=[c]) (fun d hd=>h1 d (by rw[List.mem_singleton]at hd;rw[hd];exact hc)) (by simp) hl
 obtain⟨rest,f1,f2,_⟩:=qks c [];rw[f1,f2 rfl,List.append_nil]at e1;rw[wrT_tri,e1]
 match ds,e2 with
 | [d],e2=>exact⟨d,rfl,by simpa using e2⟩
 | [],e2=>cases e2
 | a::b::r,e2=>simp at e2
theorem qbmw {c d:Cl} (h:qhq d=qhq c):d.k=c.k∧d.x=c.x∧d.t=c.t∧d.st=c.st:=by
 unfold qhq at h;simpa using h
theorem qbrf {l:QB} {p:Nat} {cs:List Cl} (h:pyL l=(0,p,cs)):qlv (cs.map triC)=cs.any qmd:=by
 unfold qlv;rw[List.any_map];apply Bool.eq_iff_iff.2;simp only[List.any_eq_true,Function.comp];refine exists_congr fun c=>and_congr_right fun hc=>?_;obtain⟨d,h1,h2⟩:=qbdm h hc;obtain⟨e1,e2,e3,e4⟩:=qbmw h2;rw[qbgv h1 (by unfold triC;rw[e1,e3,e4])]
 unfold qmd;rw[e1,e2]
theorem qbrq {l u:QB} {p:Nat} {cs:List Cl} (h:pyL l=(0,p,cs)) (ho:okP u=true):(cs.map triC).any (fun q=>!qdp q u)=cs.any (fun c=>!qfp c.k (ql (qk u)) u c.x c.t c.st):=by
 rw[List.any_map];apply Bool.eq_iff_iff.2;simp only[List.any_eq_true,Function.comp];refine exists_congr fun c=>and_congr_right fun hc=>?_;obtain⟨d,h1,h2⟩:=qbdm h hc;obtain⟨e1,e2,e3,e4⟩:=qbmw h2;rw[qbfr h1 (by unfold triC;rw[e1,e3,e4]) ho,e1,e2,e3,e4]
theorem sgn_le (k:Nat):(sgn k).length≤3:=by unfold sgn;split<;>decide
theorem qblq (l:QB):qjr ((pyL l).2.2.map triC):=by
 refine⟨by have:=qbcj l;rw[List.length_map];omega,fun q hq=>?_⟩
 obtain⟨c,hc,rfl⟩:=List.mem_map.1 hq;have h1:=(qbbz l c hc).tl;have h2:=sgn_le c.k;exact⟨by show(sgn c.k).length≤_;omega,by show c.t.length≤_;omega⟩
theorem qbkr (l u:QB):qcd l u=(decide ((pyL l).1=0)&&(okP u&&(!(preP (ql (qk u))&&!qlv ((pyL l).2.2.map triC))&&!((pyL l).2.2.map triC).any (fun q=>!qdp q u)))):=by
 unfold qcd;rcases hp:pyL l with ⟨er,p,cs⟩;dsimp only
 by_cases h0:er=0
 ·subst h0;unfold qlb;cases ho:okP u
  ·rfl
  ·rw[qbrf hp,qbrq hp ho]
 ·rw[decide_eq_false h0,Bool.false_and,Bool.false_and]
theorem qbrn (s t:QY) (w:World) (er:Int) (p:Nat) (cs:List Cl) (RR:Bool) (ho:okP t.data.toList=false) (P31:∀ W,Calls prog 31 #[.string s] W (qgk (er,p,cs) W)) (hR:RR=false):Calls prog 23 #[.string s,.string t] w fun e w'=>e=.returned (.bool RR)∧QE w.heap.size w w':=by
 have HR:=qb hR;have P31:=qb P31;unfold qgk at P31;dsimp only at P31;have RV:=qb (fun W=>qct t W ho);have hne:(errX t.data.toList).1≠0:=by simpa using qcx _ ho
 generalize (errX t.data.toList).1=e1 at *;generalize (errX t.data.toList).2=p1 at *;unfold pepZ at RV;have m1:(e1 != 0)=true:=by simpa using hne
 have m2:(e1==0)=false:=by simpa using hne
 clear hR ho hne
 by_cases he:er=0
 ·subst he;go_enter Tryz.func23,Tryz.ntmps23
  (go_wp2_with fail);refine(P31.out _).mono ?_;rintro e w2 ⟨b2,v2,rfl,hv2,_⟩;obtain⟨a2,k2,rfl,_⟩:=id hv2;have HB2:=qb b2;have H2:=qb hv2.tri;clear b2 hv2;(go_wp2_with fail);refine(RV.out _).mono ?_;rintro e w3 ⟨rfl,b3⟩;obtain⟨V,hV,n1,n2,bV,sV⟩:=qm w3 #[.string ⟨#[]⟩,.slice none 0 0,.int .u8 0,.string ⟨#[]⟩,.bool false,.string ⟨#[]⟩,.bool false,.string ⟨#[]⟩,.slice none 0 0] #[.int .i64 e1,.int .i64 (p1:Int)] 44 25;obtain⟨u0,u1,_⟩:=qv n2;have HB:=qb (HB2.out.trans ((b3.trans (bV.mono b3.size)).mono HB2.out.size));have HVV:=qb hV;clear n1 n2 bV sV hV b3;go_upto_region 3 with fail
  rw[HVV.out];(go_wp2_with fail);go_ret
  exact⟨by show Ending.returned (Value.bool false)=Ending.returned (Value.bool RR);rw[HR.out],HB.out⟩
 ·have he1:(er==0)=false:=by simpa using he
  have he2:(er != 0)=true:=by simpa using he
  go_enter Tryz.func23,Tryz.ntmps23
  (go_wp2_with fail);refine(P31.out _).mono ?_;rintro e w2 ⟨b2,v2,rfl,hv2,_⟩;obtain⟨a2,k2,rfl,_⟩:=id hv2;have HB2:=qb b2;have H2:=qb hv2.tri;clear b2 hv2;(go_wp2_with fail);refine(RV.out _).mono ?_;rintro e w3 ⟨rfl,b3⟩;obtain⟨V,hV,n1,n2,bV,sV⟩:=qm w3 #[.string ⟨#[]⟩,.slice none 0 0,.int .u8 0,.string ⟨#[]⟩,.bool false,.string ⟨#[]⟩,.bool false,.string ⟨#[]⟩,.slice none 0 0] #[.int .i64 e1,.int .i64 (p1:Int)] 44 25;obtain⟨u0,u1,_⟩:=qv n2;have HB:=qb (HB2.out.trans ((b3.trans (bV.mono b3.size)).mono HB2.out.size));have HVV:=qb hV;clear n1 n2 bV sV hV b3;go_upto_region 3 with fail
  rw[HVV.out];(go_wp2_with fail);go_ret
  exact⟨by show Ending.returned (Value.bool false)=Ending.returned (Value.bool RR);rw[HR.out],HB.out⟩
theorem qbln (s t:QY) (w:World) (er:Int) (p:Nat) (cs:List Cl) (RR:Bool) (x:PepL) (RV:∀ W,Calls prog 25 #[.string t] W (qns x W)) (he:er≠0) (P31:∀ W,Calls prog 31 #[.string s] W (qgk (er,p,cs) W)) (hR:RR=false):Calls prog 23 #[.string s,.string t] w fun e w'=>e=.returned (.bool RR)∧QE w.heap.size w w':=by
 have HR:=qb hR;have RV:=qb RV;have P31:=qb P31;unfold qgk at P31;dsimp only at P31;have he1:(er==0)=false:=by simpa using he
 have he2:(er != 0)=true:=by simpa using he
 clear hR;go_enter Tryz.func23,Tryz.ntmps23
 (go_wp2_with fail);refine(P31.out _).mono ?_;rintro e w2 ⟨b2,v2,rfl,hv2,_⟩;obtain⟨a2,k2,rfl,_⟩:=id hv2;have HB2:=qb b2;have H2:=qb hv2.tri;clear b2 hv2;(go_wp2_with fail);refine(RV.out _).mono ?_;rintro e w3 ⟨r1,c1,q1,d1,rfl,ra,la,_,_,b3⟩;obtain⟨W5,hV,n1,n2,bV,sV⟩:=qm w3 #[.string (qd x.ep),.slice r1 x.rel.length c1,.int .u8 x.c,.string (qd x.n),.bool x.b,.string (qd x.m),.bool x.d,.string (qd x.k),.slice q1 x.loc.length d1] #[.int .i64 0,.int .i64 0] 44 25;obtain⟨u0,u1,_⟩:=qv n2;obtain⟨s0,s1,s2,s3,s4,s5,s6,s7,s8,_⟩:=qbw n1;have bb:=b3.trans (bV.mono b3.size);have HB5:=qb (HB2.out.trans (bb.mono HB2.out.size));have H5:=qb (H2.out.below bb);have HP:=qb (qnq x r1 q1 c1 d1 W5 (ra.below bV) (la.below bV));have HVV:=qb hV;clear n1 n2 bV sV hV b3 bb ra la;go_upto_region 3 with fail
 rw[HVV.out];clear HVV;(go_wp2_with fail);go_ret
 exact⟨by show Ending.returned (Value.bool false)=Ending.returned (Value.bool RR);rw[HR.out],HB5.out⟩
theorem qbqr (s t:QY) (w:World) (er:Int) (p:Nat) (cs:List Cl) (RR:Bool) (x:PepL) (RV:∀ W,Calls prog 25 #[.string t] W (qns x W)) (hp:preP x=false) (he:er=0) (qs:List Tri) (hqs:cs.map triC=qs) (hs:qjr qs) (P31:∀ W,Calls prog 31 #[.string s] W (qgk (er,p,cs) W)) (ht:t.size≤140737488351232) (hR:RR=!qs.any (fun q=>!qdp q t.data.toList)):Calls prog 23 #[.string s,.string t] w fun e w'=>e=.returned (.bool RR)∧QE w.heap.size w w':=by
 have HR:=qb hR;have HS:=qb hs;have RV:=qb RV;subst he;have P31:=qb P31;unfold qgk at P31;dsimp only at P31;have hql:qs.length=cs.length:=by rw[←hqs,List.length_map]
 clear hR hs;go_enter Tryz.func23,Tryz.ntmps23
 (go_wp2_with fail);refine(P31.out _).mono ?_;rintro e w2 ⟨b2,v2,rfl,hv2,_⟩;obtain⟨a2,k2,rfl,_⟩:=id hv2;have HB2:=qb b2;have H2:=qb hv2.tri;clear b2 hv2;(go_wp2_with fail);refine(RV.out _).mono ?_;rintro e w3 ⟨r1,c1,q1,d1,rfl,ra,la,_,_,b3⟩;obtain⟨W5,hV,n1,n2,bV,sV⟩:=qm w3 #[.string (qd x.ep),.slice r1 x.rel.length c1,.int .u8 x.c,.string (qd x.n),.bool x.b,.string (qd x.m),.bool x.d,.string (qd x.k),.slice q1 x.loc.length d1] #[.int .i64 0,.int .i64 0] 44 25;obtain⟨u0,u1,_⟩:=qv n2;obtain⟨s0,s1,s2,s3,s4,s5,s6,s7,s8,_⟩:=qbw n1;have bb:=b3.trans (bV.mono b3.size);have HB5:=qb (HB2.out.trans (bb.mono HB2.out.size));have H5:=qb (H2.out.below bb);have HP:=qb (qnq x r1 q1 c1 d1 W5 (ra.below bV) (la.below bV));have HVV:=qb hV;clear n1 n2 bV sV hV b3 bb ra la;go_upto_region 3 with fail
 rw[HVV.out];clear HVV;rw[hqs,←hql]at H5;rw[hp]at HP;rw[←hql];(go_wp2_with fail);refine(HP.out).mono ?_;rintro e w6 ⟨rfl,b6⟩;have HB5:=qb (HB5.out.trans (b6.mono HB5.out.size));have H5:=qb (H5.out.below b6);clear hp HP;have hn:=HS.out.1;(go_wp2_with fail);go_loopw [10] (fun z wr=>∃ i:Nat,i≤qs.length∧z=.int .i64 (i:Int)∧Hid ((qs.take i).any (fun q=>!qdp q t.data.toList)=false)∧QE w.heap.size w wr∧Hid (QE w6.heap.size w6 wr)) (fun z _=>qs.length-(intOf z).toNat)
 case atStart=>exact⟨0,Nat.zero_le _,rfl,rfl,HB5.out,qb (Below.refl _ _)⟩
 case round=>
  obtain⟨i,hi,rfl,HA,hb,HB6⟩:=hrel
  by_cases hin:i<qs.length
  ·have hin':(i:Int)<(qs.length:Int):=by omega
   obtain⟨_,_,he,hA⟩:=(H5.out.below HB6.out);obtain⟨g1,o1,ha,hg,p0,p1,p2⟩:=hA i hin;cases he;subst ha;have hsm:=HS.out.2 qs[i] (List.getElem_mem hin);have H17:=qb (fun W=>qqj qs[i] t W hsm.1 hsm.2 (by unfold maxLen;omega))
   have HTK:Hid ((qs.take (i+1)).any (fun q=>!qdp q t.data.toList)=((qs.take i).any (fun q=>!qdp q t.data.toList)||!qdp qs[i] t.data.toList)):=qb (qlz (fun q=>!qdp q t.data.toList) qs i hin);have HF:Hid (qdp qs[i] t.data.toList=false→qs.any (fun q=>!qdp q t.data.toList)=true):=qb (fun h=>qhz (fun q=>!qdp q t.data.toList) qs i hin (by simp[h]))
   unfold triV at H17;clear hA hsm;generalize qs[i]=q at *;cases hP:qdp q t.data.toList
   ·rw[hP]at H17;have HF2:=qb (HF.out hP);clear hP HF HTK;(go_wp2_with fail);refine(H17.out _).mono ?_;rintro e w7 ⟨rfl,b7⟩;have HB7:=qb (hb.trans (b7.mono hb.size));clear b7;(go_wp2_with fail);go_ret
    exact⟨by show Ending.returned (Value.bool false)=Ending.returned (Value.bool RR);rw[HR.out,HF2.out];rfl,HB7.out⟩
   ·rw[hP]at H17 HTK;clear hP HF;(go_wp2_with fail);refine(H17.out _).mono ?_;rintro e w7 ⟨rfl,b7⟩;have HB7:=qb (hb.trans (b7.mono hb.size));have HB8:=qb (HB6.out.trans (b7.mono HB6.out.size));clear b7;(go_wp2_with fail);go_roundw
    case rel=>exact⟨i+1,by omega,by go_num,by show _=_;rw[HTK.out,HA.out];rfl,HB7.out,HB8⟩
    case measure=>simp[intOf];omega
  ·have hin':¬ (i:Int)<(qs.length:Int):=by omega
   obtain rfl:i=qs.length:=by omega
   have HE:=HA.out;rw[List.take_length]at HE;replace HE:=qb HE;(go_wp2_with fail);go_ret
   exact⟨by show Ending.returned (Value.bool true)=Ending.returned (Value.bool RR);rw[HR.out,HE.out];rfl,hb⟩
theorem qbkw (s t:QY) (w:World) (er:Int) (p:Nat) (cs:List Cl) (RR:Bool) (x:PepL) (RV:∀ W,Calls prog 25 #[.string t] W (qns x W)) (hp:preP x=true) (he:er=0) (qs:List Tri) (hqs:cs.map triC=qs) (hs:qjr qs) (hl:qlv qs=false) (P31:∀ W,Calls prog 31 #[.string s] W (qgk (er,p,cs) W)) (hR:RR=false):Calls prog 23 #[.string s,.string t] w fun e w'=>e=.returned (.bool RR)∧QE w.heap.size w w':=by
 have HR:=qb hR;have RV:=qb RV;have P19:∀ v W,qqd W v qs→Calls prog 19 #[v] W fun e w'=>e=.returned (.bool false)∧QE W.heap.size W w':=fun v W h=>by have:=qwv v qs W h hs;rw[hl]at this;exact this
 replace P19:=qb P19;subst he;have P31:=qb P31;unfold qgk at P31;dsimp only at P31;have hql:qs.length=cs.length:=by rw[←hqs,List.length_map]
 clear hR hs hl;go_enter Tryz.func23,Tryz.ntmps23
 (go_wp2_with fail);refine(P31.out _).mono ?_;rintro e w2 ⟨b2,v2,rfl,hv2,_⟩;obtain⟨a2,k2,rfl,_⟩:=id hv2;have HB2:=qb b2;have H2:=qb hv2.tri;clear b2 hv2;(go_wp2_with fail);refine(RV.out _).mono ?_;rintro e w3 ⟨r1,c1,q1,d1,rfl,ra,la,_,_,b3⟩;obtain⟨W5,hV,n1,n2,bV,sV⟩:=qm w3 #[.string (qd x.ep),.slice r1 x.rel.length c1,.int .u8 x.c,.string (qd x.n),.bool x.b,.string (qd x.m),.bool x.d,.string (qd x.k),.slice q1 x.loc.length d1] #[.int .i64 0,.int .i64 0] 44 25;obtain⟨u0,u1,_⟩:=qv n2;obtain⟨s0,s1,s2,s3,s4,s5,s6,s7,s8,_⟩:=qbw n1;have bb:=b3.trans (bV.mono b3.size);have HB5:=qb (HB2.out.trans (bb.mono HB2.out.size));have H5:=qb (H2.out.below bb);have HP:=qb (qnq x r1 q1 c1 d1 W5 (ra.below bV) (la.below bV));have HVV:=qb hV;clear n1 n2 bV sV hV b3 bb ra la;go_upto_region 3 with fail
 rw[HVV.out];clear HVV;rw[hqs,←hql]at H5;rw[hp]at HP;rw[←hql];(go_wp2_with fail);refine(HP.out).mono ?_;rintro e w6 ⟨rfl,b6⟩;have HB6:=qb (HB5.out.trans (b6.mono HB5.out.size));have HQ:=qb (P19.out (.slice a2 cs.length k2) w6 (by rw[←hql];exact H5.out.below b6))
 (go_wp2_with fail);refine(HQ.out).mono ?_;rintro e w7 ⟨rfl,b7⟩;have HB7:=qb (HB6.out.trans (b7.mono HB6.out.size));(go_wp2_with fail);go_ret
 exact⟨by show Ending.returned (Value.bool false)=Ending.returned (Value.bool RR);rw[HR.out],HB7.out⟩
theorem qblt (s t:QY) (w:World) (er:Int) (p:Nat) (cs:List Cl) (RR:Bool) (x:PepL) (RV:∀ W,Calls prog 25 #[.string t] W (qns x W)) (hp:preP x=true) (he:er=0) (qs:List Tri) (hqs:cs.map triC=qs) (hs:qjr qs) (hl:qlv qs=true) (P31:∀ W,Calls prog 31 #[.string s] W (qgk (er,p,cs) W)) (ht:t.size≤140737488351232) (hR:RR=!qs.any (fun q=>!qdp q t.data.toList)):Calls prog 23 #[.string s,.string t] w fun e w'=>e=.returned (.bool RR)∧QE w.heap.size w w':=by
 have HR:=qb hR;have HS:=qb hs;have RV:=qb RV;have P19:∀ v W,qqd W v qs→Calls prog 19 #[v] W fun e w'=>e=.returned (.bool true)∧QE W.heap.size W w':=fun v W h=>by have:=qwv v qs W h hs;rw[hl]at this;exact this
 replace P19:=qb P19;subst he;have P31:=qb P31;unfold qgk at P31;dsimp only at P31;have hql:qs.length=cs.length:=by rw[←hqs,List.length_map]
 clear hR hs hl;go_enter Tryz.func23,Tryz.ntmps23
 (go_wp2_with fail);refine(P31.out _).mono ?_;rintro e w2 ⟨b2,v2,rfl,hv2,_⟩;obtain⟨a2,k2,rfl,_⟩:=id hv2;have HB2:=qb b2;have H2:=qb hv2.tri;clear b2 hv2;(go_wp2_with fail);refine(RV.out _).mono ?_;rintro e w3 ⟨r1,c1,q1,d1,rfl,ra,la,_,_,b3⟩;obtain⟨W5,hV,n1,n2,bV,sV⟩:=qm w3 #[.string (qd x.ep),.slice r1 x.rel.length c1,.int .u8 x.c,.string (qd x.n),.bool x.b,.string (qd x.m),.bool x.d,.string (qd x.k),.slice q1 x.loc.length d1] #[.int .i64 0,.int .i64 0] 44 25;obtain⟨u0,u1,_⟩:=qv n2;obtain⟨s0,s1,s2,s3,s4,s5,s6,s7,s8,_⟩:=qbw n1;have bb:=b3.trans (bV.mono b3.size);have HB5:=qb (HB2.out.trans (bb.mono HB2.out.size));have H5:=qb (H2.out.below bb);have HP:=qb (qnq x r1 q1 c1 d1 W5 (ra.below bV) (la.below bV));have HVV:=qb hV;clear n1 n2 bV sV hV b3 bb ra la;go_upto_region 3 with fail
 rw[HVV.out];clear HVV;rw[hqs,←hql]at H5;rw[hp]at HP;rw[←hql];(go_wp2_with fail);refine(HP.out).mono ?_;rintro e w6 ⟨rfl,b6⟩;have HQ:=qb (P19.out (.slice a2 cs.length k2) w6 (by rw[←hql];exact H5.out.below b6))
 have HB6:=qb (HB5.out.trans (b6.mono HB5.out.size));have H6:=qb (H5.out.below b6);(go_wp2_with fail);refine(HQ.out).mono ?_;rintro e w7 ⟨rfl,b7⟩;have HB5:=qb (HB6.out.trans (b7.mono HB6.out.size));have H5:=qb (H6.out.below b7);clear hp HP HQ b6 b7;have hn:=HS.out.1;(go_wp2_with fail);go_loopw [10] (fun z wr=>∃ i:Nat,i≤qs.length∧z=.int .i64 (i:Int)∧Hid ((qs.take i).any (fun q=>!qdp q t.data.toList)=false)∧QE w.heap.size w wr∧Hid (QE w7.heap.size w7 wr)) (fun z _=>qs.length-(intOf z).toNat)
 case atStart=>exact⟨0,Nat.zero_le _,rfl,rfl,HB5.out,qb (Below.refl _ _)⟩
 case round=>
  obtain⟨i,hi,rfl,HA,hb,HB6⟩:=hrel
  by_cases hin:i<qs.length
  ·have hin':(i:Int)<(qs.length:Int):=by omega
   obtain⟨_,_,he,hA⟩:=(H5.out.below HB6.out);obtain⟨g1,o1,ha,hg,p0,p1,p2⟩:=hA i hin;cases he;subst ha;have hsm:=HS.out.2 qs[i] (List.getElem_mem hin);have H17:=qb (fun W=>qqj qs[i] t W hsm.1 hsm.2 (by unfold maxLen;omega))
   have HTK:Hid ((qs.take (i+1)).any (fun q=>!qdp q t.data.toList)=((qs.take i).any (fun q=>!qdp q t.data.toList)||!qdp qs[i] t.data.toList)):=qb (qlz (fun q=>!qdp q t.data.toList) qs i hin);have HF:Hid (qdp qs[i] t.data.toList=false→qs.any (fun q=>!qdp q t.data.toList)=true):=qb (fun h=>qhz (fun q=>!qdp q t.data.toList) qs i hin (by simp[h]))
   unfold triV at H17;clear hA hsm;generalize qs[i]=q at *;cases hP:qdp q t.data.toList
   ·rw[hP]at H17;have HF2:=qb (HF.out hP);clear hP HF HTK;(go_wp2_with fail);refine(H17.out _).mono ?_;rintro e w8 ⟨rfl,b7⟩;have HB7:=qb (hb.trans (b7.mono hb.size));clear b7;(go_wp2_with fail);go_ret
    exact⟨by show Ending.returned (Value.bool false)=Ending.returned (Value.bool RR);rw[HR.out,HF2.out];rfl,HB7.out⟩
   ·rw[hP]at H17 HTK;clear hP HF;(go_wp2_with fail);refine(H17.out _).mono ?_;rintro e w8 ⟨rfl,b7⟩;have HB7:=qb (hb.trans (b7.mono hb.size));have HB8:=qb (HB6.out.trans (b7.mono HB6.out.size));clear b7;(go_wp2_with fail);go_roundw
    case rel=>exact⟨i+1,by omega,by go_num,by show _=_;rw[HTK.out,HA.out];rfl,HB7.out,HB8⟩
    case measure=>simp[intOf];omega
  ·have hin':¬ (i:Int)<(qs.length:Int):=by omega
   obtain rfl:i=qs.length:=by omega
   have HE:=HA.out;rw[List.take_length]at HE;replace HE:=qb HE;(go_wp2_with fail);go_ret
   exact⟨by show Ending.returned (Value.bool true)=Ending.returned (Value.bool RR);rw[HR.out,HE.out];rfl,hb⟩
theorem qqm (s t:QY) (w:World) (ht:t.size≤140737488351232):Calls prog 23 #[.string s,.string t] w fun e w'=>e=.returned (.bool (qcd s.data.toList t.data.toList))∧QE w.heap.size w w':=by
 have hR:=qbkr s.data.toList t.data.toList;have P31:=fun W=>qqs s W;have HS:=qblq s.data.toList;generalize qcd s.data.toList t.data.toList=RR at *;generalize pyL s.data.toList=R at *;obtain⟨er,p,cs⟩:=R;dsimp only at hR HS;cases ho:okP t.data.toList
 ·exact qbrn s t w er p cs RR ho P31 (by rw[hR,ho];simp)
 ·have RV:=fun W=>qfx t W ho;rw[ho,Bool.true_and]at hR;generalize ql (qk t.data.toList)=x at *
  by_cases he:er=0
  ·rw [decide_eq_true he,Bool.true_and]at hR;cases hp:preP x
   ·exact qbqr s t w er p cs RR x RV hp he _ rfl HS P31 ht (by rw[hR,hp];rfl)
   ·cases hl:qlv (cs.map triC)
    ·exact qbkw s t w er p cs RR x RV hp he _ rfl HS hl P31 (by rw[hR,hp,hl];rfl)
    ·exact qblt s t w er p cs RR x RV hp he _ rfl HS hl P31 ht (by rw[hR,hp,hl];rfl)
  ·exact qbln s t w er p cs RR x RV he P31 (by rw[hR,decide_eq_false he];rfl)
end Go.Proofs.YtabmfdedbpmfmaaGreat
