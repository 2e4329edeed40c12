/- Walks: the document's reader: numbers behind words, letters, -/
import Derived.Test.YtabmfdedbpmfmaaGreatUGhb
import Derived.Deep.Cut
import Derived.Test.YtabmfdedbpmfmaaGreatUGf
import Derived.Test.YtabmfdedbpmfmaaGreatUGlb
import Derived.Test.YtabmfdedbpmfmaaGreatUGb
import Derived.BigQuiet
import Derived.Deep.QuietTactic
import Derived.Test.YtabmfdedbpmfmaaGreatUPd
import Derived.Test.YtabmfdedbpmfmaaGreatUPg
namespace Go.Proofs.YtabmfdedbpmfmaaGreat
open Go.RowKit Go.Shelf
set_option linter.unusedVariables false
set_option maxHeartbeats 4000000
set_option maxRecDepth 100000
theorem qgx (s:QY) (w:World) (hs:s.size≤140737488351232) :
  Calls Tryz.prog 154 #[.string s] w (qds (qbp pubB s.data.toList) w):=by
 have P1:=qb (fun W=>qbcq s W hs);generalize qbp pubB s.data.toList=R at *;have R0:=RB.start w;cases R with
 | bad er p=>
  go_enter Tryz.func154,Tryz.ntmps154
  (go_wp2_with fail);refine(P1.out _).mono ?_;rintro e w1 ⟨b1,hne,st,rfl⟩
  try unfold zerV
  have HNE:=qb hne;have R2:=R0.below b1;have hlt:=R2.lt;obtain⟨x0,x1,x2,x3,x4,x5,x6,x7,x8,x9,x10,y0,y1,y2,y3,y4,y5,y6,y7,y8,y9,y10⟩:=qh R2.ver;obtain⟨f0,f1,g0,g1⟩:=qv R2.flt;obtain⟨W9,hW9,hRQ,hT9⟩:=R2.put13 (.string ⟨#[]⟩) (.slice none 0 0) (.int .u8 0) (.string ⟨#[]⟩) (.bool false) (.string ⟨#[]⟩) (.bool false) (.string ⟨#[]⟩) (.slice none 0 0) (.string ⟨#[]⟩) (.bool st) (.int .i64 er) (.int .i64 (p:Int));replace hW9:=hW9.symm;have RQ:=qb hRQ;clear hRQ hT9 R2 R0 b1 P1 hne;(go_wp2_with fail);refine fin154 _ _ w.heap.size (w.heap.size+1) _ _ _ _ _ _ _ _ _ _ _ _ _ ⟨_,_,_,rfl⟩ ⟨_,_,_,rfl⟩ rfl rfl RQ.out.ver RQ.out.flt ?_;exact⟨RQ.out.bel,HNE.out,st,rfl⟩
 | ok x t st=>
  go_enter Tryz.func154,Tryz.ntmps154
  (go_wp2_with fail);refine(P1.out _).mono ?_;rintro e w1 ⟨b1,vr,vl,rfl,t1,t2,fr1,fr2⟩;simp only[World.size_alloc]at fr1 fr2;obtain⟨r1,c1,rfl,_⟩:=id t1;obtain⟨q1,d1,rfl,_⟩:=id t2
  try unfold verV
  have R2:=R0.below b1;have hlt:=R2.lt;obtain⟨x0,x1,x2,x3,x4,x5,x6,x7,x8,x9,x10,y0,y1,y2,y3,y4,y5,y6,y7,y8,y9,y10⟩:=qh R2.ver;obtain⟨f0,f1,g0,g1⟩:=qv R2.flt;obtain⟨W9,hW9,hRQ,hT9⟩:=R2.put13 (.string (qd x.ep)) (.slice r1 x.rel.length c1) (.int .u8 x.c) (.string (qd x.n)) (.bool x.b) (.string (qd x.m)) (.bool x.d) (.string (qd x.k)) (.slice q1 x.loc.length d1) (.string (qd t)) (.bool st) (.int .i64 0) (.int .i64 0);have HW9:=qb hW9;have RQ:=qb hRQ;have TQ:=qb hT9;have T1:=qb t1;have T2:=qb t2;have F1:=qb fr1;have F2:=qb fr2;clear hRQ hT9 R2 R0 b1 P1 t1 t2 fr1 fr2 hW9;(go_wp2_with fail);rw[←HW9.out];refine fin154 _ _ w.heap.size (w.heap.size+1) _ _ _ _ _ _ _ _ _ _ _ _ _ ⟨_,_,_,rfl⟩ ⟨_,_,_,rfl⟩ rfl rfl RQ.out.ver RQ.out.flt ?_;exact⟨RQ.out.bel,_,_,rfl,TQ.out _ _ T1.out F1.out,TQ.out _ _ T2.out F2.out,F1.out.mono (Nat.le_add_right _ 2),F2.out.mono (Nat.le_add_right _ 2)⟩
theorem qpd (s:QY) (w:World) (hs:s.size≤140737488351232) :
  Calls Tryz.prog 149 #[.string s] w (qds (qbp (fun x=>pubB x&&decide (1<x.rel.length)) s.data.toList) w):=by
 have P1:=qb (fun W=>qbcz s W hs);generalize qbp (fun x=>pubB x&&decide (1<x.rel.length)) s.data.toList=R at *;have R0:=RB.start w;cases R with
 | bad er p=>
  go_enter Tryz.func149,Tryz.ntmps149
  (go_wp2_with fail);refine(P1.out _).mono ?_;rintro e w1 ⟨b1,hne,st,rfl⟩
  try unfold zerV
  have HNE:=qb hne;have R2:=R0.below b1;have hlt:=R2.lt;obtain⟨x0,x1,x2,x3,x4,x5,x6,x7,x8,x9,x10,y0,y1,y2,y3,y4,y5,y6,y7,y8,y9,y10⟩:=qh R2.ver;obtain⟨f0,f1,g0,g1⟩:=qv R2.flt;obtain⟨W9,hW9,hRQ,hT9⟩:=R2.put13 (.string ⟨#[]⟩) (.slice none 0 0) (.int .u8 0) (.string ⟨#[]⟩) (.bool false) (.string ⟨#[]⟩) (.bool false) (.string ⟨#[]⟩) (.slice none 0 0) (.string ⟨#[]⟩) (.bool st) (.int .i64 er) (.int .i64 (p:Int));replace hW9:=hW9.symm;have RQ:=qb hRQ;clear hRQ hT9 R2 R0 b1 P1 hne;(go_wp2_with fail);refine fin149 _ _ w.heap.size (w.heap.size+1) _ _ _ _ _ _ _ _ _ _ _ _ _ ⟨_,_,_,rfl⟩ ⟨_,_,_,rfl⟩ rfl rfl RQ.out.ver RQ.out.flt ?_;exact⟨RQ.out.bel,HNE.out,st,rfl⟩
 | ok x t st=>
  go_enter Tryz.func149,Tryz.ntmps149
  (go_wp2_with fail);refine(P1.out _).mono ?_;rintro e w1 ⟨b1,vr,vl,rfl,t1,t2,fr1,fr2⟩;simp only[World.size_alloc]at fr1 fr2;obtain⟨r1,c1,rfl,_⟩:=id t1;obtain⟨q1,d1,rfl,_⟩:=id t2
  try unfold verV
  have R2:=R0.below b1;have hlt:=R2.lt;obtain⟨x0,x1,x2,x3,x4,x5,x6,x7,x8,x9,x10,y0,y1,y2,y3,y4,y5,y6,y7,y8,y9,y10⟩:=qh R2.ver;obtain⟨f0,f1,g0,g1⟩:=qv R2.flt;obtain⟨W9,hW9,hRQ,hT9⟩:=R2.put13 (.string (qd x.ep)) (.slice r1 x.rel.length c1) (.int .u8 x.c) (.string (qd x.n)) (.bool x.b) (.string (qd x.m)) (.bool x.d) (.string (qd x.k)) (.slice q1 x.loc.length d1) (.string (qd t)) (.bool st) (.int .i64 0) (.int .i64 0);have HW9:=qb hW9;have RQ:=qb hRQ;have TQ:=qb hT9;have T1:=qb t1;have T2:=qb t2;have F1:=qb fr1;have F2:=qb fr2;clear hRQ hT9 R2 R0 b1 P1 t1 t2 fr1 fr2 hW9;(go_wp2_with fail);rw[←HW9.out];refine fin149 _ _ w.heap.size (w.heap.size+1) _ _ _ _ _ _ _ _ _ _ _ _ _ ⟨_,_,_,rfl⟩ ⟨_,_,_,rfl⟩ rfl rfl RQ.out.ver RQ.out.flt ?_;exact⟨RQ.out.bel,_,_,rfl,TQ.out _ _ T1.out F1.out,TQ.out _ _ T2.out F2.out,F1.out.mono (Nat.le_add_right _ 2),F2.out.mono (Nat.le_add_right _ 2)⟩
theorem qbgd (s:QY) (hs:2≤s.size):((s.extract (s.size-2) s.size).toList==[46,42])=qcr s.data.toList:=by
 rw[toL,qfs,qj];unfold qcr;rw[qg,decide_eq_true hs,Bool.true_and]
theorem qww (s:QY) (w:World) (hs:s.size≤140737488351232) :
  Calls Tryz.prog 193 #[.string s,.string ⟨#[46,42]⟩] w fun e w'=>e=.returned (.bool (qcr s.data.toList))∧w'=w:=by
 by_cases h2:2≤s.size
 ·have hE:=qbgd s h2;generalize qcr s.data.toList=B at *;have h3:(2:Int)≤(s.size:Int):=by omega
  have hsub:((s.size:Int)-2)=((s.size-2:Nat):Int):=by omega
  go_enter Tryz.func193,Tryz.ntmps193
  (go_wp2_with fail);go_ret
  exact⟨rfl,rfl⟩
 ·have h3:¬ (2:Int)≤(s.size:Int):=by omega
  have hE:qcr s.data.toList=false:=by unfold qcr;rw[qg,decide_eq_false h2];rfl
  rw[hE];go_enter Tryz.func193,Tryz.ntmps193
  (go_wp2_with fail);go_ret
  exact⟨rfl,rfl⟩
set_option maxHeartbeats 4000000
set_option maxRecDepth 100000
theorem qbrh (s:QY) (w:World) (hs:s.size≤140737488351232) :
  Calls Tryz.prog 184 #[.string s,.string ⟨#[46,42]⟩] w fun e w'=>e=.returned (.tuple #[.string (if qcr s.data.toList=true then s.extract 0 (s.size-2) else s),.bool (qcr s.data.toList)])∧w'=w:=by
 have H1:=fun W=>qww s W hs;cases hE:qcr s.data.toList
 ·rw[hE]at H1;rw[if_neg (by simp)]
  have H1:=qb H1;go_enter Tryz.func184,Tryz.ntmps184
  (go_wp2_with fail);refine(H1.out _).mono ?_;rintro e w0 ⟨rfl,hw0⟩;rw[hw0];clear hw0 w0;(go_wp2_with fail);go_ret2
  exact⟨rfl,rfl⟩
 ·rw [hE]at H1;rw[if_pos rfl];have h2:2≤s.size:=by
   unfold qcr at hE;rw[qg]at hE;simp only[Bool.and_eq_true,decide_eq_true_eq]at hE;exact hE.1
  have h3:(2:Int)≤(s.size:Int):=by omega
  have hsub:((s.size:Int)-2)=((s.size-2:Nat):Int):=by omega
  have H1:=qb H1;clear hE;go_enter Tryz.func184,Tryz.ntmps184
  (go_wp2_with fail);refine(H1.out _).mono ?_;rintro e w0 ⟨rfl,hw0⟩;rw[hw0];clear hw0 w0;(go_wp2_with fail);go_ret2
  exact⟨rfl,rfl⟩
theorem qnp (s:QY) (w:World) (hs:s.size≤140737488351232) :
  Calls Tryz.prog 173 #[.string s,.string ⟨#[46,42]⟩] w fun e w'=>e=.returned (.tuple #[.string (if qcr s.data.toList=true then s.extract 0 (s.size-2) else s),.bool (qcr s.data.toList)])∧w'=w:=by
 have H1:=fun W=>qbrh s W hs;generalize (if qcr s.data.toList=true then s.extract 0 (s.size-2) else s)=T at *;generalize qcr s.data.toList=B at *;have H1:=qb H1;go_enter Tryz.func173,Tryz.ntmps173
 (go_wp2_with fail);refine(H1.out _).mono ?_;rintro e w0 ⟨rfl,hw0⟩;rw[hw0];clear hw0 w0;(go_wp2_with fail);go_ret2
 exact⟨rfl,rfl⟩
theorem qvf (s:QY) (w:World) (hs:s.size≤140737488351232) (hE:qcr s.data.toList=false) :
  Calls Tryz.prog 151 #[.string s] w (qds (qbp (fun _=>true) s.data.toList) w):=by
 have CS:=fun W=>qnp s W hs;rw[hE,if_neg (by simp)]at CS
 have CS:=qb CS;have P1:Hid (∀ w,Calls Tryz.prog 36 #[.string s] w (qds (qbp (fun _=>true) s.data.toList) w)):=qb fun w=>by
  cases h:okP s.data.toList
  ·exact qdz s w hs h
  ·exact qfb s w h
 generalize qbp (fun _=>true) s.data.toList=R at *;have R0:=RB.start w;clear hE;cases R with
 | bad er p=>
  go_enter Tryz.func151,Tryz.ntmps151
  (go_wp2_with fail);refine(CS.out _).mono ?_;rintro e w0 ⟨rfl,hw0⟩;rw[hw0];clear hw0 w0;(go_wp2_with fail);refine(P1.out _).mono ?_;rintro e w1 ⟨b1,hne,st,rfl⟩
  try unfold zerV
  have HNE:=qb hne;have R2:=R0.below b1;have hlt:=R2.lt;obtain⟨x0,x1,x2,x3,x4,x5,x6,x7,x8,x9,x10,y0,y1,y2,y3,y4,y5,y6,y7,y8,y9,y10⟩:=qh R2.ver;obtain⟨f0,f1,g0,g1⟩:=qv R2.flt;obtain⟨W9,hW9,hRQ,hT9⟩:=R2.put13 (.string ⟨#[]⟩) (.slice none 0 0) (.int .u8 0) (.string ⟨#[]⟩) (.bool false) (.string ⟨#[]⟩) (.bool false) (.string ⟨#[]⟩) (.slice none 0 0) (.string ⟨#[]⟩) (.bool st) (.int .i64 er) (.int .i64 (p:Int));replace hW9:=hW9.symm;have RQ:=qb hRQ;clear hRQ hT9 R2 R0 b1 P1 hne;(go_wp2_with fail);refine qbbg _ _ w.heap.size (w.heap.size+1) _ _ _ _ _ _ _ _ _ _ _ _ _ ⟨_,_,_,rfl⟩ ⟨_,_,_,rfl⟩ rfl rfl RQ.out.ver RQ.out.flt ?_;exact⟨RQ.out.bel,HNE.out,st,rfl⟩
 | ok x t st=>
  go_enter Tryz.func151,Tryz.ntmps151
  (go_wp2_with fail);refine(CS.out _).mono ?_;rintro e w0 ⟨rfl,hw0⟩;rw[hw0];clear hw0 w0;(go_wp2_with fail);refine(P1.out _).mono ?_;rintro e w1 ⟨b1,vr,vl,rfl,t1,t2,fr1,fr2⟩;simp only[World.size_alloc]at fr1 fr2;obtain⟨r1,c1,rfl,_⟩:=id t1;obtain⟨q1,d1,rfl,_⟩:=id t2
  try unfold verV
  have R2:=R0.below b1;have hlt:=R2.lt;obtain⟨x0,x1,x2,x3,x4,x5,x6,x7,x8,x9,x10,y0,y1,y2,y3,y4,y5,y6,y7,y8,y9,y10⟩:=qh R2.ver;obtain⟨f0,f1,g0,g1⟩:=qv R2.flt;obtain⟨W9,hW9,hRQ,hT9⟩:=R2.put13 (.string (qd x.ep)) (.slice r1 x.rel.length c1) (.int .u8 x.c) (.string (qd x.n)) (.bool x.b) (.string (qd x.m)) (.bool x.d) (.string (qd x.k)) (.slice q1 x.loc.length d1) (.string (qd t)) (.bool st) (.int .i64 0) (.int .i64 0);have HW9:=qb hW9;have RQ:=qb hRQ;have TQ:=qb hT9;have T1:=qb t1;have T2:=qb t2;have F1:=qb fr1;have F2:=qb fr2;clear hRQ hT9 R2 R0 b1 P1 t1 t2 fr1 fr2 hW9;(go_wp2_with fail);rw[←HW9.out];refine qbbg _ _ w.heap.size (w.heap.size+1) _ _ _ _ _ _ _ _ _ _ _ _ _ ⟨_,_,_,rfl⟩ ⟨_,_,_,rfl⟩ rfl rfl RQ.out.ver RQ.out.flt ?_;exact⟨RQ.out.bel,_,_,rfl,TQ.out _ _ T1.out F1.out,TQ.out _ _ T2.out F2.out,F1.out.mono (Nat.le_add_right _ 2),F2.out.mono (Nat.le_add_right _ 2)⟩
theorem qsn (s:QY) (w:World) (hs:s.size≤140737488351232) (hE:qcr s.data.toList=true) :
  Calls Tryz.prog 151 #[.string s] w (qds (qbnn (qbp qgb (s.data.toList.take (s.data.toList.length-2)))) w):=by
 have CS:=fun W=>qnp s W hs;rw[hE,if_pos rfl]at CS;have CS:=qb CS;have P1:=fun W=>qbbm (s.extract 0 (s.size-2)) W (by rw[ByteArray.size_extract];omega)
 rw[show(s.extract 0 (s.size-2)).data.toList=s.data.toList.take (s.data.toList.length-2) by rw[qfh,qj,List.drop_zero,qg]]at P1
 have P1:=qb P1;generalize qbp qgb (s.data.toList.take (s.data.toList.length-2))=R at *;have R0:=RB.start w;clear hE;cases R with
 | bad er p=>
  go_enter Tryz.func151,Tryz.ntmps151
  (go_wp2_with fail);refine(CS.out _).mono ?_;rintro e w0 ⟨rfl,hw0⟩;rw[hw0];clear hw0 w0;(go_wp2_with fail);refine(P1.out _).mono ?_;rintro e w1 ⟨b1,hne,st,rfl⟩
  try unfold zerV
  have HNE:=qb hne;have hq:w.heap.size+1<w1.heap.size:=(R0.below b1).lt;obtain⟨V,hV,nP,nF,bV,sV⟩:=ql w1 #[.string ⟨#[]⟩,.slice none 0 0,.int .u8 0,.string ⟨#[]⟩,.bool false,.string ⟨#[]⟩,.bool false,.string ⟨#[]⟩,.slice none 0 0,.string ⟨#[]⟩,.bool true] #[.int .i64 er,.int .i64 (p:Int)] 59 25;have HV:=qb hV;clear hV;have R2:=(R0.below b1).below bV;have hlt:=R2.lt;obtain⟨x0,x1,x2,x3,x4,x5,x6,x7,x8,x9,x10,y0,y1,y2,y3,y4,y5,y6,y7,y8,y9,y10⟩:=qh R2.ver;obtain⟨f0,f1,g0,g1⟩:=qv R2.flt;obtain⟨u0,u1,_,_⟩:=qv nF;obtain⟨s0,s1,s2,s3,s4,s5,s6,s7,s8,s9,s10,_⟩:=qh nP;obtain⟨W9,hW9,hRQ,hT9⟩:=R2.put13 (.string ⟨#[]⟩) (.slice none 0 0) (.int .u8 0) (.string ⟨#[]⟩) (.bool false) (.string ⟨#[]⟩) (.bool false) (.string ⟨#[]⟩) (.slice none 0 0) (.string ⟨#[]⟩) (.bool true) (.int .i64 er) (.int .i64 (p:Int));have HW9:=qb hW9;have RQ:=qb hRQ;clear hRQ hT9 R2 R0 b1 P1 hne hW9 nP nF bV;go_upto_region 6 with fail
  rw[HV.out];have hW9:=HW9.out.symm;go_region
  all_goals
   (go_wp2_with fail);refine qbbg _ _ w.heap.size (w.heap.size+1) _ _ _ _ _ _ _ _ _ _ _ _ _ ⟨_,_,_,rfl⟩ ⟨_,_,_,rfl⟩ rfl rfl RQ.out.ver RQ.out.flt ?_;exact⟨RQ.out.bel.drew,HNE.out,true,rfl⟩
 | ok x t st=>
  go_enter Tryz.func151,Tryz.ntmps151
  (go_wp2_with fail);refine(CS.out _).mono ?_;rintro e w0 ⟨rfl,hw0⟩;rw[hw0];clear hw0 w0;(go_wp2_with fail);refine(P1.out _).mono ?_;rintro e w1 ⟨b1,vr,vl,rfl,t1,t2,fr1,fr2⟩;simp only[World.size_alloc]at fr1 fr2;obtain⟨r1,c1,rfl,_⟩:=id t1;obtain⟨q1,d1,rfl,_⟩:=id t2
  try unfold verV
  have hq:w.heap.size+1<w1.heap.size:=(R0.below b1).lt;obtain⟨V,hV,nP,nF,bV,sV⟩:=ql w1 #[.string (qd x.ep),.slice r1 x.rel.length c1,.int .u8 x.c,.string (qd x.n),.bool x.b,.string (qd x.m),.bool x.d,.string (qd x.k),.slice q1 x.loc.length d1,.string (qd t),.bool true] #[.int .i64 0,.int .i64 0] 59 25;have HV:=qb hV;clear hV;have R2:=(R0.below b1).below bV;have hlt:=R2.lt;obtain⟨x0,x1,x2,x3,x4,x5,x6,x7,x8,x9,x10,y0,y1,y2,y3,y4,y5,y6,y7,y8,y9,y10⟩:=qh R2.ver;obtain⟨f0,f1,g0,g1⟩:=qv R2.flt;obtain⟨u0,u1,_,_⟩:=qv nF;obtain⟨s0,s1,s2,s3,s4,s5,s6,s7,s8,s9,s10,_⟩:=qh nP;obtain⟨W9,hW9,hRQ,hT9⟩:=R2.put13 (.string (qd x.ep)) (.slice r1 x.rel.length c1) (.int .u8 x.c) (.string (qd x.n)) (.bool x.b) (.string (qd x.m)) (.bool x.d) (.string (qd x.k)) (.slice q1 x.loc.length d1) (.string (qd t)) (.bool true) (.int .i64 0) (.int .i64 0);have HW9:=qb hW9;have RQ:=qb hRQ;have TQ:=qb hT9;have T1:=qb (t1.below bV);have T2:=qb (t2.below bV);have F1:=qb fr1;have F2:=qb fr2;clear hRQ hT9 R2 R0 b1 P1 t1 t2 fr1 fr2 hW9 nP nF bV;go_upto_region 6 with fail
  rw[HV.out];have hW9:=HW9.out.symm;go_region
  all_goals
   (go_wp2_with fail);refine qbbg _ _ w.heap.size (w.heap.size+1) _ _ _ _ _ _ _ _ _ _ _ _ _ ⟨_,_,_,rfl⟩ ⟨_,_,_,rfl⟩ rfl rfl RQ.out.ver RQ.out.flt ?_;exact⟨RQ.out.bel.drew,_,_,rfl,(TQ.out _ _ T1.out F1.out).below ((Below.refl _ _).drew),(TQ.out _ _ T2.out F2.out).below ((Below.refl _ _).drew),F1.out.mono (Nat.le_add_right _ 2),F2.out.mono (Nat.le_add_right _ 2)⟩
set_option maxHeartbeats 4000000
set_option maxRecDepth 100000
theorem qpk (s:QY) (i:Nat) (h:i<s.size) (hc:s[i].toNat<33∨126<s[i].toNat):badN (s.data.toList.drop i)=0:=by
 rw[qch s i h,badN,if_pos];simp only[Bool.or_eq_true,decide_eq_true_eq];rcases hc with hc|hc
 ·exact .inl (UInt8.lt_iff_toNat_lt.2 hc)
 ·exact .inr (UInt8.lt_iff_toNat_lt.2 hc)
theorem qxc (s:QY) (i:Nat) (h:i<s.size) (h1:¬ s[i].toNat<33) (h2:¬ 126<s[i].toNat):badN (s.data.toList.drop i)=badN (s.data.toList.drop (i+1))+1:=by
 rw[qch s i h,badN,if_neg];simp only[Bool.or_eq_true,decide_eq_true_eq,not_or];exact⟨fun hc=>h1 (UInt8.lt_iff_toNat_lt.1 hc),fun hc=>h2 (UInt8.lt_iff_toNat_lt.1 hc)⟩
theorem qbbd (s:QY) (w:World) (hs:s.size≤256) :
  Calls Tryz.prog 159 #[.string s] w (qds (qln s.data.toList) w):=by
 have R0:=RB.start w;have hTW:qln s.data.toList=if badN s.data.toList<s.size then .bad 10 (badN s.data.toList) else .ok pep0 s.data.toList false:=by unfold qln;rw[qg]
 generalize qln s.data.toList=R at *;have HTW:=qb hTW;clear hTW;go_enter Tryz.func159,Tryz.ntmps159
 (go_wp2_with fail);generalize (w.alloc _).alloc _=W0 at *;have R0:=qb R0;have hlt:w.heap.size+1<W0.heap.size:=R0.out.lt;go_loopw [7] (fun y wr=>∃ i:Nat,i≤s.size∧y=.int .i64 i∧badN s.data.toList=i+badN (s.data.toList.drop i)∧wr=W0) (fun y _=>s.size-(intOf y).toNat)
 case atStart=>exact⟨0,by omega,rfl,by simp,rfl⟩
 case round=>
  obtain⟨i,hi,rfl,hc,rfl⟩:=hrel
  by_cases hin:i<s.size
  ·have hin':(i:Int)<(s.size:Int):=by omega
   by_cases h1:s[i].toNat<33
   ·have hcmp:(s[i].toNat:Int)<33:=by omega
    have HR:Hid (R=.bad 10 i):=qb (by rw[HTW.out,hc,qpk s i hin (.inl h1),Nat.add_zero,if_pos hin])
    clear hc h1;obtain⟨x0,x1,x2,x3,x4,x5,x6,x7,x8,x9,x10,y0,y1,y2,y3,y4,y5,y6,y7,y8,y9,y10⟩:=qh R0.out.ver;obtain⟨f0,f1,g0,g1⟩:=qv R0.out.flt;obtain⟨W9,hW9,hRQ,hT9⟩:=R0.out.put13 (.string ⟨#[]⟩) (.slice none 0 0) (.int .u8 0) (.string ⟨#[]⟩) (.bool false) (.string ⟨#[]⟩) (.bool false) (.string ⟨#[]⟩) (.slice none 0 0) (.string ⟨#[]⟩) (.bool false) (.int .i64 10) (.int .i64 (i:Int));have HW9:=qb hW9;have RQ:=qb hRQ;clear hRQ hT9 hW9;(go_wp2_with fail);rw[←HW9.out];refine qblp _ _ w.heap.size (w.heap.size+1) _ _ _ _ _ _ _ _ _ _ _ _ _ ⟨_,_,_,rfl⟩ ⟨_,_,_,rfl⟩ rfl rfl RQ.out.ver RQ.out.flt ?_;rw[HR.out];exact⟨RQ.out.bel,by decide,false,rfl⟩
   ·by_cases h2:126<s[i].toNat
    ·have hcmp:¬ (s[i].toNat:Int)<33:=by omega
     have hcmp2:(126:Int)<(s[i].toNat:Int):=by omega
     have HR:Hid (R=.bad 10 i):=qb (by rw[HTW.out,hc,qpk s i hin (.inr h2),Nat.add_zero,if_pos hin])
     clear hc h1 h2;obtain⟨x0,x1,x2,x3,x4,x5,x6,x7,x8,x9,x10,y0,y1,y2,y3,y4,y5,y6,y7,y8,y9,y10⟩:=qh R0.out.ver;obtain⟨f0,f1,g0,g1⟩:=qv R0.out.flt;obtain⟨W9,hW9,hRQ,hT9⟩:=R0.out.put13 (.string ⟨#[]⟩) (.slice none 0 0) (.int .u8 0) (.string ⟨#[]⟩) (.bool false) (.string ⟨#[]⟩) (.bool false) (.string ⟨#[]⟩) (.slice none 0 0) (.string ⟨#[]⟩) (.bool false) (.int .i64 10) (.int .i64 (i:Int));have HW9:=qb hW9;have RQ:=qb hRQ;clear hRQ hT9 hW9;(go_wp2_with fail);rw[←HW9.out];refine qblp _ _ w.heap.size (w.heap.size+1) _ _ _ _ _ _ _ _ _ _ _ _ _ ⟨_,_,_,rfl⟩ ⟨_,_,_,rfl⟩ rfl rfl RQ.out.ver RQ.out.flt ?_;rw[HR.out];exact⟨RQ.out.bel,by decide,false,rfl⟩
    ·have hcmp:¬ (s[i].toNat:Int)<33:=by omega
     have hcmp2:¬ (126:Int)<(s[i].toNat:Int):=by omega
     have HC:=qb (hc.trans (by rw[qxc s i hin h1 h2]))
     clear hc h1 h2;(go_wp2_with fail);go_roundw
     case rel=>exact⟨i+1,by omega,by go_num,by have:=HC.out;omega,by trivial⟩
     case measure=>simp[intOf];omega
  ·have hin':¬ (i:Int)<(s.size:Int):=by omega
   have HR:Hid (R=.ok pep0 s.data.toList false):=qb (by
    rw[HTW.out,if_neg];rw[hc,qfd s i (by omega),badN]
    omega)
   clear hc;obtain⟨x0,x1,x2,x3,x4,x5,x6,x7,x8,x9,x10,y0,y1,y2,y3,y4,y5,y6,y7,y8,y9,y10⟩:=qh R0.out.ver;obtain⟨f0,f1,g0,g1⟩:=qv R0.out.flt;obtain⟨W9,hW9,hRQ,hT9⟩:=R0.out.put13 (.string ⟨#[]⟩) (.slice none 0 0) (.int .u8 0) (.string ⟨#[]⟩) (.bool false) (.string ⟨#[]⟩) (.bool false) (.string ⟨#[]⟩) (.slice none 0 0) (.string s) (.bool false) (.int .i64 0) (.int .i64 0);have HW9:=qb hW9;have RQ:=qb hRQ;clear hRQ hT9 hW9;(go_wp2_with fail);rw[←HW9.out];refine qblp _ _ w.heap.size (w.heap.size+1) _ _ _ _ _ _ _ _ _ _ _ _ _ ⟨_,_,_,rfl⟩ ⟨_,_,_,rfl⟩ rfl rfl RQ.out.ver RQ.out.flt ?_;rw[HR.out];exact⟨RQ.out.bel,.slice none 0 0,.slice none 0 0,by rw[qcw];rfl,⟨none,0,rfl,.inl rfl⟩,⟨none,0,rfl,.inl rfl⟩,fun a i c e=>(by cases e),fun a i c e=>(by cases e)⟩
theorem verX_le (l:QB):(verX l).2≤l.length:=by
 have l1:vp1 l≤l.length:=(qpr l 0 [118] (Nat.zero_le _)).2;have l2:vp2 l≤l.length:=(qbll l (vp1 l) l1).2;have l3:vp3 l≤l.length:=qkr l 1 [46] (vp2 l) l2;have l4:vp4 l≤l.length:=(qnw l (vp3 l) qbq l3).2;have l5:vp5 l≤l.length:=(qbdc l (vp4 l) l4).2;have l6:vp6 l≤l.length:=(qnw l (vp5 l) qbk l5).2;have l7:vp7 l≤l.length:=(qpr l (vp6 l) [43] l6).2;have l8:vp8 l≤l.length:=qkr l 5 [45,95,46] (vp7 l) l7;unfold verX
 repeat' split
 all_goals assumption
theorem qhl (l:QB):(errX l).2≤64:=by
 unfold errX;split
 ·exact Nat.le_refl _
 ·have:=verX_le (qk l);rw[qlq]at this;omega
theorem qsz {may:PepL→Bool} {u:QB} {e:Int} {p:Nat} (h:qbp may u=.bad e p):p≤64:=by
 unfold qbp at h;split at h
 ·split at h
  ·cases h
  ·cases h;omega
 ·cases h;exact qhl u
theorem wdR_le {k:Nat} {u:QB} {e:Int} {p:Nat} (hu:u.length≤256) (h:wdR k u=.bad e p):p≤1000:=by
 unfold wdR at h;split at h
 ·have:=qsz h;omega
 ·split at h
  ·split at h
   ·cases hq:qbp qgb (u.take (u.length-2))with
    | bad e2 p2=>
     rw[hq]at h;cases h;have:=qsz hq;omega
    | ok x t st=>rw[hq]at h;cases h
   ·have:=qsz h;omega
  ·split at h
   ·unfold qln at h;split at h
    ·cases h;omega
    ·cases h
   ·have:=qsz h;omega
theorem qbqk (j:Nat) (hj:j<8) (u:QY) (hu:u.size≤256) (W:World):Calls Tryz.prog (rdF j) #[.string u] W (qds (wdR j u.data.toList) W):=by
 have st:∀ j,j=1∨j=2→Calls Tryz.prog 151 #[.string u] W (qds (wdR j u.data.toList) W):=by
  intro j hj;unfold wdR;rw[if_neg (by omega),if_pos hj]
  cases hE:qcr u.data.toList
  ·rw[if_neg (by simp)]
   exact qvf u W (by omega) hE
  ·rw[if_pos rfl];exact qsn u W (by omega) hE
 match j,hj with
 | 0,_=>exact qpd u W (by omega)
 | 1,_=>exact st 1 (.inl rfl)
 | 2,_=>exact st 2 (.inr rfl)
 | 3,_=>exact qgx u W (by omega)
 | 4,_=>exact qgx u W (by omega)
 | 5,_=>exact qgx u W (by omega)
 | 6,_=>exact qgx u W (by omega)
 | 7,_=>exact qbbd u W hu
theorem rwL_of (s:QY) (j b:Nat):rwL s.data.toList j b=rwOf s.size b (wdN (s.data.toList.drop b)) (wdR j (seg s.data.toList b (b+wdN (s.data.toList.drop b)))):=by
 unfold rwL rwOf;rw[qg];split
 ·rfl
 ·split<;>rename_i h<;>rw[h]
theorem qbch (j:Nat) (hj:j<8) (s:QY) (b:Nat) (w:World) (hs:s.size≤256) (hb:b≤s.size) :
  Calls Tryz.prog 116 #[.string s,.int .i64 (b:Int),.func (.func (rdF j)) #[] #[]] w (qvd (rwL s.data.toList j b) w):=by
 rw [rwL_of];have hn:=qmk (s.data.toList.drop b);rw[List.length_drop,qg]at hn;have hR:∀ W,Calls Tryz.prog (rdF j) #[.string (s.extract b (b+wdN (s.data.toList.drop b)))] W (qds (wdR j (seg s.data.toList b (b+wdN (s.data.toList.drop b)))) W):=fun W=>by
  have:=qbqk j hj (s.extract b (b+wdN (s.data.toList.drop b))) (by rw[ByteArray.size_extract];omega) W
  rw[qdf]at this;exact this
 have hp:∀ e p,wdR j (seg s.data.toList b (b+wdN (s.data.toList.drop b)))=.bad e p→p≤1000:=fun e p h=>wdR_le (by have:=qbbj s.data.toList b (b+wdN (s.data.toList.drop b));rw[qg]at this;omega) h
 match j,hj with
 | 0,_=>exact qzw s b _ w hs hb hR hp
 | 1,_=>exact qph s b _ w hs hb hR hp
 | 2,_=>exact qph s b _ w hs hb hR hp
 | 3,_=>exact qhz s b _ w hs hb hR hp
 | 4,_=>exact qhz s b _ w hs hb hR hp
 | 5,_=>exact qhz s b _ w hs hb hR hp
 | 6,_=>exact qhz s b _ w hs hb hR hp
 | 7,_=>exact qzt s b _ w hs hb hR hp
theorem qbgh {l:QB} {a:Nat} (h:(opGo (l.drop a) 8).1=8):clP l a=⟨8,pep0,[],false,a,a+(opGo (l.drop a) 8).2,misL l.length (a+(opGo (l.drop a) 8).2)⟩:=by
 unfold clP;rw[if_pos h]
theorem qtz {l:QB} {a k b:Nat} (hk:k<8) (h:(opGo (l.drop a) 8).1=k) (hb:skL l (a+(sgn k).length)=b) (h0:wdN (l.drop b)=0):clP l a=⟨k,pep0,[],false,a,b,misL l.length b⟩:=by
 unfold clP;rw[if_neg (by omega),h,hb];unfold rwL;rw[if_pos h0]
theorem qbcm {l:QB} {a k b p:Nat} {e:Int} (hk:k<8) (h:(opGo (l.drop a) 8).1=k) (hb:skL l (a+(sgn k).length)=b) (h0:wdN (l.drop b)≠0) (hw:wdR k (seg l b (b+wdN (l.drop b)))=.bad e p) :
  clP l a=⟨k,pep0,[],false,a,b+p,e⟩:=by
 unfold clP;rw[if_neg (by omega),h,hb];unfold rwL;rw[if_neg h0,hw]
theorem qth {l:QB} {a k b z:Nat} {x:PepL} {t:QB} {st:Bool} (hk:k<8) (h:(opGo (l.drop a) 8).1=k) (hb:skL l (a+(sgn k).length)=b) (h0:wdN (l.drop b)≠0) (hw:wdR k (seg l b (b+wdN (l.drop b)))=.ok x t st) (hz:skL l (b+wdN (l.drop b))=z) :
  clP l a=⟨k,x,t,st,a,z,if z<l.length∧l[z]?≠some 44 then 10 else 0⟩:=by
 unfold clP;rw[if_neg (by omega),h,hb];unfold rwL;rw[if_neg h0,hw];dsimp only;rw[hz]
def plL (c:Cl):List Value:=[.string (qd (sgn c.k)),.string (qd c.t),.bool c.st]
theorem qkc (c:Cl):∀ u∈plL c,u.oneCell'=true:=by
 intro u hu;simp only[plL,List.mem_cons,List.not_mem_nil,or_false]at hu;rcases hu with rfl|rfl|rfl<;>rfl
def PyAt (W:World) (v:Value) (cs:List Cl):Prop:=
 ∃ a cap,v=.slice a cs.length cap∧(cs=[]∨∃ b,a=some ⟨b,0,none⟩∧b<W.heap.size∧∀ j u,(cs.flatMap plL)[j]? = some u→W.cell? ⟨b,j,none⟩=some u)
theorem PyAt.nil (W:World):PyAt W (.slice none 0 0) []:=⟨none,0,rfl,.inl rfl⟩
theorem qzv {W:World} {base:Nat} {v:Value} {cs:List Cl} (h:W.ownsRow base 32 3 v cs.length (cs.flatMap plL)):PyAt W v cs:=by
 obtain⟨a,c,rfl,h0|⟨g,rfl,hg,hc⟩⟩:=qct h
 ·exact⟨a,c,rfl,.inl (List.length_eq_zero_iff.1 h0)⟩
 ·exact⟨_,c,rfl,.inr ⟨g,rfl,hg,hc⟩⟩
theorem PyAt.below {W W':World} {v:Value} {cs:List Cl} (h:PyAt W v cs) (hb:Below W.heap.size W W'):PyAt W' v cs:=by
 obtain⟨a,c,rfl,h0|⟨g,rfl,hg,hc⟩⟩:=h
 ·exact⟨a,c,rfl,.inl h0⟩
 ·exact⟨_,c,rfl,.inr ⟨g,rfl,Nat.lt_of_lt_of_le hg hb.size,fun j u hj=>(hb.cell hg).trans (hc j u hj)⟩⟩
def qrh (r:Int×Nat×List Cl) (w:World) (e:Ending) (w':World):Prop:=
 Below w.heap.size w w'∧∃ v,e=.returned (.tuple #[v,.int .i64 r.1,.int .i64 (r.2.1:Int)])∧PyAt w' v r.2.2∧qbr w.heap.size v
theorem qcn (n:Nat):qbr n (.slice none 0 0):=fun a i c e=>by cases e
theorem qkl {W:World} {base:Nat} {e:TypeId} {size:Nat} {v:Value} {n:Nat} {xs:List Value} (h:W.ownsRow base e size v n xs):qbr base v:=fun a i c e=>⟨(qnc h a.block (by rw[e];rfl)).1,qbcj h _ _ _ e⟩
theorem info_parts {P:Program} {t:TypeId} {z:Value} {size bytes:Nat} (h:(P.info? t).map (fun i=>(i.zero,i.size,i.bytes))=some (some z,size,bytes)):∃ i,P.info? t=some i∧i.zero=some z∧i.size=size∧i.bytes=bytes:=by
 cases hi:P.info? t with
 | none=>rw[hi]at h;cases h
 | some i=>
  rw[hi]at h;simp only[Option.map_some,Option.some.injEq,Prod.mk.injEq]at h;exact⟨i,rfl,h.1,h.2.1,h.2.2⟩
theorem info32:(Tryz.prog.info? 32).map (fun i=>(i.zero,i.size,i.bytes))=some (some (.agg #[.string ⟨#[]⟩,.string ⟨#[]⟩,.bool false]),3,40):=by kernel_rfl
theorem qhw (W:World) (cs:Array Value) (t:TypeId):∀ j u,cs.toList[j]? = some u→(W.alloc (.cells cs t)).cell? ((⟨W.heap.size,0,none⟩:Addr).add j)=some u:=by
 intro j u h;have:(⟨W.heap.size,0,none⟩:Addr).add j=⟨W.heap.size,j,none⟩:=by unfold Addr.add;split<;>simp_all
 rw[this];exact qc j (World.alloc_heap_new W _) (by simpa using h)
set_option maxHeartbeats 4000000
set_option maxRecDepth 100000
def zer3:Value:=.agg #[.string ⟨#[]⟩,.string ⟨#[]⟩,.bool false]
def wdT (k a:Nat):Wd→Value
 | .bad e p=>.tuple #[zer3,.int .i64 e,.int .i64 ((a+p:Nat):Int)]
 | .ok _ t st=>.tuple #[.agg #[.string (qd (sgn k)),.string (qd t),.bool st],.int .i64 0,.int .i64 0]
theorem qkd (k a:Nat) (x:PepL) (s:QY) (st:Bool):wdT k a (.ok x s.data.toList st)=.tuple #[.agg #[.string (qd (sgn k)),.string s,.bool st],.int .i64 0,.int .i64 0]:=by
 unfold wdT;simp only[qcw]
theorem qdq {R:Ending→World→Prop} (tmps:Array Value) (W:World) (B:Nat) (c0 c1 c2 v7 v8:Value) (h6:tmps.getD 6 undef=.pointer (some ⟨B,0,none⟩)) (h7:tmps.getD 7 undef=v7) (h8:tmps.getD 8 undef=v8)
  (e1:W.heap[B]? = some (.cells #[c0,c1,c2] 32 (0,0))) (hR:R (.returned (.tuple #[.agg #[c0,c1,c2],v7,v8])) W):bodyPost Tryz.prog Tryz.f65 R .ret { tmps:=tmps,defers:=[] } W:=by
 have r0:=qc 0 e1 rfl;have r1:=qc 1 e1 rfl;have r2:=qc 2 e1 rfl;rw[Array.getD_eq_getD_getElem?]at h6 h7 h8;refine⟨rfl,_,?_,hR⟩;simp[results,Tryz.results65,go_sem,h6,h7,h8,r0,r1,r2]
 try rfl
theorem qbh {w:World} (a b c:Value) {V:World} (h:V.heap[w.heap.size]? = some (.cells #[.string ⟨#[]⟩,.string ⟨#[]⟩,.bool false] 32 (0,0))) (hb:Below w.heap.size w V) :
  (((V.setCell ⟨w.heap.size,0,none⟩ a).setCell ⟨w.heap.size,1,none⟩ b).setCell ⟨w.heap.size,2,none⟩ c).heap[w.heap.size]? = some (.cells #[a,b,c] 32 (0,0))∧Below w.heap.size w (((V.setCell ⟨w.heap.size,0,none⟩ a).setCell ⟨w.heap.size,1,none⟩ b).setCell ⟨w.heap.size,2,none⟩ c):=
 ⟨qw 2 c (qw 1 b (qw 0 a h)),((hb.setCell (p:=⟨w.heap.size,0,none⟩) (Nat.le_refl _) _).setCell (p:=⟨w.heap.size,1,none⟩) (Nat.le_refl _) _).setCell (p:=⟨w.heap.size,2,none⟩) (Nat.le_refl _) _⟩
theorem qblq (s:QY) (a:Nat) (w:World) (hs:s.size≤256) (ha:a≤256) :
  Calls Tryz.prog 65 #[.string ⟨#[61,61,61]⟩,.string s,.int .i64 (a:Int)] w fun e w'=>e=.returned (wdT 7 a (qln s.data.toList))∧Below w.heap.size w w':=by
 have hTW:qln s.data.toList=if badN s.data.toList<s.size then .bad 10 (badN s.data.toList) else .ok pep0 s.data.toList false:=by unfold qln;rw[qg]
 generalize qln s.data.toList=R at *;have HTW:=qb hTW;clear hTW;have hB:=World.alloc_heap_new w (.cells #[.string ⟨#[]⟩,.string ⟨#[]⟩,.bool false] 32);have hbW:Below w.heap.size w (w.alloc (.cells #[.string ⟨#[]⟩,.string ⟨#[]⟩,.bool false] 32)):=(Below.refl _ w).alloc (Nat.le_refl _) _;go_enter Tryz.func65,Tryz.ntmps65
 (go_wp2_with fail);generalize w.alloc _=W0 at *;have HB:=qb hB;have HBW:=qb hbW;clear hB hbW;go_loopw [9] (fun y wr=>∃ i:Nat,i≤s.size∧y=.int .i64 i∧badN s.data.toList=i+badN (s.data.toList.drop i)∧wr=W0) (fun y _=>s.size-(intOf y).toNat)
 case atStart=>exact⟨0,by omega,rfl,by simp,rfl⟩
 case round=>
  obtain⟨i,hi,rfl,hc,rfl⟩:=hrel
  by_cases hin:i<s.size
  ·have hin':(i:Int)<(s.size:Int):=by omega
   by_cases h1:s[i].toNat<33
   ·have hcmp:(s[i].toNat:Int)<33:=by omega
    have HR:Hid (R=.bad 10 i):=qb (by rw[HTW.out,hc,qpk s i hin (.inl h1),Nat.add_zero,if_pos hin])
    clear hc h1;obtain⟨k1,k2⟩:=qbh (w:=w) (.string ⟨#[]⟩) (.string ⟨#[]⟩) (.bool false) HB.out HBW.out;have x0:=qc 0 HB.out rfl;have x1:=qc 1 HB.out rfl;have x2:=qc 2 HB.out rfl;have y0:=qf 0 HB.out;have y1:=qf 1 HB.out;have y2:=qf 2 HB.out;have K1:=qb k1;have K2:=qb k2;clear k1 k2;(go_wp2_with fail);refine qdq _ _ w.heap.size _ _ _ _ _ rfl rfl rfl K1.out ?_;rw[HR.out];exact⟨by unfold wdT;push_cast;rfl,K2.out⟩
   ·by_cases h2:126<s[i].toNat
    ·have hcmp:¬ (s[i].toNat:Int)<33:=by omega
     have hcmp2:(126:Int)<(s[i].toNat:Int):=by omega
     have HR:Hid (R=.bad 10 i):=qb (by rw[HTW.out,hc,qpk s i hin (.inr h2),Nat.add_zero,if_pos hin])
     clear hc h1 h2;obtain⟨k1,k2⟩:=qbh (w:=w) (.string ⟨#[]⟩) (.string ⟨#[]⟩) (.bool false) HB.out HBW.out;have x0:=qc 0 HB.out rfl;have x1:=qc 1 HB.out rfl;have x2:=qc 2 HB.out rfl;have y0:=qf 0 HB.out;have y1:=qf 1 HB.out;have y2:=qf 2 HB.out;have K1:=qb k1;have K2:=qb k2;clear k1 k2;(go_wp2_with fail);refine qdq _ _ w.heap.size _ _ _ _ _ rfl rfl rfl K1.out ?_;rw[HR.out];exact⟨by unfold wdT;push_cast;rfl,K2.out⟩
    ·have hcmp:¬ (s[i].toNat:Int)<33:=by omega
     have hcmp2:¬ (126:Int)<(s[i].toNat:Int):=by omega
     have HC:=qb (hc.trans (by rw[qxc s i hin h1 h2]))
     clear hc h1 h2;(go_wp2_with fail);go_roundw
     case rel=>exact⟨i+1,by omega,by go_num,by have:=HC.out;omega,by trivial⟩
     case measure=>simp[intOf];omega
  ·have hin':¬ (i:Int)<(s.size:Int):=by omega
   have HR:Hid (R=.ok pep0 s.data.toList false):=qb (by
    rw[HTW.out,if_neg];rw[hc,qfd s i (by omega),badN]
    omega)
   clear hc;obtain⟨k1,k2⟩:=qbh (w:=w) (.string ⟨#[61,61,61]⟩) (.string s) (.bool false) HB.out HBW.out;have x0:=qc 0 HB.out rfl;have x1:=qc 1 HB.out rfl;have x2:=qc 2 HB.out rfl;have y0:=qf 0 HB.out;have y1:=qf 1 HB.out;have y2:=qf 2 HB.out;have K1:=qb k1;have K2:=qb k2;clear k1 k2;(go_wp2_with fail);refine qdq _ _ w.heap.size _ _ _ _ _ rfl rfl rfl K1.out ?_;rw[HR.out];exact⟨by rw[qkd];rfl,K2.out⟩
open Go.RowKit
set_option maxHeartbeats 1000000
def hasP (s x:QB):Bool:=s.take x.length==x
theorem qbkt (s x:QB) (h:s.length<x.length):hasP s x=false:=by
 unfold hasP;rw[beq_eq_false_iff_ne];intro e;have:=congrArg List.length e;simp at this;omega
def qdp (s:QB) (n:Int) (x:QB):Bool:=(decide (0≤n)&&decide (n≤(s.length:Int)))&&hasP (s.drop n.toNat) x
theorem qbkx (s:QY) (n:Int) (x:QY) (w:World) (hs:s.size≤maxLen) :
  Calls Tryz.prog 113 #[.string s,.int .i64 n,.string x] w fun e w'=>e=.returned (.bool (qdp s.data.toList n x.data.toList))∧w'=w:=by
 unfold maxLen at hs
 by_cases h0:0≤n
 ·obtain ⟨m,rfl⟩:=Int.eq_ofNat_of_zero_le h0
  by_cases h1:m≤s.size
  ·by_cases h2:m+x.size≤s.size
   ·have HE:Hid (((s.extract m (m+x.size)).toList==x.toList)=qdp s.data.toList m x.data.toList):=by
     show _=_;rw[toL,toL,qfh,qj,qdp,hasP,qg,qg,List.drop_take];simp[h1]
    go_enter Tryz.func113,Tryz.ntmps113
    go_wp2
    go_ret
    exact⟨qbz HE.out,rfl⟩
   ·have HE:Hid (qdp s.data.toList m x.data.toList=false):=by
     show _=_;rw[qdp,qbkt _ _ (by rw[List.length_drop,qg,qg];simp;omega)];simp
    go_enter Tryz.func113,Tryz.ntmps113
    go_wp2
    go_ret
    exact⟨qbz HE.out.symm,rfl⟩
  ·have HE:Hid (qdp s.data.toList m x.data.toList=false):=by
    show _=_;rw[qdp,qg];simp;omega
   go_enter Tryz.func113,Tryz.ntmps113
   go_wp2
   go_ret
   exact⟨qbz HE.out.symm,rfl⟩
 ·have HE:Hid (qdp s.data.toList n x.data.toList=false):=by
   show _=_;rw[qdp];simp;omega
  go_enter Tryz.func113,Tryz.ntmps113
  go_wp2
  go_ret
  exact⟨qbz HE.out.symm,rfl⟩
def Words (W:World) (a:Option Addr) (ws:List QY):Prop:=
 ws=[]∨∃ b off,a=some ⟨b,off,none⟩∧∀ i,i<ws.length→W.cell? ⟨b,off+i,none⟩=some (.string (ws.getD i ByteArray.empty))
theorem ret_w {a c:QY} {b d:Bool} (h1:a=c) (h2:b=d):Ending.returned (.tuple #[.string a,.bool b])=.returned (.tuple #[.string c,.bool d]):=by rw[h1,h2]
def qkg (f:QY→Bool) (acc:QY×Bool) (x:QY):QY×Bool:=
 if f x=true∧(acc.2=false∨acc.1.size<x.size) then (x,true) else acc
def qqf (f:QY→Bool) (ws:List QY):QY×Bool:=ws.foldl (qkg f) (ByteArray.empty,false)
theorem qblg (f:QY→Bool) (ws:List QY) (k:Nat) (h:k<ws.length):qqf f (ws.take (k+1))=qkg f (qqf f (ws.take k)) (ws.getD k ByteArray.empty):=by
 unfold qqf;rw[List.take_succ_eq_append_getElem h,List.foldl_append];simp[List.getD,h]
theorem qbpn (s:QY) (n:Int) (a0:Option Addr) (ws:List QY) (cap:Nat) (w:World) (hs:s.size≤maxLen) (hw:ws.length≤maxLen) (hv:Words w a0 ws) :
  Calls Tryz.prog 84 #[.string s,.int .i64 n,.slice a0 ws.length cap] w fun e w'=>e=.returned (.tuple #[.string (qqf (fun x=>qdp s.data.toList n x.data.toList) ws).1,.bool (qqf (fun x=>qdp s.data.toList n x.data.toList) ws).2])∧w'=w:=by
 have HP:Hid (∀ x w,Calls Tryz.prog 113 #[.string s,.int .i64 n,.string x] w fun e w'=>e=.returned (.bool (qdp s.data.toList n x.data.toList))∧w'=w):=fun x w=>qbkx s n x w hs;unfold maxLen at hs hw;obtain⟨f,hf⟩:∃ f:QY→Bool,(fun x=>qdp s.data.toList n x.data.toList)=f:=⟨_,rfl⟩;have HP':Hid (∀ x w,Calls Tryz.prog 113 #[.string s,.int .i64 n,.string x] w fun e w'=>e=.returned (.bool (f x))∧w'=w):=fun x w=>by
  have:=HP.out x w;rw[←hf];exact this
 rw[hf];clear HP hf;rcases hv with rfl|⟨b,off,rfl,hc⟩
 ·go_enter Tryz.func84,Tryz.ntmps84
  (go_wp2_with fail);refine wp_loop_rounds 1 ?_;rw[rounds_succ];go_wp2
  go_ret2
  exact⟨rfl,rfl⟩
 ·have HC:=qb hc;clear hc;go_enter Tryz.func84,Tryz.ntmps84
  (go_wp2_with fail);go_loop [8,9,10] (fun x y i=>∃ k:Nat,k≤ws.length∧i=.int .i64 k∧∃ p q,x=.string p∧y=.bool q∧Hid (qqf f (ws.take k)=(p,q))) (fun _ _ i=>ws.length-(intOf i).toNat)
  case atStart=>exact⟨0,by omega,rfl,_,_,rfl,rfl,rfl⟩
  case round=>
   obtain⟨k,hk,rfl,p,q,rfl,rfl,HR⟩:=hrel
   by_cases hlt:k<ws.length
   ·have hcell:=HC.out k hlt;have HX:Hid _:=qblg f ws k hlt;generalize ws.getD k ByteArray.empty=x at *
    by_cases hp:f x=true
    ·cases q with
     | false=>
      go_wp2_with (go_at_call 113;refine(HP'.out _ _).mono ?_;rintro e w' ⟨rfl,rfl⟩)
      go_round
      case rel=>exact⟨k+1,by omega,by go_num,x,true,rfl,rfl,by rw[HX.out,HR.out];simp[Hid,qkg,hp]⟩
      case measure=>simp[intOf];omega
     | true=>
      by_cases hsz:p.size<x.size
      ·go_wp2_with (go_at_call 113;refine(HP'.out _ _).mono ?_;rintro e w' ⟨rfl,rfl⟩)
       go_round
       case rel=>exact⟨k+1,by omega,by go_num,x,true,rfl,rfl,by rw[HX.out,HR.out];simp[Hid,qkg,hp,hsz]⟩
       case measure=>simp[intOf];omega
      ·go_wp2_with (go_at_call 113;refine(HP'.out _ _).mono ?_;rintro e w' ⟨rfl,rfl⟩)
       go_round
       case rel=>exact⟨k+1,by omega,by go_num,p,true,rfl,rfl,by rw[HX.out,HR.out];simp[Hid,qkg,hp];omega⟩
       case measure=>simp[intOf];omega
    ·have hp':f x=false:=by simpa using hp
     go_wp2_with (go_at_call 113;refine(HP'.out _ _).mono ?_;rintro e w' ⟨rfl,rfl⟩)
     go_round
     case rel=>exact⟨k+1,by omega,by go_num,p,q,rfl,rfl,by rw[HX.out,HR.out];simp[Hid,qkg,hp']⟩
     case measure=>simp[intOf];omega
   ·have HA:Hid (ws.take k=ws):=List.take_of_length_le (by omega)
    (go_wp2_with fail);go_ret2
    exact⟨ret_w (by rw[←HA.out,HR.out]) (by rw[←HA.out,HR.out]),rfl⟩
open Calls renaming quiet_of_same → qbtb
open Go renaming World → QW
set_option maxHeartbeats 1000000
set_option maxRecDepth 100000
def DrAt (W:QW) (B:Nat) (s:QY) (a:Nat) (e p:Int):Prop:=W.heap[B]? = some (.cells #[.string s,.int .i64 (a:Int),.int .i64 e,.int .i64 p] 80 (0,0))
theorem DrAt.seen {W:QW} {B:Nat} {s:QY} {a:Nat} {e p:Int} (h:DrAt W B s a e p):W.cell? ⟨B,0,none⟩=some (.string s)∧W.cell? ⟨B,1,none⟩=some (.int .i64 (a:Int))∧W.cell? ⟨B,2,none⟩=some (.int .i64 e)∧W.cell? ⟨B,3,none⟩=some (.int .i64 p)∧W.frozen? ⟨B,1,none⟩=false∧W.frozen? ⟨B,2,none⟩=false∧W.frozen? ⟨B,3,none⟩=false:=
 ⟨qc 0 h rfl,qc 1 h rfl,qc 2 h rfl,qc 3 h rfl,qf 1 h,qf 2 h,qf 3 h⟩
theorem DrAt.lt {W:QW} {B:Nat} {s:QY} {a:Nat} {e p:Int} (h:DrAt W B s a e p):B<W.heap.size:=(Array.getElem?_eq_some_iff.1 h).1
theorem DrAt.drewN {W:QW} {B:Nat} {s:QY} {a:Nat} {e p:Int} (h:DrAt W B s a e p) (n:Nat):DrAt (W.drewN n) B s a e p:=by unfold DrAt;rw[qbw];exact h
theorem DrAt.place {W:QW} {B:Nat} {s:QY} {a:Nat} {e p:Int} (h:DrAt W B s a e p) (x:Nat):DrAt (W.setCell ⟨B,1,none⟩ (.int .i64 (x:Int))) B s x e p:=qw 1 (.int .i64 (x:Int)) h
theorem DrAt.step {W:QW} {B:Nat} {s:QY} {a:Nat} {e p:Int} (h:DrAt W B s a e p):DrAt (W.setCell ⟨B,1,none⟩ (.int .i64 ((a:Int)+1))) B s (a+1) e p:=h.place (a+1)
theorem DrAt.fault {W:QW} {B:Nat} {s:QY} {a:Nat} {e p:Int} (h:DrAt W B s a e p) (x y:Int):DrAt ((W.setCell ⟨B,2,none⟩ (.int .i64 x)).setCell ⟨B,3,none⟩ (.int .i64 y)) B s a x y:=by
 have h1:DrAt (W.setCell ⟨B,2,none⟩ (.int .i64 x)) B s a x p:=qw 2 (.int .i64 x) h;exact qw 3 (.int .i64 y) h1
theorem DrAt.below {W W':QW} {B:Nat} {s:QY} {a:Nat} {e p:Int} (h:DrAt W B s a e p) (hb:Below W.heap.size W W'):DrAt W' B s a e p:=(hb.block B h.lt).trans h
def qdg (l:QB) (a:Nat):Bool:=(l[a]?.map qfv).getD false
def clsB (l:QB) (a:Nat) (k:Int):Bool:=(l[a]?.map fun c=>isC (c.toNat:Int) k).getD false
theorem markB_in (s:QY) (a:Nat) (h:a<s.size):qdg s.data.toList a=qfv s[a]:=by
 unfold qdg;rw[List.getElem?_eq_getElem (by rw[qg];exact h)];rfl
theorem qbpp (s:QY) (a:Nat) (h:¬ a<s.size):qdg s.data.toList a=false:=by
 unfold qdg;rw[List.getElem?_eq_none (by rw[qg];omega)];rfl
theorem clsB_in (s:QY) (a:Nat) (k:Int) (h:a<s.size):clsB s.data.toList a k=isC (s[a].toNat:Int) k:=by
 unfold clsB;rw[List.getElem?_eq_getElem (by rw[qg];exact h)];rfl
theorem qlv (s:QY) (a:Nat) (k:Int) (h:¬ a<s.size):clsB s.data.toList a k=false:=by
 unfold clsB;rw[List.getElem?_eq_none (by rw[qg];omega)];rfl
theorem qbph (c:UInt8) (w:QW):Calls Tryz.prog 112 #[.int .u8 (c.toNat:Int)] w fun e w'=>e=.returned (.bool (qfv c))∧w'=w:=by
 have HM:Hid (qfv c=(((c.toNat:Int)==45)||((c.toNat:Int)==95)||((c.toNat:Int)==46))):=by
  show _=_;have e:∀ d:UInt8,(c==d)=((c.toNat:Int)==(d.toNat:Int)):=fun d=>by
   rw[Bool.eq_iff_iff];simp only[beq_iff_eq];constructor
   ·intro h;rw[h]
   ·intro h;exact UInt8.toNat_inj.1 (by omega)
  unfold qfv;rw[e,e,e];rfl
 generalize qfv c=M at *;generalize (c.toNat:Int)=x at *;cases h1:(x==45)
 ·cases h2:(x==95)
  ·cases h3:(x==46)
   ·rw[h1,h2,h3]at HM;go_enter Tryz.func112,Tryz.ntmps112
    (go_wp2_with fail);go_ret
    exact⟨qbz HM.out.symm,rfl⟩
   ·rw[h1,h2,h3]at HM;go_enter Tryz.func112,Tryz.ntmps112
    (go_wp2_with fail);go_ret
    exact⟨qbz HM.out.symm,rfl⟩
  ·rw[h1,h2]at HM;have HM:Hid (M=true):=by show _=_;rw[HM.out];simp
   go_enter Tryz.func112,Tryz.ntmps112
   (go_wp2_with fail);go_ret
   exact⟨qbz HM.out.symm,rfl⟩
 ·rw[h1]at HM;have HM:Hid (M=true):=by show _=_;rw[HM.out];simp
  go_enter Tryz.func112,Tryz.ntmps112
  (go_wp2_with fail);go_ret
  exact⟨qbz HM.out.symm,rfl⟩
theorem qlr (B:Nat) (s:QY) (a:Nat) (e p:Int) (k:Nat) (w:QW) (h:DrAt w B s a e p) (ha:a≤s.size) (hk:k≤1) (hs:s.size≤64) :
  Calls Tryz.prog 83 #[.pointer (some ⟨B,0,none⟩),.int .i64 (k:Int)] w fun r w'=>r=.returned (.bool (qdg s.data.toList (a+k)))∧∃ n,w'=w.drewN n:=by
 obtain⟨c0,c1,c2,c3,f1,f2,f3⟩:=h.seen;clear h;obtain⟨j,hj⟩:∃ j,j=a+k:=⟨_,rfl⟩;rw[←hj];have eA:(a:Int)+(k:Int)=(j:Int):=by omega
 have wA:IntKind.i64.wrap (j:Int)=(j:Int):=by rw[IntKind.wrap_i64];omega
 have j0:(0:Int)≤(j:Int):=by omega
 by_cases hl:j<s.size
 ·have hd:((j:Int)<(s.size:Int)):=by omega
  have MK:=qb (fun w=>qbph s[j] w);rw[markB_in s j hl];generalize qfv s[j]=M at *;clear hj ha hk;go_enter Tryz.func83,Tryz.ntmps83
  (go_wp2_with fail);go_quiet (first|(go_at_call 112;exact qbtb (MK.out _))|fail)
  (go_wp2_with fail);go_ret
  exact⟨rfl,_,rfl⟩
 ·have hd:¬ ((j:Int)<(s.size:Int)):=by omega
  rw[qbpp s j hl];clear hj ha hk;go_enter Tryz.func83,Tryz.ntmps83
  (go_wp2_with fail);go_quiet (fail)
  (go_wp2_with fail);go_ret
  exact⟨rfl,_,rfl⟩
theorem qfg (B:Nat) (s:QY) (a:Nat) (e p:Int) (k:Nat) (c:Int) (w:QW) (h:DrAt w B s a e p) (ha:a≤s.size) (hk:k≤1) (hs:s.size≤64) :
  Calls Tryz.prog 54 #[.pointer (some ⟨B,0,none⟩),.int .i64 (k:Int),.int .i64 c] w fun r w'=>r=.returned (.bool (clsB s.data.toList (a+k) c))∧∃ n,w'=w.drewN n:=by
 obtain⟨c0,c1,c2,c3,f1,f2,f3⟩:=h.seen;clear h;obtain⟨j,hj⟩:∃ j,j=a+k:=⟨_,rfl⟩;rw[←hj];have eA:(a:Int)+(k:Int)=(j:Int):=by omega
 have wA:IntKind.i64.wrap (j:Int)=(j:Int):=by rw[IntKind.wrap_i64];omega
 have j0:(0:Int)≤(j:Int):=by omega
 by_cases hl:j<s.size
 ·have hd:((j:Int)<(s.size:Int)):=by omega
  have MK:=qb (fun w=>qpv (s[j].toNat:Int) c w);rw[clsB_in s j c hl];generalize isC (s[j].toNat:Int) c=M at *;clear hj ha hk;go_enter Tryz.func54,Tryz.ntmps54
  (go_wp2_with fail);go_quiet (first|(go_at_call 68;exact qbtb (MK.out _))|fail)
  (go_wp2_with fail);go_ret
  exact⟨rfl,_,rfl⟩
 ·have hd:¬ ((j:Int)<(s.size:Int)):=by omega
  rw[qlv s j c hl];clear hj ha hk;go_enter Tryz.func54,Tryz.ntmps54
  (go_wp2_with fail);go_quiet (fail)
  (go_wp2_with fail);go_ret
  exact⟨rfl,_,rfl⟩
theorem qgr (B:Nat) (s:QY) (a:Nat) (e p:Int) (w:QW) (h:DrAt w B s a e p) (ha:a≤s.size) (hs:s.size≤64) :
  Calls Tryz.prog 53 #[.pointer (some ⟨B,0,none⟩)] w fun r w'=>r=.returned (.string (qd (qr (seg s.data.toList a (a+qp 1 (s.data.toList.drop a))))))∧DrAt w' B s (a+qp 1 (s.data.toList.drop a)) e p∧Turn B w w':=by
 obtain⟨c0,c1,c2,c3,f1,f2,f3⟩:=h.seen;have H:=qb h;clear h;have hr:=qdr 1 s a ha;have HR:=qdl s a 1 ha;obtain⟨E,hE⟩:∃ E,E=a+qp 1 (s.data.toList.drop a):=⟨_,rfl⟩;rw[←hE]at hr ⊢;have hRI:runI s.data.toList (a:Int) 1=(E:Int):=by rw[HR,hE];simp
 have R1:=qb (fun W=>qhc s (a:Int) 1 W (by unfold maxLen;omega))
 rw[hRI]at R1;have TM:=fun w=>qjl (s.extract a E) w (by rw[qfx,qn];unfold maxLen seg;simp only[List.length_drop,List.length_take];rw[qg];omega)
 rw[qdf]at TM;have TM:=qb TM;have i0:(0:Int)≤(a:Int):=Int.natCast_nonneg _;have i1:(a:Int)≤(E:Int):=by omega
 have i2:(E:Int)≤(s.size:Int):=by omega
 clear hRI HR hE;go_enter Tryz.func53,Tryz.ntmps53
 (go_wp2_with fail);go_quiet (first|(go_at_call 52;exact qbtb (R1.out _))|fail)
 generalize hn1:w.drewN nq=w1 at *;have H1:DrAt w1 B s a e p:=by rw[←hn1];exact H.out.drewN _
 have T1:Turn B w w1:=by rw[←hn1];exact Turn.drewN _ _ _
 clear hn1 c0 c1 c2 c3 f1 f2 f3;obtain⟨c0,c1,c2,c3,f1,f2,f3⟩:=H1.seen;(go_wp2_with fail);go_quiet (fail)
 (go_wp2_with fail);refine(TM.out _).mono ?_;rintro r w' ⟨rfl,hw'⟩;rw[hw'];clear hw' w';(go_wp2_with fail);go_ret
 exact⟨rfl,(H1.drewN _).place _,T1.trans ((Turn.drewN _ _ _).trans (Turn.set _ _ _ _))⟩
theorem qrb (B:Nat) (s:QY) (a:Nat) (p:Int) (w:QW) (h:DrAt w B s a 0 p) (ha:a≤s.size) (hs:s.size≤64) :
  Calls Tryz.prog 55 #[.pointer (some ⟨B,0,none⟩)] w fun r w'=>r=.returned (.tuple #[])∧DrAt w' B s a (misL s.size a) (a:Int)∧Turn B w w':=by
 obtain⟨c0,c1,c2,c3,f1,f2,f3⟩:=h.seen;have H:=qb h;clear h
 by_cases hl:a<s.size
 ·have hM:misL s.size a=10:=by unfold misL;rw[if_neg (by omega)]
  rw[hM];have hd:¬ ((s.size:Int)≤(a:Int)):=by omega
  have hd2:decide ((s.size:Int)≤(a:Int))=false:=by simpa using hd
  clear hM hl ha;go_enter Tryz.func55,Tryz.ntmps55
  (go_wp2_with fail);go_quiet (fail)
  generalize hn1:w.drewN nq=w1 at *;have H1:DrAt w1 B s a 0 p:=by rw[←hn1];exact H.out.drewN _
  have T1:Turn B w w1:=by rw[←hn1];exact Turn.drewN _ _ _
  clear hn1 c0 c1 c2 c3 f1 f2 f3;obtain⟨c0,c1,c2,c3,f1,f2,f3⟩:=H1.seen;(go_wp2_with fail);go_end0
  exact⟨rfl,H1.fault _ _,T1.trans ((Turn.set _ _ _ _).trans (Turn.set _ _ _ _))⟩
 ·have hM:misL s.size a=11:=by unfold misL;rw[if_pos (by omega)]
  rw[hM];have hd:((s.size:Int)≤(a:Int)):=by omega
  have hd2:decide ((s.size:Int)≤(a:Int))=true:=by simpa using hd
  clear hM hl ha;go_enter Tryz.func55,Tryz.ntmps55
  (go_wp2_with fail);go_quiet (fail)
  generalize hn1:w.drewN nq=w1 at *;have H1:DrAt w1 B s a 0 p:=by rw[←hn1];exact H.out.drewN _
  have T1:Turn B w w1:=by rw[←hn1];exact Turn.drewN _ _ _
  clear hn1 c0 c1 c2 c3 f1 f2 f3;obtain⟨c0,c1,c2,c3,f1,f2,f3⟩:=H1.seen;(go_wp2_with fail);go_end0
  exact⟨rfl,H1.fault _ _,T1.trans ((Turn.set _ _ _ _).trans (Turn.set _ _ _ _))⟩
set_option maxHeartbeats 1000000
set_option maxRecDepth 100000
theorem qgz (l:QB) (a:Nat) (k:Int):(qp k (l.drop a)=0)↔clsB l a k=false:=by
 unfold clsB
 by_cases h:a<l.length
 ·rw[List.drop_eq_getElem_cons h,List.getElem?_eq_getElem h];simp only[Option.map_some,Option.getD_some];rw[qp];cases isC (l[a].toNat:Int) k<;>simp
 ·rw[List.drop_eq_nil_of_le (by omega),List.getElem?_eq_none (by omega)]
  simp[qp]
theorem qvq (c:UInt8) (h:qfv c=true):isC (c.toNat:Int) 1=false:=by
 unfold qfv at h;simp only[Bool.or_eq_true,beq_iff_eq]at h;rcases h with (rfl|rfl)|rfl<;>rfl
theorem mark_cls (l:QB) (a:Nat) (h:qdg l a=true):clsB l a 1=false:=by
 unfold qdg at h;unfold clsB;cases hl:l[a]? with
 | none=>rw[hl]at h;simp at h
 | some c=>rw[hl]at h;simp only[Option.map_some,Option.getD_some]at h ⊢;exact qvq c h
theorem qbcc {l:QB} {a:Nat} (h:qdg l a=true):qbd l a=a+1:=by unfold qbd;unfold qdg at h;rw[if_pos h]
theorem qbck {l:QB} {a:Nat} (h:qdg l a=false):qbd l a=a:=by unfold qbd;unfold qdg at h;rw[if_neg (by simp[h])]
theorem dig_t {l:QB} {b:Nat} (h1:qdg l b=true) (h2:clsB l (b+1) 1=true):digP l b=b+1+qp 1 (l.drop (b+1))∧digT l b=seg l (b+1) (b+1+qp 1 (l.drop (b+1))):=by
 have hr:qp 1 (l.drop (b+1))≠0:=fun h=>by rw[(qgz l (b+1) 1).1 h]at h2;cases h2
 unfold digP digT digE;rw[qbcc h1,if_pos (by omega)]
 exact⟨rfl,rfl⟩
theorem dig_f {l:QB} {b:Nat} (h1:qdg l b=true) (h2:clsB l (b+1) 1=false):digP l b=b∧digT l b=[]:=by
 have hr:qp 1 (l.drop (b+1))=0:=(qgz l (b+1) 1).2 h2;unfold digP digT digE;rw[qbcc h1,hr,if_neg (by omega),Nat.add_zero]
 exact⟨rfl,qbdw _ _⟩
theorem dig_n {l:QB} {b:Nat} (h1:qdg l b=false) (h2:clsB l b 1=true):digP l b=b+qp 1 (l.drop b)∧digT l b=seg l b (b+qp 1 (l.drop b)):=by
 have hr:qp 1 (l.drop b)≠0:=fun h=>by rw[(qgz l b 1).1 h]at h2;cases h2
 unfold digP digT digE;rw[qbck h1,if_pos (by omega)]
 exact⟨rfl,rfl⟩
theorem dig_0 {l:QB} {b:Nat} (h1:qdg l b=false) (h2:clsB l b 1=false):digP l b=b∧digT l b=[]:=by
 have hr:qp 1 (l.drop b)=0:=(qgz l b 1).2 h2;unfold digP digT digE;rw[qbck h1,hr,if_neg (by omega),Nat.add_zero]
 exact⟨rfl,qbdw _ _⟩
theorem qbgw:qr []=[48]:=rfl
theorem qmd (B:Nat) (s:QY) (b:Nat) (e p:Int) (w:World) (h:DrAt w B s b e p) (hb:b≤s.size) (hs:s.size≤64) :
  Calls Tryz.prog 58 #[.pointer (some ⟨B,0,none⟩)] w fun r w'=>r=.returned (.string (qd (qr (digT s.data.toList b))))∧DrAt w' B s (digP s.data.toList b) e p∧Turn B w w':=by
 have M0:=qb (fun w h=>qlr B s b e p 0 w h hb (by omega) hs)
 have I0:=qb (fun w h=>qfg B s b e p 0 1 w h hb (by omega) hs)
 have I1:=qb (fun w h=>qfg B s b e p 1 1 w h hb (by omega) hs)
 simp only[Nat.add_zero]at M0 I0;have H:=qb h;clear h;cases hm:qdg s.data.toList b
 ·rw [hm]at M0;cases hd:clsB s.data.toList b 1
  ·rw[hd]at I0;obtain⟨e1,e2⟩:=dig_0 hm hd;rw[e1,e2,qbgw];clear e1 e2 hm hd;go_enter Tryz.func58,Tryz.ntmps58
   (go_wp2_with fail);refine(M0.out _ H.out).mono ?_;rintro r w1 ⟨rfl,n1,rfl⟩;(go_wp2_with fail);refine(I0.out _ (H.out.drewN _)).mono ?_;rintro r w2 ⟨rfl,n2,rfl⟩;(go_wp2_with fail);go_ret
   exact⟨rfl,H.out.drewN _,Turn.drewN _ _ _⟩
  ·rw[hd]at I0;obtain⟨e1,e2⟩:=dig_n hm hd;rw[e1,e2];have DG:=qb (fun w h=>qgr B s b e p w h hb hs);clear e1 e2 hm hd;go_enter Tryz.func58,Tryz.ntmps58
   (go_wp2_with fail);refine(M0.out _ H.out).mono ?_;rintro r w1 ⟨rfl,n1,rfl⟩;(go_wp2_with fail);refine(I0.out _ (H.out.drewN _)).mono ?_;rintro r w2 ⟨rfl,n2,rfl⟩;(go_wp2_with fail);refine(DG.out _ (H.out.drewN _)).mono ?_;rintro r w3 ⟨rfl,h3,t3⟩;(go_wp2_with fail);go_ret
   exact⟨rfl,h3,(Turn.drewN _ _ _).trans t3⟩
 ·rw [hm]at M0;have hdb:=mark_cls _ _ hm;cases hd:clsB s.data.toList (b+1) 1
  ·rw[hd]at I1;rw[hdb]at I0;obtain⟨e1,e2⟩:=dig_f hm hd;rw[e1,e2,qbgw];clear e1 e2 hm hd hdb;go_enter Tryz.func58,Tryz.ntmps58
   (go_wp2_with fail);refine(M0.out _ H.out).mono ?_;rintro r w1 ⟨rfl,n1,rfl⟩;(go_wp2_with fail);refine(I1.out _ (H.out.drewN _)).mono ?_;rintro r w2 ⟨rfl,n2,rfl⟩;(go_wp2_with fail);refine(I0.out _ (H.out.drewN _)).mono ?_;rintro r w3 ⟨rfl,n3,rfl⟩;(go_wp2_with fail);go_ret
   exact⟨rfl,H.out.drewN _,Turn.drewN _ _ _⟩
  ·rw [hd]at I1;obtain⟨e1,e2⟩:=dig_t hm hd;rw[e1,e2];have hb1:b+1≤s.size:=by
    by_cases hl:b+1<s.size
    ·omega
    ·rw[qlv s _ _ hl]at hd;cases hd
   have I2:=qb (fun w h=>qfg B s (b+1) e p 0 1 w h hb1 (by omega) hs)
   simp only[Nat.add_zero]at I2;rw[hd]at I2;have DG:=qb (fun w h=>qgr B s (b+1) e p w h hb1 hs);have hw:IntKind.i64.wrap ((b:Int)+1)=(b:Int)+1:=by rw[IntKind.wrap_i64];omega
   clear e1 e2 hm hd hdb;go_enter Tryz.func58,Tryz.ntmps58
   (go_wp2_with fail);refine(M0.out _ H.out).mono ?_;rintro r w1 ⟨rfl,n1,hw1⟩;have H1:DrAt w1 B s b e p:=by rw[hw1];exact H.out.drewN _
   have T1:Turn B w w1:=by rw[hw1];exact Turn.drewN _ _ _
   clear hw1;(go_wp2_with fail);refine(I1.out _ H1).mono ?_;rintro r w2 ⟨rfl,n2,hw2⟩;have H2:DrAt w2 B s b e p:=by rw[hw2];exact H1.drewN _
   have T2:Turn B w w2:=by rw[hw2];exact T1.trans (Turn.drewN _ _ _)
   clear hw2 H1 T1;obtain⟨c0,c1,c2,c3,f1,f2,f3⟩:=H2.seen;(go_wp2_with fail);refine(I2.out _ H2.step).mono ?_;rintro r w3 ⟨rfl,n3,hw3⟩;have H3:DrAt w3 B s (b+1) e p:=by rw[hw3];exact H2.step.drewN _
   have T3:Turn B w w3:=by rw[hw3];exact T2.trans ((Turn.set _ _ _ _).trans (Turn.drewN _ _ _))
   clear hw3 H2 T2;(go_wp2_with fail);refine(DG.out _ H3).mono ?_;rintro r w4 ⟨rfl,h4,t4⟩;(go_wp2_with fail);go_ret
   exact⟨rfl,h4,T3.trans t4⟩
def letC (x:QB):Int:=if x=[97,108,112,104,97]∨x=[97] then 97 else if x=[98,101,116,97]∨x=[98] then 98 else 114
theorem qbft (x:QB) (w:World):Calls Tryz.prog 57 #[.string (qd x)] w fun e w'=>e=.returned (.int .u8 (letC x))∧w'=w:=by
 have q:∀ y:QB,((qd x).toList==y)=decide (x=y):=fun y=>by
  rw[toL,qj];rw[Bool.eq_iff_iff];simp
 have q1:=q [97,108,112,104,97];have q2:=q [97];have q3:=q [98,101,116,97];have q4:=q [98];clear q;have HL:Hid (letC x=if x=[97,108,112,104,97]∨x=[97] then 97 else if x=[98,101,116,97]∨x=[98] then 98 else 114):=rfl;generalize letC x=L at *;generalize qd x=s at *
 by_cases h1:x=[97,108,112,104,97]
 ·rw[decide_eq_true h1]at q1;have HL:Hid (L=97):=by show _=_;rw[HL.out,if_pos (.inl h1)]
  clear h1 q2 q3 q4;go_enter Tryz.func57,Tryz.ntmps57
  (go_wp2_with fail);go_ret
  exact⟨by rw[HL.out];rfl,rfl⟩
 ·rw [decide_eq_false h1]at q1
  by_cases h2:x=[97]
  ·rw[decide_eq_true h2]at q2;have HL:Hid (L=97):=by show _=_;rw[HL.out,if_pos (.inr h2)]
   clear h1 h2 q3 q4;go_enter Tryz.func57,Tryz.ntmps57
   (go_wp2_with fail);go_ret
   exact⟨by rw[HL.out];rfl,rfl⟩
  ·rw [decide_eq_false h2]at q2
   by_cases h3:x=[98,101,116,97]
   ·rw[decide_eq_true h3]at q3;have HL:Hid (L=98):=by show _=_;rw[HL.out,if_neg (by rintro(h|h);exact h1 h;exact h2 h),if_pos (.inl h3)]
    clear h1 h2 h3 q4;go_enter Tryz.func57,Tryz.ntmps57
    (go_wp2_with fail);go_ret
    exact⟨by rw[HL.out];rfl,rfl⟩
   ·rw [decide_eq_false h3]at q3
    by_cases h4:x=[98]
    ·rw[decide_eq_true h4]at q4;have HL:Hid (L=98):=by show _=_;rw[HL.out,if_neg (by rintro(h|h);exact h1 h;exact h2 h),if_pos (.inr h4)]
     clear h1 h2 h3 h4;go_enter Tryz.func57,Tryz.ntmps57
     (go_wp2_with fail);go_ret
     exact⟨by rw[HL.out];rfl,rfl⟩
    ·rw[decide_eq_false h4]at q4;have HL:Hid (L=114):=by show _=_;rw[HL.out,if_neg (by rintro(h|h);exact h1 h;exact h2 h),if_neg (by rintro(h|h);exact h3 h;exact h4 h)]
     clear h1 h2 h3 h4;go_enter Tryz.func57,Tryz.ntmps57
     (go_wp2_with fail);go_ret
     exact⟨by rw[HL.out];rfl,rfl⟩
end Go.Proofs.YtabmfdedbpmfmaaGreat
