/- Walks: a version, or the beginning of one. -/
import Derived.Deep.Cut
import Derived.Test.YtabmfdedbpmfmaaGreatVHf
import Derived.Test.YtabmfdedbpmfmaaGreatVGga
namespace Go.Proofs.YtabmfdedbpmfmaaGreat
open Go.RowKit Go.Shelf
set_option linter.unusedVariables false
set_option maxHeartbeats 4000000
set_option maxRecDepth 100000
theorem qfw (s:QY) (w:World) (ha:okP s.data.toList=true) :
  Calls Tryz.prog 36 #[.string s] w (qdv (qbn (fun _=>true) s.data.toList) w):=by
 have P1:=fun w=>qblj s w ha;have HX:Hid (qbn (fun _=>true) s.data.toList=.ok (ql (qk s.data.toList)) s.data.toList false):=qb (by unfold qbn;rw[ha];rfl)
 rw[HX.out];generalize ql (qk s.data.toList)=x at *;have P1:=qb P1;clear ha HX;have R0:=RB.start w;go_enter Tryz.func36,Tryz.ntmps36
 (go_wp2_with fail);refine(P1.out _).mono ?_;rintro e w1 ⟨vr,vl,rfl,t1,t2,fr1,fr2,b1⟩;simp only[World.size_alloc]at fr1 fr2;obtain⟨r1,c1,rfl,_⟩:=id t1;obtain⟨q1,d1,rfl,_⟩:=id t2
 try unfold pepV
 obtain⟨V,hV,nP,nF,bV,sV⟩:=qm w1 #[.string (qd x.ep),.slice r1 x.rel.length c1,.int .u8 x.c,.string (qd x.n),.bool x.b,.string (qd x.m),.bool x.d,.string (qd x.k),.slice q1 x.loc.length d1] #[.int .i64 0,.int .i64 0] 44 25;have HV:=qb hV;clear hV;have R2:=(R0.below b1).below bV;have hlt:=R2.lt;obtain⟨x0,x1,x2,x3,x4,x5,x6,x7,x8,x9,x10,y0,y1,y2,y3,y4,y5,y6,y7,y8,y9,y10⟩:=qh R2.ver;obtain⟨f0,f1,g0,g1⟩:=qv R2.flt;obtain⟨u0,u1,_,_⟩:=qv nF;obtain⟨s0,s1,s2,s3,s4,s5,s6,s7,s8,_⟩:=qbw nP;obtain⟨W9,hW9,hRQ,hT9⟩:=R2.put13 (.string (qd x.ep)) (.slice r1 x.rel.length c1) (.int .u8 x.c) (.string (qd x.n)) (.bool x.b) (.string (qd x.m)) (.bool x.d) (.string (qd x.k)) (.slice q1 x.loc.length d1) (.string s) (.bool false) (.int .i64 0) (.int .i64 0);have HW9:=qb hW9;clear hW9;have RQ:=qb hRQ;have TQ:=qb hT9;clear hRQ hT9;have T1:=qb (t1.below bV);have T2:=qb (t2.below bV);have F1:=qb fr1;have F2:=qb fr2;clear nP nF bV R0 R2 b1 P1 t1 t2 fr1 fr2;go_upto_region 2 with fail
 rw[HV.out];have hW9:=HW9.out.symm;(go_wp2_with fail);refine fin36 _ _ w.heap.size (w.heap.size+1) _ _ _ _ _ _ _ _ _ _ _ _ _ ⟨_,_,_,rfl⟩ ⟨_,_,_,rfl⟩ rfl rfl RQ.out.ver RQ.out.flt ?_;exact⟨RQ.out.bel,_,_,by rw[qdb];rfl,TQ.out _ _ T1.out F1.out,TQ.out _ _ T2.out F2.out,F1.out.mono (Nat.le_add_right _ 2),F2.out.mono (Nat.le_add_right _ 2)⟩
set_option maxHeartbeats 4000000
set_option maxRecDepth 100000
theorem qbbr (s:QY) (w:World) (hs:s.size≤140737488351232) :
  Calls Tryz.prog 168 #[.string s,.func (.func 169) #[] #[]] w (qdv (qbn (fun x=>pubB x&&decide (1<x.rel.length)) s.data.toList) w):=by
 have P1:∀ w,Calls Tryz.prog 36 #[.string s] w (qdv (qbn (fun _=>true) s.data.toList) w):=fun w=>by
  cases h:okP s.data.toList
  ·exact qft s w hs h
  ·exact qfw s w h
 unfold qbn at P1 ⊢;rw[if_pos rfl]at P1;cases ha:okP s.data.toList
 ·have n1:=qcx _ ha;rw[ha]at P1;rw[if_neg (by simp)]
  rw[if_neg (by simp)]at P1
  have HE:Hid ((errX s.data.toList).1≠0):=qb (by simpa using n1)
  generalize (errX s.data.toList).1=e1 at *;generalize (errX s.data.toList).2=p1 at *;have P1:=qb P1;clear ha;have R0:=RB.start w;go_enter Tryz.func168,Tryz.ntmps168
  (go_wp2_with fail);refine(P1.out _).mono ?_;rintro e w1 ⟨b1,_,st,rfl⟩
  try unfold zerV
  obtain⟨V,hV,nP,nF,bV,sV⟩:=qm w1 #[.string ⟨#[]⟩,.slice none 0 0,.int .u8 0,.string ⟨#[]⟩,.bool false,.string ⟨#[]⟩,.bool false,.string ⟨#[]⟩,.slice none 0 0,.string ⟨#[]⟩,.bool st] #[.int .i64 e1,.int .i64 (p1:Int)] 59 25;have R2:=(R0.below b1).below bV;have hlt:=R2.lt;obtain⟨x0,x1,x2,x3,x4,x5,x6,x7,x8,x9,x10,y0,y1,y2,y3,y4,y5,y6,y7,y8,y9,y10⟩:=qh R2.ver;obtain⟨f0,f1,g0,g1⟩:=qv R2.flt;obtain⟨u0,u1,_,_⟩:=qv nF;obtain⟨s0,s1,s2,s3,s4,s5,s6,s7,s8,s9,s10,_⟩:=qh nP;obtain⟨W9,hW9,hRQ,hT9⟩:=R2.put13 (.string ⟨#[]⟩) (.slice none 0 0) (.int .u8 0) (.string ⟨#[]⟩) (.bool false) (.string ⟨#[]⟩) (.bool false) (.string ⟨#[]⟩) (.slice none 0 0) (.string ⟨#[]⟩) (.bool st) (.int .i64 e1) (.int .i64 (p1:Int));replace hW9:=hW9.symm;have RQ:=qb hRQ;have TQ:=qb hT9;clear hRQ hT9;clear nP nF bV R0 b1 P1 R2;(go_wp2_with fail);go_region
  all_goals
   (go_wp2_with fail);refine qln _ _ w.heap.size (w.heap.size+1) _ _ _ _ _ _ _ _ _ _ _ _ _ ⟨_,_,_,rfl⟩ ⟨_,_,_,rfl⟩ rfl rfl RQ.out.ver RQ.out.flt ?_;exact⟨RQ.out.bel.drew,HE.out,st,rfl⟩
 ·rw [ha]at P1;rw[if_pos rfl];rw[if_pos rfl]at P1;generalize ql (qk s.data.toList)=x at *;have P1:=qb P1;have MC:=fun r1 q1 c1 d1 W=>qbgq x r1 q1 c1 d1 W
  try dsimp only
  obtain⟨B,hB⟩:∃ B,(pubB x&&decide (1<x.rel.length))=B:=⟨_,rfl⟩;simp only[hB]at MC ⊢;have MC:=qb MC;generalize hR:(if B=true then Wd.ok x s.data.toList false else Wd.bad 19 0)=R;have HRR:=qb hR;clear ha hB hR;have R0:=RB.start w;go_enter Tryz.func168,Tryz.ntmps168
  (go_wp2_with fail);refine(P1.out _).mono ?_;rintro e w1 ⟨b1,vr,vl,rfl,t1,t2,fr1,fr2⟩;simp only[World.size_alloc]at fr1 fr2;obtain⟨r1,c1,rfl,_⟩:=id t1;obtain⟨q1,d1,rfl,_⟩:=id t2
  try unfold verV
  obtain⟨V,hV,nP,nF,bV,sV⟩:=qm w1 #[.string (qd x.ep),.slice r1 x.rel.length c1,.int .u8 x.c,.string (qd x.n),.bool x.b,.string (qd x.m),.bool x.d,.string (qd x.k),.slice q1 x.loc.length d1,.string (qd s.data.toList),.bool false] #[.int .i64 0,.int .i64 0] 59 25;have hq:w.heap.size+1<w1.heap.size:=(R0.below b1).lt;have HV:=qb hV;clear hV;have R2:=(R0.below b1).below bV;have hlt:=R2.lt;obtain⟨u0,u1,_,_⟩:=qv nF;obtain⟨s0,s1,s2,s3,s4,s5,s6,s7,s8,s9,s10,_⟩:=qh nP;have NP:=qb nP;have NF:=qb nF;have HR2:=qb R2;have F1:=qb fr1;have F2:=qb fr2;have T1:=qb (t1.below bV);have T2:=qb (t2.below bV);have HLT:Hid (w1.heap.size+1<V.heap.size):=(Array.getElem?_eq_some_iff.1 nF).1;clear nP nF bV R0 R2 b1 P1 t1 t2 fr1 fr2;go_upto_region 2 with fail
  rw[HV.out];(go_wp2_with fail);refine(MC.out _ _ _ _ _).mono ?_;rintro e w3 ⟨rfl,b3⟩;have R3:=HR2.out.below b3;have nP:=(b3.block _ (by have:=HLT.out;omega)).trans NP.out
  have nF:=(b3.block _ HLT.out).trans NF.out;clear hlt u0 u1 s0 s1 s2 s3 s4 s5 s6 s7 s8 s9 s10;obtain⟨x0,x1,x2,x3,x4,x5,x6,x7,x8,x9,x10,y0,y1,y2,y3,y4,y5,y6,y7,y8,y9,y10⟩:=qh R3.ver;obtain⟨f0,f1,g0,g1⟩:=qv R3.flt;obtain⟨u0,u1,_,_⟩:=qv nF;obtain⟨s0,s1,s2,s3,s4,s5,s6,s7,s8,s9,s10,_⟩:=qh nP;have hlt:=R3.lt;have U1:=qb (T1.out.below b3);have U2:=qb (T2.out.below b3);have HR3:=qb R3;clear R3 nP nF b3 T1 T2 HR2 NP NF;cases B
  ·obtain⟨W9,hW9,hRQ,hT9⟩:=HR3.out.put13 (.string ⟨#[]⟩) (.slice none 0 0) (.int .u8 0) (.string ⟨#[]⟩) (.bool false) (.string ⟨#[]⟩) (.bool false) (.string ⟨#[]⟩) (.slice none 0 0) (.string ⟨#[]⟩) (.bool false) (.int .i64 19) (.int .i64 0);replace hW9:=hW9.symm;have RQ:=qb hRQ;have TQ:=qb hT9;clear hRQ hT9;(go_wp2_with fail);refine qln _ _ w.heap.size (w.heap.size+1) _ _ _ _ _ _ _ _ _ _ _ _ _ ⟨_,_,_,rfl⟩ ⟨_,_,_,rfl⟩ rfl rfl RQ.out.ver RQ.out.flt ?_;have HE9:R=.bad 19 0:=by rw[←HRR.out];simp
   rw[HE9];exact⟨RQ.out.bel,by decide,false,rfl⟩
  ·obtain ⟨W9,hW9,hRQ,hT9⟩:=HR3.out.put13 (.string (qd x.ep)) (.slice r1 x.rel.length c1) (.int .u8 x.c) (.string (qd x.n)) (.bool x.b) (.string (qd x.m)) (.bool x.d) (.string (qd x.k)) (.slice q1 x.loc.length d1) (.string (qd s.data.toList)) (.bool false) (.int .i64 0) (.int .i64 0);replace hW9:=hW9.symm;have RQ:=qb hRQ;have TQ:=qb hT9;clear hRQ hT9;(go_wp2_with fail);go_region
   all_goals
    (go_wp2_with fail);refine qln _ _ w.heap.size (w.heap.size+1) _ _ _ _ _ _ _ _ _ _ _ _ _ ⟨_,_,_,rfl⟩ ⟨_,_,_,rfl⟩ rfl rfl RQ.out.ver RQ.out.flt ?_;have HE9:R=.ok x s.data.toList false:=by rw[←HRR.out];simp
    rw[HE9];exact⟨RQ.out.bel.drew,_,_,rfl,(TQ.out _ _ U1.out F1.out).below ((Below.refl _ _).drew),(TQ.out _ _ U2.out F2.out).below ((Below.refl _ _).drew),F1.out.mono (Nat.le_add_right _ 2),F2.out.mono (Nat.le_add_right _ 2)⟩
set_option maxHeartbeats 4000000
set_option maxRecDepth 100000
theorem qbbx (s:QY) (w:World) (hs:s.size≤140737488351232) :
  Calls Tryz.prog 168 #[.string s,.func (.func 170) #[] #[]] w (qdv (qbn pubB s.data.toList) w):=by
 have P1:∀ w,Calls Tryz.prog 36 #[.string s] w (qdv (qbn (fun _=>true) s.data.toList) w):=fun w=>by
  cases h:okP s.data.toList
  ·exact qft s w hs h
  ·exact qfw s w h
 unfold qbn at P1 ⊢;rw[if_pos rfl]at P1;cases ha:okP s.data.toList
 ·have n1:=qcx _ ha;rw[ha]at P1;rw[if_neg (by simp)]
  rw[if_neg (by simp)]at P1
  have HE:Hid ((errX s.data.toList).1≠0):=qb (by simpa using n1)
  generalize (errX s.data.toList).1=e1 at *;generalize (errX s.data.toList).2=p1 at *;have P1:=qb P1;clear ha;have R0:=RB.start w;go_enter Tryz.func168,Tryz.ntmps168
  (go_wp2_with fail);refine(P1.out _).mono ?_;rintro e w1 ⟨b1,_,st,rfl⟩
  try unfold zerV
  obtain⟨V,hV,nP,nF,bV,sV⟩:=qm w1 #[.string ⟨#[]⟩,.slice none 0 0,.int .u8 0,.string ⟨#[]⟩,.bool false,.string ⟨#[]⟩,.bool false,.string ⟨#[]⟩,.slice none 0 0,.string ⟨#[]⟩,.bool st] #[.int .i64 e1,.int .i64 (p1:Int)] 59 25;have R2:=(R0.below b1).below bV;have hlt:=R2.lt;obtain⟨x0,x1,x2,x3,x4,x5,x6,x7,x8,x9,x10,y0,y1,y2,y3,y4,y5,y6,y7,y8,y9,y10⟩:=qh R2.ver;obtain⟨f0,f1,g0,g1⟩:=qv R2.flt;obtain⟨u0,u1,_,_⟩:=qv nF;obtain⟨s0,s1,s2,s3,s4,s5,s6,s7,s8,s9,s10,_⟩:=qh nP;obtain⟨W9,hW9,hRQ,hT9⟩:=R2.put13 (.string ⟨#[]⟩) (.slice none 0 0) (.int .u8 0) (.string ⟨#[]⟩) (.bool false) (.string ⟨#[]⟩) (.bool false) (.string ⟨#[]⟩) (.slice none 0 0) (.string ⟨#[]⟩) (.bool st) (.int .i64 e1) (.int .i64 (p1:Int));replace hW9:=hW9.symm;have RQ:=qb hRQ;have TQ:=qb hT9;clear hRQ hT9;clear nP nF bV R0 b1 P1 R2;(go_wp2_with fail);go_region
  all_goals
   (go_wp2_with fail);refine qln _ _ w.heap.size (w.heap.size+1) _ _ _ _ _ _ _ _ _ _ _ _ _ ⟨_,_,_,rfl⟩ ⟨_,_,_,rfl⟩ rfl rfl RQ.out.ver RQ.out.flt ?_;exact⟨RQ.out.bel.drew,HE.out,st,rfl⟩
 ·rw [ha]at P1;rw[if_pos rfl];rw[if_pos rfl]at P1;generalize ql (qk s.data.toList)=x at *;have P1:=qb P1;have MC:=fun r1 q1 c1 d1 W=>qhb x r1 q1 c1 d1 W
  try dsimp only
  obtain⟨B,hB⟩:∃ B,(pubB x)=B:=⟨_,rfl⟩;simp only[hB]at MC ⊢;have MC:=qb MC;generalize hR:(if B=true then Wd.ok x s.data.toList false else Wd.bad 19 0)=R;have HRR:=qb hR;clear ha hB hR;have R0:=RB.start w;go_enter Tryz.func168,Tryz.ntmps168
  (go_wp2_with fail);refine(P1.out _).mono ?_;rintro e w1 ⟨b1,vr,vl,rfl,t1,t2,fr1,fr2⟩;simp only[World.size_alloc]at fr1 fr2;obtain⟨r1,c1,rfl,_⟩:=id t1;obtain⟨q1,d1,rfl,_⟩:=id t2
  try unfold verV
  obtain⟨V,hV,nP,nF,bV,sV⟩:=qm w1 #[.string (qd x.ep),.slice r1 x.rel.length c1,.int .u8 x.c,.string (qd x.n),.bool x.b,.string (qd x.m),.bool x.d,.string (qd x.k),.slice q1 x.loc.length d1,.string (qd s.data.toList),.bool false] #[.int .i64 0,.int .i64 0] 59 25;have hq:w.heap.size+1<w1.heap.size:=(R0.below b1).lt;have HV:=qb hV;clear hV;have R2:=(R0.below b1).below bV;have hlt:=R2.lt;obtain⟨u0,u1,_,_⟩:=qv nF;obtain⟨s0,s1,s2,s3,s4,s5,s6,s7,s8,s9,s10,_⟩:=qh nP;have NP:=qb nP;have NF:=qb nF;have HR2:=qb R2;have F1:=qb fr1;have F2:=qb fr2;have T1:=qb (t1.below bV);have T2:=qb (t2.below bV);have HLT:Hid (w1.heap.size+1<V.heap.size):=(Array.getElem?_eq_some_iff.1 nF).1;clear nP nF bV R0 R2 b1 P1 t1 t2 fr1 fr2;go_upto_region 2 with fail
  rw[HV.out];(go_wp2_with fail);refine(MC.out _ _ _ _ _).mono ?_;rintro e w3 ⟨rfl,b3⟩;have R3:=HR2.out.below b3;have nP:=(b3.block _ (by have:=HLT.out;omega)).trans NP.out
  have nF:=(b3.block _ HLT.out).trans NF.out;clear hlt u0 u1 s0 s1 s2 s3 s4 s5 s6 s7 s8 s9 s10;obtain⟨x0,x1,x2,x3,x4,x5,x6,x7,x8,x9,x10,y0,y1,y2,y3,y4,y5,y6,y7,y8,y9,y10⟩:=qh R3.ver;obtain⟨f0,f1,g0,g1⟩:=qv R3.flt;obtain⟨u0,u1,_,_⟩:=qv nF;obtain⟨s0,s1,s2,s3,s4,s5,s6,s7,s8,s9,s10,_⟩:=qh nP;have hlt:=R3.lt;have U1:=qb (T1.out.below b3);have U2:=qb (T2.out.below b3);have HR3:=qb R3;clear R3 nP nF b3 T1 T2 HR2 NP NF;cases B
  ·obtain⟨W9,hW9,hRQ,hT9⟩:=HR3.out.put13 (.string ⟨#[]⟩) (.slice none 0 0) (.int .u8 0) (.string ⟨#[]⟩) (.bool false) (.string ⟨#[]⟩) (.bool false) (.string ⟨#[]⟩) (.slice none 0 0) (.string ⟨#[]⟩) (.bool false) (.int .i64 19) (.int .i64 0);replace hW9:=hW9.symm;have RQ:=qb hRQ;have TQ:=qb hT9;clear hRQ hT9;(go_wp2_with fail);refine qln _ _ w.heap.size (w.heap.size+1) _ _ _ _ _ _ _ _ _ _ _ _ _ ⟨_,_,_,rfl⟩ ⟨_,_,_,rfl⟩ rfl rfl RQ.out.ver RQ.out.flt ?_;have HE9:R=.bad 19 0:=by rw[←HRR.out];simp
   rw[HE9];exact⟨RQ.out.bel,by decide,false,rfl⟩
  ·obtain ⟨W9,hW9,hRQ,hT9⟩:=HR3.out.put13 (.string (qd x.ep)) (.slice r1 x.rel.length c1) (.int .u8 x.c) (.string (qd x.n)) (.bool x.b) (.string (qd x.m)) (.bool x.d) (.string (qd x.k)) (.slice q1 x.loc.length d1) (.string (qd s.data.toList)) (.bool false) (.int .i64 0) (.int .i64 0);replace hW9:=hW9.symm;have RQ:=qb hRQ;have TQ:=qb hT9;clear hRQ hT9;(go_wp2_with fail);go_region
   all_goals
    (go_wp2_with fail);refine qln _ _ w.heap.size (w.heap.size+1) _ _ _ _ _ _ _ _ _ _ _ _ _ ⟨_,_,_,rfl⟩ ⟨_,_,_,rfl⟩ rfl rfl RQ.out.ver RQ.out.flt ?_;have HE9:R=.ok x s.data.toList false:=by rw[←HRR.out];simp
    rw[HE9];exact⟨RQ.out.bel.drew,_,_,rfl,(TQ.out _ _ U1.out F1.out).below ((Below.refl _ _).drew),(TQ.out _ _ U2.out F2.out).below ((Below.refl _ _).drew),F1.out.mono (Nat.le_add_right _ 2),F2.out.mono (Nat.le_add_right _ 2)⟩
set_option maxHeartbeats 4000000
set_option maxRecDepth 100000
theorem qbcg (s:QY) (w:World) (hs:s.size≤140737488351232) :
  Calls Tryz.prog 168 #[.string s,.func (.func 174) #[] #[]] w (qdv (qbn qff s.data.toList) w):=by
 have P1:∀ w,Calls Tryz.prog 36 #[.string s] w (qdv (qbn (fun _=>true) s.data.toList) w):=fun w=>by
  cases h:okP s.data.toList
  ·exact qft s w hs h
  ·exact qfw s w h
 unfold qbn at P1 ⊢;rw[if_pos rfl]at P1;cases ha:okP s.data.toList
 ·have n1:=qcx _ ha;rw[ha]at P1;rw[if_neg (by simp)]
  rw[if_neg (by simp)]at P1
  have HE:Hid ((errX s.data.toList).1≠0):=qb (by simpa using n1)
  generalize (errX s.data.toList).1=e1 at *;generalize (errX s.data.toList).2=p1 at *;have P1:=qb P1;clear ha;have R0:=RB.start w;go_enter Tryz.func168,Tryz.ntmps168
  (go_wp2_with fail);refine(P1.out _).mono ?_;rintro e w1 ⟨b1,_,st,rfl⟩
  try unfold zerV
  obtain⟨V,hV,nP,nF,bV,sV⟩:=qm w1 #[.string ⟨#[]⟩,.slice none 0 0,.int .u8 0,.string ⟨#[]⟩,.bool false,.string ⟨#[]⟩,.bool false,.string ⟨#[]⟩,.slice none 0 0,.string ⟨#[]⟩,.bool st] #[.int .i64 e1,.int .i64 (p1:Int)] 59 25;have R2:=(R0.below b1).below bV;have hlt:=R2.lt;obtain⟨x0,x1,x2,x3,x4,x5,x6,x7,x8,x9,x10,y0,y1,y2,y3,y4,y5,y6,y7,y8,y9,y10⟩:=qh R2.ver;obtain⟨f0,f1,g0,g1⟩:=qv R2.flt;obtain⟨u0,u1,_,_⟩:=qv nF;obtain⟨s0,s1,s2,s3,s4,s5,s6,s7,s8,s9,s10,_⟩:=qh nP;obtain⟨W9,hW9,hRQ,hT9⟩:=R2.put13 (.string ⟨#[]⟩) (.slice none 0 0) (.int .u8 0) (.string ⟨#[]⟩) (.bool false) (.string ⟨#[]⟩) (.bool false) (.string ⟨#[]⟩) (.slice none 0 0) (.string ⟨#[]⟩) (.bool st) (.int .i64 e1) (.int .i64 (p1:Int));replace hW9:=hW9.symm;have RQ:=qb hRQ;have TQ:=qb hT9;clear hRQ hT9;clear nP nF bV R0 b1 P1 R2;(go_wp2_with fail);go_region
  all_goals
   (go_wp2_with fail);refine qln _ _ w.heap.size (w.heap.size+1) _ _ _ _ _ _ _ _ _ _ _ _ _ ⟨_,_,_,rfl⟩ ⟨_,_,_,rfl⟩ rfl rfl RQ.out.ver RQ.out.flt ?_;exact⟨RQ.out.bel.drew,HE.out,st,rfl⟩
 ·rw [ha]at P1;rw[if_pos rfl];rw[if_pos rfl]at P1;generalize ql (qk s.data.toList)=x at *;have P1:=qb P1;have MC:=fun r1 q1 c1 d1 W=>qbkx x r1 q1 c1 d1 W
  try dsimp only
  obtain⟨B,hB⟩:∃ B,(qff x)=B:=⟨_,rfl⟩;simp only[hB]at MC ⊢;have MC:=qb MC;generalize hR:(if B=true then Wd.ok x s.data.toList false else Wd.bad 19 0)=R;have HRR:=qb hR;clear ha hB hR;have R0:=RB.start w;go_enter Tryz.func168,Tryz.ntmps168
  (go_wp2_with fail);refine(P1.out _).mono ?_;rintro e w1 ⟨b1,vr,vl,rfl,t1,t2,fr1,fr2⟩;simp only[World.size_alloc]at fr1 fr2;obtain⟨r1,c1,rfl,_⟩:=id t1;obtain⟨q1,d1,rfl,_⟩:=id t2
  try unfold verV
  obtain⟨V,hV,nP,nF,bV,sV⟩:=qm w1 #[.string (qd x.ep),.slice r1 x.rel.length c1,.int .u8 x.c,.string (qd x.n),.bool x.b,.string (qd x.m),.bool x.d,.string (qd x.k),.slice q1 x.loc.length d1,.string (qd s.data.toList),.bool false] #[.int .i64 0,.int .i64 0] 59 25;have hq:w.heap.size+1<w1.heap.size:=(R0.below b1).lt;have HV:=qb hV;clear hV;have R2:=(R0.below b1).below bV;have hlt:=R2.lt;obtain⟨u0,u1,_,_⟩:=qv nF;obtain⟨s0,s1,s2,s3,s4,s5,s6,s7,s8,s9,s10,_⟩:=qh nP;have NP:=qb nP;have NF:=qb nF;have HR2:=qb R2;have F1:=qb fr1;have F2:=qb fr2;have T1:=qb (t1.below bV);have T2:=qb (t2.below bV);have HLT:Hid (w1.heap.size+1<V.heap.size):=(Array.getElem?_eq_some_iff.1 nF).1;clear nP nF bV R0 R2 b1 P1 t1 t2 fr1 fr2;go_upto_region 2 with fail
  rw[HV.out];(go_wp2_with fail);refine(MC.out _ _ _ _ _).mono ?_;rintro e w3 ⟨rfl,b3⟩;have R3:=HR2.out.below b3;have nP:=(b3.block _ (by have:=HLT.out;omega)).trans NP.out
  have nF:=(b3.block _ HLT.out).trans NF.out;clear hlt u0 u1 s0 s1 s2 s3 s4 s5 s6 s7 s8 s9 s10;obtain⟨x0,x1,x2,x3,x4,x5,x6,x7,x8,x9,x10,y0,y1,y2,y3,y4,y5,y6,y7,y8,y9,y10⟩:=qh R3.ver;obtain⟨f0,f1,g0,g1⟩:=qv R3.flt;obtain⟨u0,u1,_,_⟩:=qv nF;obtain⟨s0,s1,s2,s3,s4,s5,s6,s7,s8,s9,s10,_⟩:=qh nP;have hlt:=R3.lt;have U1:=qb (T1.out.below b3);have U2:=qb (T2.out.below b3);have HR3:=qb R3;clear R3 nP nF b3 T1 T2 HR2 NP NF;cases B
  ·obtain⟨W9,hW9,hRQ,hT9⟩:=HR3.out.put13 (.string ⟨#[]⟩) (.slice none 0 0) (.int .u8 0) (.string ⟨#[]⟩) (.bool false) (.string ⟨#[]⟩) (.bool false) (.string ⟨#[]⟩) (.slice none 0 0) (.string ⟨#[]⟩) (.bool false) (.int .i64 19) (.int .i64 0);replace hW9:=hW9.symm;have RQ:=qb hRQ;have TQ:=qb hT9;clear hRQ hT9;(go_wp2_with fail);refine qln _ _ w.heap.size (w.heap.size+1) _ _ _ _ _ _ _ _ _ _ _ _ _ ⟨_,_,_,rfl⟩ ⟨_,_,_,rfl⟩ rfl rfl RQ.out.ver RQ.out.flt ?_;have HE9:R=.bad 19 0:=by rw[←HRR.out];simp
   rw[HE9];exact⟨RQ.out.bel,by decide,false,rfl⟩
  ·obtain ⟨W9,hW9,hRQ,hT9⟩:=HR3.out.put13 (.string (qd x.ep)) (.slice r1 x.rel.length c1) (.int .u8 x.c) (.string (qd x.n)) (.bool x.b) (.string (qd x.m)) (.bool x.d) (.string (qd x.k)) (.slice q1 x.loc.length d1) (.string (qd s.data.toList)) (.bool false) (.int .i64 0) (.int .i64 0);replace hW9:=hW9.symm;have RQ:=qb hRQ;have TQ:=qb hT9;clear hRQ hT9;(go_wp2_with fail);go_region
   all_goals
    (go_wp2_with fail);refine qln _ _ w.heap.size (w.heap.size+1) _ _ _ _ _ _ _ _ _ _ _ _ _ ⟨_,_,_,rfl⟩ ⟨_,_,_,rfl⟩ rfl rfl RQ.out.ver RQ.out.flt ?_;have HE9:R=.ok x s.data.toList false:=by rw[←HRR.out];simp
    rw[HE9];exact⟨RQ.out.bel.drew,_,_,rfl,(TQ.out _ _ U1.out F1.out).below ((Below.refl _ _).drew),(TQ.out _ _ U2.out F2.out).below ((Below.refl _ _).drew),F1.out.mono (Nat.le_add_right _ 2),F2.out.mono (Nat.le_add_right _ 2)⟩
set_option maxHeartbeats 4000000
set_option maxRecDepth 100000
theorem qgz (s:QY) (w:World) (hs:s.size≤140737488351232) :
  Calls Tryz.prog 154 #[.string s] w (qdv (qbn pubB s.data.toList) w):=by
 have P1:=qb (fun W=>qbbx s W hs);generalize qbn pubB s.data.toList=R at *;have R0:=RB.start w;cases R with
 | bad er p=>
  go_enter Tryz.func154,Tryz.ntmps154
  (go_wp2_with fail);refine(P1.out _).mono ?_;rintro e w1 ⟨b1,hne,st,rfl⟩
  try unfold zerV
  have HNE:=qb hne;have R2:=R0.below b1;have hlt:=R2.lt;obtain⟨x0,x1,x2,x3,x4,x5,x6,x7,x8,x9,x10,y0,y1,y2,y3,y4,y5,y6,y7,y8,y9,y10⟩:=qh R2.ver;obtain⟨f0,f1,g0,g1⟩:=qv R2.flt;obtain⟨W9,hW9,hRQ,hT9⟩:=R2.put13 (.string ⟨#[]⟩) (.slice none 0 0) (.int .u8 0) (.string ⟨#[]⟩) (.bool false) (.string ⟨#[]⟩) (.bool false) (.string ⟨#[]⟩) (.slice none 0 0) (.string ⟨#[]⟩) (.bool st) (.int .i64 er) (.int .i64 (p:Int));replace hW9:=hW9.symm;have RQ:=qb hRQ;clear hRQ hT9 R2 R0 b1 P1 hne;(go_wp2_with fail);refine fin154 _ _ w.heap.size (w.heap.size+1) _ _ _ _ _ _ _ _ _ _ _ _ _ ⟨_,_,_,rfl⟩ ⟨_,_,_,rfl⟩ rfl rfl RQ.out.ver RQ.out.flt ?_;exact⟨RQ.out.bel,HNE.out,st,rfl⟩
 | ok x t st=>
  go_enter Tryz.func154,Tryz.ntmps154
  (go_wp2_with fail);refine(P1.out _).mono ?_;rintro e w1 ⟨b1,vr,vl,rfl,t1,t2,fr1,fr2⟩;simp only[World.size_alloc]at fr1 fr2;obtain⟨r1,c1,rfl,_⟩:=id t1;obtain⟨q1,d1,rfl,_⟩:=id t2
  try unfold verV
  have R2:=R0.below b1;have hlt:=R2.lt;obtain⟨x0,x1,x2,x3,x4,x5,x6,x7,x8,x9,x10,y0,y1,y2,y3,y4,y5,y6,y7,y8,y9,y10⟩:=qh R2.ver;obtain⟨f0,f1,g0,g1⟩:=qv R2.flt;obtain⟨W9,hW9,hRQ,hT9⟩:=R2.put13 (.string (qd x.ep)) (.slice r1 x.rel.length c1) (.int .u8 x.c) (.string (qd x.n)) (.bool x.b) (.string (qd x.m)) (.bool x.d) (.string (qd x.k)) (.slice q1 x.loc.length d1) (.string (qd t)) (.bool st) (.int .i64 0) (.int .i64 0);have HW9:=qb hW9;have RQ:=qb hRQ;have TQ:=qb hT9;have T1:=qb t1;have T2:=qb t2;have F1:=qb fr1;have F2:=qb fr2;clear hRQ hT9 R2 R0 b1 P1 t1 t2 fr1 fr2 hW9;(go_wp2_with fail);rw[←HW9.out];refine fin154 _ _ w.heap.size (w.heap.size+1) _ _ _ _ _ _ _ _ _ _ _ _ _ ⟨_,_,_,rfl⟩ ⟨_,_,_,rfl⟩ rfl rfl RQ.out.ver RQ.out.flt ?_;exact⟨RQ.out.bel,_,_,rfl,TQ.out _ _ T1.out F1.out,TQ.out _ _ T2.out F2.out,F1.out.mono (Nat.le_add_right _ 2),F2.out.mono (Nat.le_add_right _ 2)⟩
theorem qnv (s:QY) (w:World) (hs:s.size≤140737488351232) :
  Calls Tryz.prog 149 #[.string s] w (qdv (qbn (fun x=>pubB x&&decide (1<x.rel.length)) s.data.toList) w):=by
 have P1:=qb (fun W=>qbbr s W hs);generalize qbn (fun x=>pubB x&&decide (1<x.rel.length)) s.data.toList=R at *;have R0:=RB.start w;cases R with
 | bad er p=>
  go_enter Tryz.func149,Tryz.ntmps149
  (go_wp2_with fail);refine(P1.out _).mono ?_;rintro e w1 ⟨b1,hne,st,rfl⟩
  try unfold zerV
  have HNE:=qb hne;have R2:=R0.below b1;have hlt:=R2.lt;obtain⟨x0,x1,x2,x3,x4,x5,x6,x7,x8,x9,x10,y0,y1,y2,y3,y4,y5,y6,y7,y8,y9,y10⟩:=qh R2.ver;obtain⟨f0,f1,g0,g1⟩:=qv R2.flt;obtain⟨W9,hW9,hRQ,hT9⟩:=R2.put13 (.string ⟨#[]⟩) (.slice none 0 0) (.int .u8 0) (.string ⟨#[]⟩) (.bool false) (.string ⟨#[]⟩) (.bool false) (.string ⟨#[]⟩) (.slice none 0 0) (.string ⟨#[]⟩) (.bool st) (.int .i64 er) (.int .i64 (p:Int));replace hW9:=hW9.symm;have RQ:=qb hRQ;clear hRQ hT9 R2 R0 b1 P1 hne;(go_wp2_with fail);refine fin149 _ _ w.heap.size (w.heap.size+1) _ _ _ _ _ _ _ _ _ _ _ _ _ ⟨_,_,_,rfl⟩ ⟨_,_,_,rfl⟩ rfl rfl RQ.out.ver RQ.out.flt ?_;exact⟨RQ.out.bel,HNE.out,st,rfl⟩
 | ok x t st=>
  go_enter Tryz.func149,Tryz.ntmps149
  (go_wp2_with fail);refine(P1.out _).mono ?_;rintro e w1 ⟨b1,vr,vl,rfl,t1,t2,fr1,fr2⟩;simp only[World.size_alloc]at fr1 fr2;obtain⟨r1,c1,rfl,_⟩:=id t1;obtain⟨q1,d1,rfl,_⟩:=id t2
  try unfold verV
  have R2:=R0.below b1;have hlt:=R2.lt;obtain⟨x0,x1,x2,x3,x4,x5,x6,x7,x8,x9,x10,y0,y1,y2,y3,y4,y5,y6,y7,y8,y9,y10⟩:=qh R2.ver;obtain⟨f0,f1,g0,g1⟩:=qv R2.flt;obtain⟨W9,hW9,hRQ,hT9⟩:=R2.put13 (.string (qd x.ep)) (.slice r1 x.rel.length c1) (.int .u8 x.c) (.string (qd x.n)) (.bool x.b) (.string (qd x.m)) (.bool x.d) (.string (qd x.k)) (.slice q1 x.loc.length d1) (.string (qd t)) (.bool st) (.int .i64 0) (.int .i64 0);have HW9:=qb hW9;have RQ:=qb hRQ;have TQ:=qb hT9;have T1:=qb t1;have T2:=qb t2;have F1:=qb fr1;have F2:=qb fr2;clear hRQ hT9 R2 R0 b1 P1 t1 t2 fr1 fr2 hW9;(go_wp2_with fail);rw[←HW9.out];refine fin149 _ _ w.heap.size (w.heap.size+1) _ _ _ _ _ _ _ _ _ _ _ _ _ ⟨_,_,_,rfl⟩ ⟨_,_,_,rfl⟩ rfl rfl RQ.out.ver RQ.out.flt ?_;exact⟨RQ.out.bel,_,_,rfl,TQ.out _ _ T1.out F1.out,TQ.out _ _ T2.out F2.out,F1.out.mono (Nat.le_add_right _ 2),F2.out.mono (Nat.le_add_right _ 2)⟩
theorem qbfl (s:QY) (hs:2≤s.size):((s.extract (s.size-2) s.size).toList==[46,42])=qcm s.data.toList:=by
 rw[toL,qfv,qj];unfold qcm;rw[qg,decide_eq_true hs,Bool.true_and]
theorem qwx (s:QY) (w:World) (hs:s.size≤140737488351232) :
  Calls Tryz.prog 193 #[.string s,.string ⟨#[46,42]⟩] w fun e w'=>e=.returned (.bool (qcm s.data.toList))∧w'=w:=by
 by_cases h2:2≤s.size
 ·have hE:=qbfl s h2;generalize qcm s.data.toList=B at *;have h3:(2:Int)≤(s.size:Int):=by omega
  have hsub:((s.size:Int)-2)=((s.size-2:Nat):Int):=by omega
  go_enter Tryz.func193,Tryz.ntmps193
  (go_wp2_with fail);go_ret
  exact⟨rfl,rfl⟩
 ·have h3:¬ (2:Int)≤(s.size:Int):=by omega
  have hE:qcm s.data.toList=false:=by unfold qcm;rw[qg,decide_eq_false h2];rfl
  rw[hE];go_enter Tryz.func193,Tryz.ntmps193
  (go_wp2_with fail);go_ret
  exact⟨rfl,rfl⟩
set_option maxHeartbeats 4000000
set_option maxRecDepth 100000
theorem qbqh (s:QY) (w:World) (hs:s.size≤140737488351232) :
  Calls Tryz.prog 184 #[.string s,.string ⟨#[46,42]⟩] w fun e w'=>e=.returned (.tuple #[.string (if qcm s.data.toList=true then s.extract 0 (s.size-2) else s),.bool (qcm s.data.toList)])∧w'=w:=by
 have H1:=fun W=>qwx s W hs;cases hE:qcm s.data.toList
 ·rw[hE]at H1;rw[if_neg (by simp)]
  have H1:=qb H1;go_enter Tryz.func184,Tryz.ntmps184
  (go_wp2_with fail);refine(H1.out _).mono ?_;rintro e w0 ⟨rfl,hw0⟩;rw[hw0];clear hw0 w0;(go_wp2_with fail);go_ret2
  exact⟨rfl,rfl⟩
 ·rw [hE]at H1;rw[if_pos rfl];have h2:2≤s.size:=by
   unfold qcm at hE;rw[qg]at hE;simp only[Bool.and_eq_true,decide_eq_true_eq]at hE;exact hE.1
  have h3:(2:Int)≤(s.size:Int):=by omega
  have hsub:((s.size:Int)-2)=((s.size-2:Nat):Int):=by omega
  have H1:=qb H1;clear hE;go_enter Tryz.func184,Tryz.ntmps184
  (go_wp2_with fail);refine(H1.out _).mono ?_;rintro e w0 ⟨rfl,hw0⟩;rw[hw0];clear hw0 w0;(go_wp2_with fail);go_ret2
  exact⟨rfl,rfl⟩
theorem qnp (s:QY) (w:World) (hs:s.size≤140737488351232) :
  Calls Tryz.prog 173 #[.string s,.string ⟨#[46,42]⟩] w fun e w'=>e=.returned (.tuple #[.string (if qcm s.data.toList=true then s.extract 0 (s.size-2) else s),.bool (qcm s.data.toList)])∧w'=w:=by
 have H1:=fun W=>qbqh s W hs;generalize (if qcm s.data.toList=true then s.extract 0 (s.size-2) else s)=T at *;generalize qcm s.data.toList=B at *;have H1:=qb H1;go_enter Tryz.func173,Tryz.ntmps173
 (go_wp2_with fail);refine(H1.out _).mono ?_;rintro e w0 ⟨rfl,hw0⟩;rw[hw0];clear hw0 w0;(go_wp2_with fail);go_ret2
 exact⟨rfl,rfl⟩
theorem qvg (s:QY) (w:World) (hs:s.size≤140737488351232) (hE:qcm s.data.toList=false) :
  Calls Tryz.prog 151 #[.string s] w (qdv (qbn (fun _=>true) s.data.toList) w):=by
 have CS:=fun W=>qnp s W hs;rw[hE,if_neg (by simp)]at CS
 have CS:=qb CS;have P1:Hid (∀ w,Calls Tryz.prog 36 #[.string s] w (qdv (qbn (fun _=>true) s.data.toList) w)):=qb fun w=>by
  cases h:okP s.data.toList
  ·exact qft s w hs h
  ·exact qfw s w h
 generalize qbn (fun _=>true) s.data.toList=R at *;have R0:=RB.start w;clear hE;cases R with
 | bad er p=>
  go_enter Tryz.func151,Tryz.ntmps151
  (go_wp2_with fail);refine(CS.out _).mono ?_;rintro e w0 ⟨rfl,hw0⟩;rw[hw0];clear hw0 w0;(go_wp2_with fail);refine(P1.out _).mono ?_;rintro e w1 ⟨b1,hne,st,rfl⟩
  try unfold zerV
  have HNE:=qb hne;have R2:=R0.below b1;have hlt:=R2.lt;obtain⟨x0,x1,x2,x3,x4,x5,x6,x7,x8,x9,x10,y0,y1,y2,y3,y4,y5,y6,y7,y8,y9,y10⟩:=qh R2.ver;obtain⟨f0,f1,g0,g1⟩:=qv R2.flt;obtain⟨W9,hW9,hRQ,hT9⟩:=R2.put13 (.string ⟨#[]⟩) (.slice none 0 0) (.int .u8 0) (.string ⟨#[]⟩) (.bool false) (.string ⟨#[]⟩) (.bool false) (.string ⟨#[]⟩) (.slice none 0 0) (.string ⟨#[]⟩) (.bool st) (.int .i64 er) (.int .i64 (p:Int));replace hW9:=hW9.symm;have RQ:=qb hRQ;clear hRQ hT9 R2 R0 b1 P1 hne;(go_wp2_with fail);refine qzx _ _ w.heap.size (w.heap.size+1) _ _ _ _ _ _ _ _ _ _ _ _ _ ⟨_,_,_,rfl⟩ ⟨_,_,_,rfl⟩ rfl rfl RQ.out.ver RQ.out.flt ?_;exact⟨RQ.out.bel,HNE.out,st,rfl⟩
 | ok x t st=>
  go_enter Tryz.func151,Tryz.ntmps151
  (go_wp2_with fail);refine(CS.out _).mono ?_;rintro e w0 ⟨rfl,hw0⟩;rw[hw0];clear hw0 w0;(go_wp2_with fail);refine(P1.out _).mono ?_;rintro e w1 ⟨b1,vr,vl,rfl,t1,t2,fr1,fr2⟩;simp only[World.size_alloc]at fr1 fr2;obtain⟨r1,c1,rfl,_⟩:=id t1;obtain⟨q1,d1,rfl,_⟩:=id t2
  try unfold verV
  have R2:=R0.below b1;have hlt:=R2.lt;obtain⟨x0,x1,x2,x3,x4,x5,x6,x7,x8,x9,x10,y0,y1,y2,y3,y4,y5,y6,y7,y8,y9,y10⟩:=qh R2.ver;obtain⟨f0,f1,g0,g1⟩:=qv R2.flt;obtain⟨W9,hW9,hRQ,hT9⟩:=R2.put13 (.string (qd x.ep)) (.slice r1 x.rel.length c1) (.int .u8 x.c) (.string (qd x.n)) (.bool x.b) (.string (qd x.m)) (.bool x.d) (.string (qd x.k)) (.slice q1 x.loc.length d1) (.string (qd t)) (.bool st) (.int .i64 0) (.int .i64 0);have HW9:=qb hW9;have RQ:=qb hRQ;have TQ:=qb hT9;have T1:=qb t1;have T2:=qb t2;have F1:=qb fr1;have F2:=qb fr2;clear hRQ hT9 R2 R0 b1 P1 t1 t2 fr1 fr2 hW9;(go_wp2_with fail);rw[←HW9.out];refine qzx _ _ w.heap.size (w.heap.size+1) _ _ _ _ _ _ _ _ _ _ _ _ _ ⟨_,_,_,rfl⟩ ⟨_,_,_,rfl⟩ rfl rfl RQ.out.ver RQ.out.flt ?_;exact⟨RQ.out.bel,_,_,rfl,TQ.out _ _ T1.out F1.out,TQ.out _ _ T2.out F2.out,F1.out.mono (Nat.le_add_right _ 2),F2.out.mono (Nat.le_add_right _ 2)⟩
theorem qsm (s:QY) (w:World) (hs:s.size≤140737488351232) (hE:qcm s.data.toList=true) :
  Calls Tryz.prog 151 #[.string s] w (qdv (qbmx (qbn qff (s.data.toList.take (s.data.toList.length-2)))) w):=by
 have CS:=fun W=>qnp s W hs;rw[hE,if_pos rfl]at CS;have CS:=qb CS;have P1:=fun W=>qbcg (s.extract 0 (s.size-2)) W (by rw[ByteArray.size_extract];omega)
 rw[show(s.extract 0 (s.size-2)).data.toList=s.data.toList.take (s.data.toList.length-2) by rw[qfc,qj,List.drop_zero,qg]]at P1
 have P1:=qb P1;generalize qbn qff (s.data.toList.take (s.data.toList.length-2))=R at *;have R0:=RB.start w;clear hE;cases R with
 | bad er p=>
  go_enter Tryz.func151,Tryz.ntmps151
  (go_wp2_with fail);refine(CS.out _).mono ?_;rintro e w0 ⟨rfl,hw0⟩;rw[hw0];clear hw0 w0;(go_wp2_with fail);refine(P1.out _).mono ?_;rintro e w1 ⟨b1,hne,st,rfl⟩
  try unfold zerV
  have HNE:=qb hne;have hq:w.heap.size+1<w1.heap.size:=(R0.below b1).lt;obtain⟨V,hV,nP,nF,bV,sV⟩:=qm w1 #[.string ⟨#[]⟩,.slice none 0 0,.int .u8 0,.string ⟨#[]⟩,.bool false,.string ⟨#[]⟩,.bool false,.string ⟨#[]⟩,.slice none 0 0,.string ⟨#[]⟩,.bool true] #[.int .i64 er,.int .i64 (p:Int)] 59 25;have HV:=qb hV;clear hV;have R2:=(R0.below b1).below bV;have hlt:=R2.lt;obtain⟨x0,x1,x2,x3,x4,x5,x6,x7,x8,x9,x10,y0,y1,y2,y3,y4,y5,y6,y7,y8,y9,y10⟩:=qh R2.ver;obtain⟨f0,f1,g0,g1⟩:=qv R2.flt;obtain⟨u0,u1,_,_⟩:=qv nF;obtain⟨s0,s1,s2,s3,s4,s5,s6,s7,s8,s9,s10,_⟩:=qh nP;obtain⟨W9,hW9,hRQ,hT9⟩:=R2.put13 (.string ⟨#[]⟩) (.slice none 0 0) (.int .u8 0) (.string ⟨#[]⟩) (.bool false) (.string ⟨#[]⟩) (.bool false) (.string ⟨#[]⟩) (.slice none 0 0) (.string ⟨#[]⟩) (.bool true) (.int .i64 er) (.int .i64 (p:Int));have HW9:=qb hW9;have RQ:=qb hRQ;clear hRQ hT9 R2 R0 b1 P1 hne hW9 nP nF bV;go_upto_region 6 with fail
  rw[HV.out];have hW9:=HW9.out.symm;go_region
  all_goals
   (go_wp2_with fail);refine qzx _ _ w.heap.size (w.heap.size+1) _ _ _ _ _ _ _ _ _ _ _ _ _ ⟨_,_,_,rfl⟩ ⟨_,_,_,rfl⟩ rfl rfl RQ.out.ver RQ.out.flt ?_;exact⟨RQ.out.bel.drew,HNE.out,true,rfl⟩
 | ok x t st=>
  go_enter Tryz.func151,Tryz.ntmps151
  (go_wp2_with fail);refine(CS.out _).mono ?_;rintro e w0 ⟨rfl,hw0⟩;rw[hw0];clear hw0 w0;(go_wp2_with fail);refine(P1.out _).mono ?_;rintro e w1 ⟨b1,vr,vl,rfl,t1,t2,fr1,fr2⟩;simp only[World.size_alloc]at fr1 fr2;obtain⟨r1,c1,rfl,_⟩:=id t1;obtain⟨q1,d1,rfl,_⟩:=id t2
  try unfold verV
  have hq:w.heap.size+1<w1.heap.size:=(R0.below b1).lt;obtain⟨V,hV,nP,nF,bV,sV⟩:=qm w1 #[.string (qd x.ep),.slice r1 x.rel.length c1,.int .u8 x.c,.string (qd x.n),.bool x.b,.string (qd x.m),.bool x.d,.string (qd x.k),.slice q1 x.loc.length d1,.string (qd t),.bool true] #[.int .i64 0,.int .i64 0] 59 25;have HV:=qb hV;clear hV;have R2:=(R0.below b1).below bV;have hlt:=R2.lt;obtain⟨x0,x1,x2,x3,x4,x5,x6,x7,x8,x9,x10,y0,y1,y2,y3,y4,y5,y6,y7,y8,y9,y10⟩:=qh R2.ver;obtain⟨f0,f1,g0,g1⟩:=qv R2.flt;obtain⟨u0,u1,_,_⟩:=qv nF;obtain⟨s0,s1,s2,s3,s4,s5,s6,s7,s8,s9,s10,_⟩:=qh nP;obtain⟨W9,hW9,hRQ,hT9⟩:=R2.put13 (.string (qd x.ep)) (.slice r1 x.rel.length c1) (.int .u8 x.c) (.string (qd x.n)) (.bool x.b) (.string (qd x.m)) (.bool x.d) (.string (qd x.k)) (.slice q1 x.loc.length d1) (.string (qd t)) (.bool true) (.int .i64 0) (.int .i64 0);have HW9:=qb hW9;have RQ:=qb hRQ;have TQ:=qb hT9;have T1:=qb (t1.below bV);have T2:=qb (t2.below bV);have F1:=qb fr1;have F2:=qb fr2;clear hRQ hT9 R2 R0 b1 P1 t1 t2 fr1 fr2 hW9 nP nF bV;go_upto_region 6 with fail
  rw[HV.out];have hW9:=HW9.out.symm;go_region
  all_goals
   (go_wp2_with fail);refine qzx _ _ w.heap.size (w.heap.size+1) _ _ _ _ _ _ _ _ _ _ _ _ _ ⟨_,_,_,rfl⟩ ⟨_,_,_,rfl⟩ rfl rfl RQ.out.ver RQ.out.flt ?_;exact⟨RQ.out.bel.drew,_,_,rfl,(TQ.out _ _ T1.out F1.out).below ((Below.refl _ _).drew),(TQ.out _ _ T2.out F2.out).below ((Below.refl _ _).drew),F1.out.mono (Nat.le_add_right _ 2),F2.out.mono (Nat.le_add_right _ 2)⟩
end Go.Proofs.YtabmfdedbpmfmaaGreat
