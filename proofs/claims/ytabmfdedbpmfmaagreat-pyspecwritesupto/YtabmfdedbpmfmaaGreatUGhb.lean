/- Walks: the beginning of a version. -/
import Derived.Deep.Cut
import Derived.Test.YtabmfdedbpmfmaaGreatUGlb
namespace Go.Proofs.YtabmfdedbpmfmaaGreat
open Go.RowKit Go.Shelf
set_option linter.unusedVariables false
set_option maxHeartbeats 8000000
set_option maxRecDepth 100000
theorem qph (s:QY) (b:Nat) (R:Wd) (w:World) (hs:s.size≤256) (hb:b≤s.size)
  (hR:∀ W,Calls Tryz.prog 151 #[.string (s.extract b (b+wdN (s.data.toList.drop b)))] W (qds R W)) (hp:∀ e p,R=.bad e p→p≤1000) :
  Calls Tryz.prog 116 #[.string s,.int .i64 (b:Int),.func (.func 151) #[] #[]] w (qvd (rwOf s.size b (wdN (s.data.toList.drop b)) R) w):=by
 have MF:=qb (fun W=>qhj s b W);have IS:=qb (fun c W=>qmb c 6 W);have HRR:=qb hR;have HP:=qb hp;have hn:=qmk (s.data.toList.drop b);rw[List.length_drop,qg]at hn;generalize hG:rwOf s.size b (wdN (s.data.toList.drop b)) R=G;have HG:=qb hG;clear hG hR hp;have Q0:=R1.start w;go_enter Tryz.func116,Tryz.ntmps116
 (go_wp2_with fail);generalize w.alloc _=W0 at *;have Q0:=qb Q0;have hlt:w.heap.size<W0.heap.size:=Q0.out.lt;go_loopw [9] (fun y wr=>∃ i:Nat,b≤i∧i≤s.size∧y=.int .i64 i∧b+wdN (s.data.toList.drop b)=i+wdN (s.data.toList.drop i)∧wr=W0) (fun y _=>s.size-(intOf y).toNat)
 case atStart=>exact⟨b,by omega,hb,rfl,rfl,rfl⟩
 case round=>
  obtain⟨i,hbi,hi,rfl,hc,rfl⟩:=hrel
  by_cases hin:i<s.size
  ·have hin':(i:Int)<(s.size:Int):=by omega
   by_cases h1:(s[i].toNat:Int)=44
   ·have hcmp:((s[i].toNat:Int) != 44)=false:=by rw[h1];rfl
    have hE:wdN (s.data.toList.drop b)=i-b:=by rw[qch s i hin,wdN,if_pos (by simp only[Bool.or_eq_true,beq_iff_eq];left;apply UInt8.toNat_inj.1;show _=44;omega)]at hc;omega
    clear hc h1;have HE9:=qb hE;clear hE
    by_cases hz:i=b
    ·have HG2:Hid (G=(.bad (misL s.size b) 0,b)):=qb (by rw[←HG.out,HE9.out,hz,Nat.sub_self];rfl)
     have HML:Hid (misL s.size b≠0):=qb (by unfold misL;split<;>decide)
     generalize misL s.size b=ML at *;have hzz:((i:Int)==(b:Int))=true:=by simp;omega
     obtain⟨x0,x1,x2,x3,x4,x5,x6,x7,x8,x9,x10,y0,y1,y2,y3,y4,y5,y6,y7,y8,y9,y10⟩:=qh Q0.out.ver;obtain⟨W9,hW9,hRQ,hT9⟩:=Q0.out.put11 (.string ⟨#[]⟩) (.slice none 0 0) (.int .u8 0) (.string ⟨#[]⟩) (.bool false) (.string ⟨#[]⟩) (.bool false) (.string ⟨#[]⟩) (.slice none 0 0) (.string ⟨#[]⟩) (.bool false);have HW9:=qb hW9;have RQ:=qb hRQ;clear hRQ hT9 hW9 hz;(go_wp2_with fail);refine(MF.out _).mono ?_;rintro e w2 ⟨rfl,hw2⟩;rw[hw2];clear hw2 w2;(go_wp2_with fail);rw[←HW9.out];refine qcb _ _ w.heap.size _ _ _ _ _ _ _ _ _ _ _ _ _ ⟨_,_,_,rfl⟩ ⟨_,_,_,rfl⟩ rfl rfl rfl RQ.out.ver ?_;rw[HG2.out];exact⟨RQ.out.bel,HML.out,rfl⟩
    ·have hzz:((i:Int)==(b:Int))=false:=by simp;omega
     have hex:s.extract b (b+(i-b))=s.extract b i:=by rw[Nat.add_sub_cancel' hbi]
     have hR9:=HRR.out;rw[HE9.out,hex]at hR9;have hG9:=HG.out;rw[HE9.out]at hG9;unfold rwOf at hG9;rw[if_neg (by omega)]at hG9
     have HCR:=qb hR9;have HG9:=qb hG9;clear hR9 hG9 hex HRR;have hbi':(b:Int)≤(i:Int):=by omega
     have hi':(i:Int)≤(s.size:Int):=by omega
     cases R with
     | bad er p=>
      have hp1:=HP.out er p rfl;have HG2:Hid (G=(.bad er 0,b+p)):=qb HG9.out.symm;(go_wp2_with fail);refine(HCR.out _).mono ?_;rintro e w1 ⟨b1,hne,st,rfl⟩
      try unfold zerV
      have HNE:=qb hne;have n1:(er==0)=false:=by simpa using hne
      have hq:w.heap.size<w1.heap.size:=(Q0.out.below b1).lt;obtain⟨V,hV,nP,nF,bV,sV⟩:=ql w1 #[.string ⟨#[]⟩,.slice none 0 0,.int .u8 0,.string ⟨#[]⟩,.bool false,.string ⟨#[]⟩,.bool false,.string ⟨#[]⟩,.slice none 0 0,.string ⟨#[]⟩,.bool st] #[.int .i64 er,.int .i64 (p:Int)] 59 25;have HV:=qb hV;clear hV;have Q2:=(Q0.out.below b1).below bV;obtain⟨x0,x1,x2,x3,x4,x5,x6,x7,x8,x9,x10,y0,y1,y2,y3,y4,y5,y6,y7,y8,y9,y10⟩:=qh Q2.ver;obtain⟨u0,u1,_,_⟩:=qv nF;obtain⟨W9,hW9,hRQ,hT9⟩:=Q2.put11 (.string ⟨#[]⟩) (.slice none 0 0) (.int .u8 0) (.string ⟨#[]⟩) (.bool false) (.string ⟨#[]⟩) (.bool false) (.string ⟨#[]⟩) (.slice none 0 0) (.string ⟨#[]⟩) (.bool false);have HW9:=qb hW9;have RQ:=qb hRQ;clear hRQ hT9 hW9 Q2 b1 hne nP nF bV HCR;go_upto_region 7 with fail
      rw[HV.out];(go_wp2_with fail);go_region
      all_goals
       (go_wp2_with fail);rw[←HW9.out];refine qcb _ _ w.heap.size _ _ _ _ _ _ _ _ _ _ _ _ _ ⟨_,_,_,rfl⟩ ⟨_,_,_,rfl⟩ rfl rfl rfl RQ.out.ver ?_;rw[HG2.out];exact⟨RQ.out.bel.drew,HNE.out,rfl⟩
     | ok x t st=>
      have HG2:Hid (G=(.ok x t st,b+(i-b))):=qb HG9.out.symm;(go_wp2_with fail);refine(HCR.out _).mono ?_;rintro e w1 ⟨b1,vr,vl,rfl,t1,t2,fr1,fr2⟩;obtain⟨r1,c1,rfl,_⟩:=id t1;obtain⟨q1,d1,rfl,_⟩:=id t2
      try unfold verV
      have hq:w.heap.size<w1.heap.size:=(Q0.out.below b1).lt;obtain⟨V,hV,nP,nF,bV,sV⟩:=ql w1 #[.string (qd x.ep),.slice r1 x.rel.length c1,.int .u8 x.c,.string (qd x.n),.bool x.b,.string (qd x.m),.bool x.d,.string (qd x.k),.slice q1 x.loc.length d1,.string (qd t),.bool st] #[.int .i64 0,.int .i64 0] 59 25;have HV:=qb hV;clear hV;have Q2:=(Q0.out.below b1).below bV;obtain⟨x0,x1,x2,x3,x4,x5,x6,x7,x8,x9,x10,y0,y1,y2,y3,y4,y5,y6,y7,y8,y9,y10⟩:=qh Q2.ver;obtain⟨u0,u1,_,_⟩:=qv nF;obtain⟨s0,s1,s2,s3,s4,s5,s6,s7,s8,s9,s10,_⟩:=qh nP;obtain⟨W9,hW9,hRQ,hT9⟩:=Q2.put11 (.string (qd x.ep)) (.slice r1 x.rel.length c1) (.int .u8 x.c) (.string (qd x.n)) (.bool x.b) (.string (qd x.m)) (.bool x.d) (.string (qd x.k)) (.slice q1 x.loc.length d1) (.string (qd t)) (.bool st);have HW9:=qb hW9;have RQ:=qb hRQ;have TQ:=qb hT9;have T1:=qb (t1.below bV);have T2:=qb (t2.below bV);have F1:=qb (fr1.mono Q0.out.lt);have F2:=qb (fr2.mono Q0.out.lt);clear hRQ hT9 hW9 Q2 b1 nP nF bV HCR t1 t2 fr1 fr2;go_upto_region 7 with fail
      rw[HV.out];have hW9:=HW9.out.symm;(go_wp2_with fail);refine qcb _ _ w.heap.size _ _ _ _ _ _ _ _ _ _ _ _ _ ⟨_,_,_,rfl⟩ ⟨_,_,_,rfl⟩ rfl rfl rfl RQ.out.ver ?_;rw[HG2.out];exact⟨RQ.out.bel,_,_,by rw[Nat.add_sub_cancel' hbi];rfl,TQ.out _ _ T1.out F1.out,TQ.out _ _ T2.out F2.out,F1.out.mono (Nat.le_succ _),F2.out.mono (Nat.le_succ _)⟩
   ·have hcmp:((s[i].toNat:Int) != 44)=true:=by simp only[bne_iff_ne,ne_eq];exact h1
    have h44:(s[i]==44)=false:=by rw[beq_eq_false_iff_ne];intro e;exact h1 (by rw[e];rfl)
    cases h2:isC (s[i].toNat:Int) 6
    ·have HC:=qb (hc.trans (by rw[qch s i hin,wdN,if_neg (by rw[h44,h2];simp)]))
     have I6:=IS.out (s[i].toNat:Int);rw[h2]at I6;have I6:=qb I6;clear hc h1 h2 h44;go_wp2_with (go_at_call 86;refine(I6.out _).mono ?_;rintro e w9 ⟨rfl,rfl⟩)
     go_roundw
     case rel=>exact⟨i+1,by omega,by omega,by go_num,by have:=HC.out;omega,by trivial⟩
     case measure=>simp[intOf];omega
    ·have hE:wdN (s.data.toList.drop b)=i-b:=by rw[qch s i hin,wdN,if_pos (by rw[h2];simp)]at hc;omega
     have I6:=IS.out (s[i].toNat:Int);rw[h2]at I6;have I6:=qb I6;clear hc h1 h2 h44;have HE9:=qb hE;clear hE
     by_cases hz:i=b
     ·have HG2:Hid (G=(.bad (misL s.size b) 0,b)):=qb (by rw[←HG.out,HE9.out,hz,Nat.sub_self];rfl)
      have HML:Hid (misL s.size b≠0):=qb (by unfold misL;split<;>decide)
      generalize misL s.size b=ML at *;have hzz:((i:Int)==(b:Int))=true:=by simp;omega
      obtain⟨x0,x1,x2,x3,x4,x5,x6,x7,x8,x9,x10,y0,y1,y2,y3,y4,y5,y6,y7,y8,y9,y10⟩:=qh Q0.out.ver;obtain⟨W9,hW9,hRQ,hT9⟩:=Q0.out.put11 (.string ⟨#[]⟩) (.slice none 0 0) (.int .u8 0) (.string ⟨#[]⟩) (.bool false) (.string ⟨#[]⟩) (.bool false) (.string ⟨#[]⟩) (.slice none 0 0) (.string ⟨#[]⟩) (.bool false);have HW9:=qb hW9;have RQ:=qb hRQ;clear hRQ hT9 hW9 hz;go_wp2_with (go_at_call 86;refine(I6.out _).mono ?_;rintro e w9 ⟨rfl,rfl⟩)
      refine(MF.out _).mono ?_;rintro e w2 ⟨rfl,hw2⟩;rw[hw2];clear hw2 w2;(go_wp2_with fail);rw[←HW9.out];refine qcb _ _ w.heap.size _ _ _ _ _ _ _ _ _ _ _ _ _ ⟨_,_,_,rfl⟩ ⟨_,_,_,rfl⟩ rfl rfl rfl RQ.out.ver ?_;rw[HG2.out];exact⟨RQ.out.bel,HML.out,rfl⟩
     ·have hzz:((i:Int)==(b:Int))=false:=by simp;omega
      have hex:s.extract b (b+(i-b))=s.extract b i:=by rw[Nat.add_sub_cancel' hbi]
      have hR9:=HRR.out;rw[HE9.out,hex]at hR9;have hG9:=HG.out;rw[HE9.out]at hG9;unfold rwOf at hG9;rw[if_neg (by omega)]at hG9
      have HCR:=qb hR9;have HG9:=qb hG9;clear hR9 hG9 hex HRR;have hbi':(b:Int)≤(i:Int):=by omega
      have hi':(i:Int)≤(s.size:Int):=by omega
      cases R with
      | bad er p=>
       have hp1:=HP.out er p rfl;have HG2:Hid (G=(.bad er 0,b+p)):=qb HG9.out.symm;go_wp2_with (go_at_call 86;refine(I6.out _).mono ?_;rintro e w9 ⟨rfl,rfl⟩)
       refine(HCR.out _).mono ?_;rintro e w1 ⟨b1,hne,st,rfl⟩
       try unfold zerV
       have HNE:=qb hne;have n1:(er==0)=false:=by simpa using hne
       have hq:w.heap.size<w1.heap.size:=(Q0.out.below b1).lt;obtain⟨V,hV,nP,nF,bV,sV⟩:=ql w1 #[.string ⟨#[]⟩,.slice none 0 0,.int .u8 0,.string ⟨#[]⟩,.bool false,.string ⟨#[]⟩,.bool false,.string ⟨#[]⟩,.slice none 0 0,.string ⟨#[]⟩,.bool st] #[.int .i64 er,.int .i64 (p:Int)] 59 25;have HV:=qb hV;clear hV;have Q2:=(Q0.out.below b1).below bV;obtain⟨x0,x1,x2,x3,x4,x5,x6,x7,x8,x9,x10,y0,y1,y2,y3,y4,y5,y6,y7,y8,y9,y10⟩:=qh Q2.ver;obtain⟨u0,u1,_,_⟩:=qv nF;obtain⟨W9,hW9,hRQ,hT9⟩:=Q2.put11 (.string ⟨#[]⟩) (.slice none 0 0) (.int .u8 0) (.string ⟨#[]⟩) (.bool false) (.string ⟨#[]⟩) (.bool false) (.string ⟨#[]⟩) (.slice none 0 0) (.string ⟨#[]⟩) (.bool false);have HW9:=qb hW9;have RQ:=qb hRQ;clear hRQ hT9 hW9 Q2 b1 hne nP nF bV HCR;go_upto_region 7 with fail
       rw[HV.out];(go_wp2_with fail);go_region
       all_goals
        (go_wp2_with fail);rw[←HW9.out];refine qcb _ _ w.heap.size _ _ _ _ _ _ _ _ _ _ _ _ _ ⟨_,_,_,rfl⟩ ⟨_,_,_,rfl⟩ rfl rfl rfl RQ.out.ver ?_;rw[HG2.out];exact⟨RQ.out.bel.drew,HNE.out,rfl⟩
      | ok x t st=>
       have HG2:Hid (G=(.ok x t st,b+(i-b))):=qb HG9.out.symm;go_wp2_with (go_at_call 86;refine(I6.out _).mono ?_;rintro e w9 ⟨rfl,rfl⟩)
       refine(HCR.out _).mono ?_;rintro e w1 ⟨b1,vr,vl,rfl,t1,t2,fr1,fr2⟩;obtain⟨r1,c1,rfl,_⟩:=id t1;obtain⟨q1,d1,rfl,_⟩:=id t2
       try unfold verV
       have hq:w.heap.size<w1.heap.size:=(Q0.out.below b1).lt;obtain⟨V,hV,nP,nF,bV,sV⟩:=ql w1 #[.string (qd x.ep),.slice r1 x.rel.length c1,.int .u8 x.c,.string (qd x.n),.bool x.b,.string (qd x.m),.bool x.d,.string (qd x.k),.slice q1 x.loc.length d1,.string (qd t),.bool st] #[.int .i64 0,.int .i64 0] 59 25;have HV:=qb hV;clear hV;have Q2:=(Q0.out.below b1).below bV;obtain⟨x0,x1,x2,x3,x4,x5,x6,x7,x8,x9,x10,y0,y1,y2,y3,y4,y5,y6,y7,y8,y9,y10⟩:=qh Q2.ver;obtain⟨u0,u1,_,_⟩:=qv nF;obtain⟨s0,s1,s2,s3,s4,s5,s6,s7,s8,s9,s10,_⟩:=qh nP;obtain⟨W9,hW9,hRQ,hT9⟩:=Q2.put11 (.string (qd x.ep)) (.slice r1 x.rel.length c1) (.int .u8 x.c) (.string (qd x.n)) (.bool x.b) (.string (qd x.m)) (.bool x.d) (.string (qd x.k)) (.slice q1 x.loc.length d1) (.string (qd t)) (.bool st);have HW9:=qb hW9;have RQ:=qb hRQ;have TQ:=qb hT9;have T1:=qb (t1.below bV);have T2:=qb (t2.below bV);have F1:=qb (fr1.mono Q0.out.lt);have F2:=qb (fr2.mono Q0.out.lt);clear hRQ hT9 hW9 Q2 b1 nP nF bV HCR t1 t2 fr1 fr2;go_upto_region 7 with fail
       rw[HV.out];have hW9:=HW9.out.symm;(go_wp2_with fail);refine qcb _ _ w.heap.size _ _ _ _ _ _ _ _ _ _ _ _ _ ⟨_,_,_,rfl⟩ ⟨_,_,_,rfl⟩ rfl rfl rfl RQ.out.ver ?_;rw[HG2.out];exact⟨RQ.out.bel,_,_,by rw[Nat.add_sub_cancel' hbi];rfl,TQ.out _ _ T1.out F1.out,TQ.out _ _ T2.out F2.out,F1.out.mono (Nat.le_succ _),F2.out.mono (Nat.le_succ _)⟩
  ·have hin':¬ (i:Int)<(s.size:Int):=by omega
   have hE:wdN (s.data.toList.drop b)=i-b:=by rw[qfd s i (by omega),wdN]at hc;omega
   clear hc;have HE9:=qb hE;clear hE
   by_cases hz:i=b
   ·have HG2:Hid (G=(.bad (misL s.size b) 0,b)):=qb (by rw[←HG.out,HE9.out,hz,Nat.sub_self];rfl)
    have HML:Hid (misL s.size b≠0):=qb (by unfold misL;split<;>decide)
    generalize misL s.size b=ML at *;have hzz:((i:Int)==(b:Int))=true:=by simp;omega
    obtain⟨x0,x1,x2,x3,x4,x5,x6,x7,x8,x9,x10,y0,y1,y2,y3,y4,y5,y6,y7,y8,y9,y10⟩:=qh Q0.out.ver;obtain⟨W9,hW9,hRQ,hT9⟩:=Q0.out.put11 (.string ⟨#[]⟩) (.slice none 0 0) (.int .u8 0) (.string ⟨#[]⟩) (.bool false) (.string ⟨#[]⟩) (.bool false) (.string ⟨#[]⟩) (.slice none 0 0) (.string ⟨#[]⟩) (.bool false);have HW9:=qb hW9;have RQ:=qb hRQ;clear hRQ hT9 hW9 hz;(go_wp2_with fail);refine(MF.out _).mono ?_;rintro e w2 ⟨rfl,hw2⟩;rw[hw2];clear hw2 w2;(go_wp2_with fail);rw[←HW9.out];refine qcb _ _ w.heap.size _ _ _ _ _ _ _ _ _ _ _ _ _ ⟨_,_,_,rfl⟩ ⟨_,_,_,rfl⟩ rfl rfl rfl RQ.out.ver ?_;rw[HG2.out];exact⟨RQ.out.bel,HML.out,rfl⟩
   ·have hzz:((i:Int)==(b:Int))=false:=by simp;omega
    have hex:s.extract b (b+(i-b))=s.extract b i:=by rw[Nat.add_sub_cancel' hbi]
    have hR9:=HRR.out;rw[HE9.out,hex]at hR9;have hG9:=HG.out;rw[HE9.out]at hG9;unfold rwOf at hG9;rw[if_neg (by omega)]at hG9
    have HCR:=qb hR9;have HG9:=qb hG9;clear hR9 hG9 hex HRR;have hbi':(b:Int)≤(i:Int):=by omega
    have hi':(i:Int)≤(s.size:Int):=by omega
    cases R with
    | bad er p=>
     have hp1:=HP.out er p rfl;have HG2:Hid (G=(.bad er 0,b+p)):=qb HG9.out.symm;(go_wp2_with fail);refine(HCR.out _).mono ?_;rintro e w1 ⟨b1,hne,st,rfl⟩
     try unfold zerV
     have HNE:=qb hne;have n1:(er==0)=false:=by simpa using hne
     have hq:w.heap.size<w1.heap.size:=(Q0.out.below b1).lt;obtain⟨V,hV,nP,nF,bV,sV⟩:=ql w1 #[.string ⟨#[]⟩,.slice none 0 0,.int .u8 0,.string ⟨#[]⟩,.bool false,.string ⟨#[]⟩,.bool false,.string ⟨#[]⟩,.slice none 0 0,.string ⟨#[]⟩,.bool st] #[.int .i64 er,.int .i64 (p:Int)] 59 25;have HV:=qb hV;clear hV;have Q2:=(Q0.out.below b1).below bV;obtain⟨x0,x1,x2,x3,x4,x5,x6,x7,x8,x9,x10,y0,y1,y2,y3,y4,y5,y6,y7,y8,y9,y10⟩:=qh Q2.ver;obtain⟨u0,u1,_,_⟩:=qv nF;obtain⟨W9,hW9,hRQ,hT9⟩:=Q2.put11 (.string ⟨#[]⟩) (.slice none 0 0) (.int .u8 0) (.string ⟨#[]⟩) (.bool false) (.string ⟨#[]⟩) (.bool false) (.string ⟨#[]⟩) (.slice none 0 0) (.string ⟨#[]⟩) (.bool false);have HW9:=qb hW9;have RQ:=qb hRQ;clear hRQ hT9 hW9 Q2 b1 hne nP nF bV HCR;go_upto_region 7 with fail
     rw[HV.out];(go_wp2_with fail);go_region
     all_goals
      (go_wp2_with fail);rw[←HW9.out];refine qcb _ _ w.heap.size _ _ _ _ _ _ _ _ _ _ _ _ _ ⟨_,_,_,rfl⟩ ⟨_,_,_,rfl⟩ rfl rfl rfl RQ.out.ver ?_;rw[HG2.out];exact⟨RQ.out.bel.drew,HNE.out,rfl⟩
    | ok x t st=>
     have HG2:Hid (G=(.ok x t st,b+(i-b))):=qb HG9.out.symm;(go_wp2_with fail);refine(HCR.out _).mono ?_;rintro e w1 ⟨b1,vr,vl,rfl,t1,t2,fr1,fr2⟩;obtain⟨r1,c1,rfl,_⟩:=id t1;obtain⟨q1,d1,rfl,_⟩:=id t2
     try unfold verV
     have hq:w.heap.size<w1.heap.size:=(Q0.out.below b1).lt;obtain⟨V,hV,nP,nF,bV,sV⟩:=ql w1 #[.string (qd x.ep),.slice r1 x.rel.length c1,.int .u8 x.c,.string (qd x.n),.bool x.b,.string (qd x.m),.bool x.d,.string (qd x.k),.slice q1 x.loc.length d1,.string (qd t),.bool st] #[.int .i64 0,.int .i64 0] 59 25;have HV:=qb hV;clear hV;have Q2:=(Q0.out.below b1).below bV;obtain⟨x0,x1,x2,x3,x4,x5,x6,x7,x8,x9,x10,y0,y1,y2,y3,y4,y5,y6,y7,y8,y9,y10⟩:=qh Q2.ver;obtain⟨u0,u1,_,_⟩:=qv nF;obtain⟨s0,s1,s2,s3,s4,s5,s6,s7,s8,s9,s10,_⟩:=qh nP;obtain⟨W9,hW9,hRQ,hT9⟩:=Q2.put11 (.string (qd x.ep)) (.slice r1 x.rel.length c1) (.int .u8 x.c) (.string (qd x.n)) (.bool x.b) (.string (qd x.m)) (.bool x.d) (.string (qd x.k)) (.slice q1 x.loc.length d1) (.string (qd t)) (.bool st);have HW9:=qb hW9;have RQ:=qb hRQ;have TQ:=qb hT9;have T1:=qb (t1.below bV);have T2:=qb (t2.below bV);have F1:=qb (fr1.mono Q0.out.lt);have F2:=qb (fr2.mono Q0.out.lt);clear hRQ hT9 hW9 Q2 b1 nP nF bV HCR t1 t2 fr1 fr2;go_upto_region 7 with fail
     rw[HV.out];have hW9:=HW9.out.symm;(go_wp2_with fail);refine qcb _ _ w.heap.size _ _ _ _ _ _ _ _ _ _ _ _ _ ⟨_,_,_,rfl⟩ ⟨_,_,_,rfl⟩ rfl rfl rfl RQ.out.ver ?_;rw[HG2.out];exact⟨RQ.out.bel,_,_,by rw[Nat.add_sub_cancel' hbi];rfl,TQ.out _ _ T1.out F1.out,TQ.out _ _ T2.out F2.out,F1.out.mono (Nat.le_succ _),F2.out.mono (Nat.le_succ _)⟩
set_option maxHeartbeats 8000000
set_option maxRecDepth 100000
theorem qhz (s:QY) (b:Nat) (R:Wd) (w:World) (hs:s.size≤256) (hb:b≤s.size)
  (hR:∀ W,Calls Tryz.prog 154 #[.string (s.extract b (b+wdN (s.data.toList.drop b)))] W (qds R W)) (hp:∀ e p,R=.bad e p→p≤1000) :
  Calls Tryz.prog 116 #[.string s,.int .i64 (b:Int),.func (.func 154) #[] #[]] w (qvd (rwOf s.size b (wdN (s.data.toList.drop b)) R) w):=by
 have MF:=qb (fun W=>qhj s b W);have IS:=qb (fun c W=>qmb c 6 W);have HRR:=qb hR;have HP:=qb hp;have hn:=qmk (s.data.toList.drop b);rw[List.length_drop,qg]at hn;generalize hG:rwOf s.size b (wdN (s.data.toList.drop b)) R=G;have HG:=qb hG;clear hG hR hp;have Q0:=R1.start w;go_enter Tryz.func116,Tryz.ntmps116
 (go_wp2_with fail);generalize w.alloc _=W0 at *;have Q0:=qb Q0;have hlt:w.heap.size<W0.heap.size:=Q0.out.lt;go_loopw [9] (fun y wr=>∃ i:Nat,b≤i∧i≤s.size∧y=.int .i64 i∧b+wdN (s.data.toList.drop b)=i+wdN (s.data.toList.drop i)∧wr=W0) (fun y _=>s.size-(intOf y).toNat)
 case atStart=>exact⟨b,by omega,hb,rfl,rfl,rfl⟩
 case round=>
  obtain⟨i,hbi,hi,rfl,hc,rfl⟩:=hrel
  by_cases hin:i<s.size
  ·have hin':(i:Int)<(s.size:Int):=by omega
   by_cases h1:(s[i].toNat:Int)=44
   ·have hcmp:((s[i].toNat:Int) != 44)=false:=by rw[h1];rfl
    have hE:wdN (s.data.toList.drop b)=i-b:=by rw[qch s i hin,wdN,if_pos (by simp only[Bool.or_eq_true,beq_iff_eq];left;apply UInt8.toNat_inj.1;show _=44;omega)]at hc;omega
    clear hc h1;have HE9:=qb hE;clear hE
    by_cases hz:i=b
    ·have HG2:Hid (G=(.bad (misL s.size b) 0,b)):=qb (by rw[←HG.out,HE9.out,hz,Nat.sub_self];rfl)
     have HML:Hid (misL s.size b≠0):=qb (by unfold misL;split<;>decide)
     generalize misL s.size b=ML at *;have hzz:((i:Int)==(b:Int))=true:=by simp;omega
     obtain⟨x0,x1,x2,x3,x4,x5,x6,x7,x8,x9,x10,y0,y1,y2,y3,y4,y5,y6,y7,y8,y9,y10⟩:=qh Q0.out.ver;obtain⟨W9,hW9,hRQ,hT9⟩:=Q0.out.put11 (.string ⟨#[]⟩) (.slice none 0 0) (.int .u8 0) (.string ⟨#[]⟩) (.bool false) (.string ⟨#[]⟩) (.bool false) (.string ⟨#[]⟩) (.slice none 0 0) (.string ⟨#[]⟩) (.bool false);have HW9:=qb hW9;have RQ:=qb hRQ;clear hRQ hT9 hW9 hz;(go_wp2_with fail);refine(MF.out _).mono ?_;rintro e w2 ⟨rfl,hw2⟩;rw[hw2];clear hw2 w2;(go_wp2_with fail);rw[←HW9.out];refine qcb _ _ w.heap.size _ _ _ _ _ _ _ _ _ _ _ _ _ ⟨_,_,_,rfl⟩ ⟨_,_,_,rfl⟩ rfl rfl rfl RQ.out.ver ?_;rw[HG2.out];exact⟨RQ.out.bel,HML.out,rfl⟩
    ·have hzz:((i:Int)==(b:Int))=false:=by simp;omega
     have hex:s.extract b (b+(i-b))=s.extract b i:=by rw[Nat.add_sub_cancel' hbi]
     have hR9:=HRR.out;rw[HE9.out,hex]at hR9;have hG9:=HG.out;rw[HE9.out]at hG9;unfold rwOf at hG9;rw[if_neg (by omega)]at hG9
     have HCR:=qb hR9;have HG9:=qb hG9;clear hR9 hG9 hex HRR;have hbi':(b:Int)≤(i:Int):=by omega
     have hi':(i:Int)≤(s.size:Int):=by omega
     cases R with
     | bad er p=>
      have hp1:=HP.out er p rfl;have HG2:Hid (G=(.bad er 0,b+p)):=qb HG9.out.symm;(go_wp2_with fail);refine(HCR.out _).mono ?_;rintro e w1 ⟨b1,hne,st,rfl⟩
      try unfold zerV
      have HNE:=qb hne;have n1:(er==0)=false:=by simpa using hne
      have hq:w.heap.size<w1.heap.size:=(Q0.out.below b1).lt;obtain⟨V,hV,nP,nF,bV,sV⟩:=ql w1 #[.string ⟨#[]⟩,.slice none 0 0,.int .u8 0,.string ⟨#[]⟩,.bool false,.string ⟨#[]⟩,.bool false,.string ⟨#[]⟩,.slice none 0 0,.string ⟨#[]⟩,.bool st] #[.int .i64 er,.int .i64 (p:Int)] 59 25;have HV:=qb hV;clear hV;have Q2:=(Q0.out.below b1).below bV;obtain⟨x0,x1,x2,x3,x4,x5,x6,x7,x8,x9,x10,y0,y1,y2,y3,y4,y5,y6,y7,y8,y9,y10⟩:=qh Q2.ver;obtain⟨u0,u1,_,_⟩:=qv nF;obtain⟨W9,hW9,hRQ,hT9⟩:=Q2.put11 (.string ⟨#[]⟩) (.slice none 0 0) (.int .u8 0) (.string ⟨#[]⟩) (.bool false) (.string ⟨#[]⟩) (.bool false) (.string ⟨#[]⟩) (.slice none 0 0) (.string ⟨#[]⟩) (.bool false);have HW9:=qb hW9;have RQ:=qb hRQ;clear hRQ hT9 hW9 Q2 b1 hne nP nF bV HCR;go_upto_region 7 with fail
      rw[HV.out];(go_wp2_with fail);go_region
      all_goals
       (go_wp2_with fail);rw[←HW9.out];refine qcb _ _ w.heap.size _ _ _ _ _ _ _ _ _ _ _ _ _ ⟨_,_,_,rfl⟩ ⟨_,_,_,rfl⟩ rfl rfl rfl RQ.out.ver ?_;rw[HG2.out];exact⟨RQ.out.bel.drew,HNE.out,rfl⟩
     | ok x t st=>
      have HG2:Hid (G=(.ok x t st,b+(i-b))):=qb HG9.out.symm;(go_wp2_with fail);refine(HCR.out _).mono ?_;rintro e w1 ⟨b1,vr,vl,rfl,t1,t2,fr1,fr2⟩;obtain⟨r1,c1,rfl,_⟩:=id t1;obtain⟨q1,d1,rfl,_⟩:=id t2
      try unfold verV
      have hq:w.heap.size<w1.heap.size:=(Q0.out.below b1).lt;obtain⟨V,hV,nP,nF,bV,sV⟩:=ql w1 #[.string (qd x.ep),.slice r1 x.rel.length c1,.int .u8 x.c,.string (qd x.n),.bool x.b,.string (qd x.m),.bool x.d,.string (qd x.k),.slice q1 x.loc.length d1,.string (qd t),.bool st] #[.int .i64 0,.int .i64 0] 59 25;have HV:=qb hV;clear hV;have Q2:=(Q0.out.below b1).below bV;obtain⟨x0,x1,x2,x3,x4,x5,x6,x7,x8,x9,x10,y0,y1,y2,y3,y4,y5,y6,y7,y8,y9,y10⟩:=qh Q2.ver;obtain⟨u0,u1,_,_⟩:=qv nF;obtain⟨s0,s1,s2,s3,s4,s5,s6,s7,s8,s9,s10,_⟩:=qh nP;obtain⟨W9,hW9,hRQ,hT9⟩:=Q2.put11 (.string (qd x.ep)) (.slice r1 x.rel.length c1) (.int .u8 x.c) (.string (qd x.n)) (.bool x.b) (.string (qd x.m)) (.bool x.d) (.string (qd x.k)) (.slice q1 x.loc.length d1) (.string (qd t)) (.bool st);have HW9:=qb hW9;have RQ:=qb hRQ;have TQ:=qb hT9;have T1:=qb (t1.below bV);have T2:=qb (t2.below bV);have F1:=qb (fr1.mono Q0.out.lt);have F2:=qb (fr2.mono Q0.out.lt);clear hRQ hT9 hW9 Q2 b1 nP nF bV HCR t1 t2 fr1 fr2;go_upto_region 7 with fail
      rw[HV.out];have hW9:=HW9.out.symm;(go_wp2_with fail);refine qcb _ _ w.heap.size _ _ _ _ _ _ _ _ _ _ _ _ _ ⟨_,_,_,rfl⟩ ⟨_,_,_,rfl⟩ rfl rfl rfl RQ.out.ver ?_;rw[HG2.out];exact⟨RQ.out.bel,_,_,by rw[Nat.add_sub_cancel' hbi];rfl,TQ.out _ _ T1.out F1.out,TQ.out _ _ T2.out F2.out,F1.out.mono (Nat.le_succ _),F2.out.mono (Nat.le_succ _)⟩
   ·have hcmp:((s[i].toNat:Int) != 44)=true:=by simp only[bne_iff_ne,ne_eq];exact h1
    have h44:(s[i]==44)=false:=by rw[beq_eq_false_iff_ne];intro e;exact h1 (by rw[e];rfl)
    cases h2:isC (s[i].toNat:Int) 6
    ·have HC:=qb (hc.trans (by rw[qch s i hin,wdN,if_neg (by rw[h44,h2];simp)]))
     have I6:=IS.out (s[i].toNat:Int);rw[h2]at I6;have I6:=qb I6;clear hc h1 h2 h44;go_wp2_with (go_at_call 86;refine(I6.out _).mono ?_;rintro e w9 ⟨rfl,rfl⟩)
     go_roundw
     case rel=>exact⟨i+1,by omega,by omega,by go_num,by have:=HC.out;omega,by trivial⟩
     case measure=>simp[intOf];omega
    ·have hE:wdN (s.data.toList.drop b)=i-b:=by rw[qch s i hin,wdN,if_pos (by rw[h2];simp)]at hc;omega
     have I6:=IS.out (s[i].toNat:Int);rw[h2]at I6;have I6:=qb I6;clear hc h1 h2 h44;have HE9:=qb hE;clear hE
     by_cases hz:i=b
     ·have HG2:Hid (G=(.bad (misL s.size b) 0,b)):=qb (by rw[←HG.out,HE9.out,hz,Nat.sub_self];rfl)
      have HML:Hid (misL s.size b≠0):=qb (by unfold misL;split<;>decide)
      generalize misL s.size b=ML at *;have hzz:((i:Int)==(b:Int))=true:=by simp;omega
      obtain⟨x0,x1,x2,x3,x4,x5,x6,x7,x8,x9,x10,y0,y1,y2,y3,y4,y5,y6,y7,y8,y9,y10⟩:=qh Q0.out.ver;obtain⟨W9,hW9,hRQ,hT9⟩:=Q0.out.put11 (.string ⟨#[]⟩) (.slice none 0 0) (.int .u8 0) (.string ⟨#[]⟩) (.bool false) (.string ⟨#[]⟩) (.bool false) (.string ⟨#[]⟩) (.slice none 0 0) (.string ⟨#[]⟩) (.bool false);have HW9:=qb hW9;have RQ:=qb hRQ;clear hRQ hT9 hW9 hz;go_wp2_with (go_at_call 86;refine(I6.out _).mono ?_;rintro e w9 ⟨rfl,rfl⟩)
      refine(MF.out _).mono ?_;rintro e w2 ⟨rfl,hw2⟩;rw[hw2];clear hw2 w2;(go_wp2_with fail);rw[←HW9.out];refine qcb _ _ w.heap.size _ _ _ _ _ _ _ _ _ _ _ _ _ ⟨_,_,_,rfl⟩ ⟨_,_,_,rfl⟩ rfl rfl rfl RQ.out.ver ?_;rw[HG2.out];exact⟨RQ.out.bel,HML.out,rfl⟩
     ·have hzz:((i:Int)==(b:Int))=false:=by simp;omega
      have hex:s.extract b (b+(i-b))=s.extract b i:=by rw[Nat.add_sub_cancel' hbi]
      have hR9:=HRR.out;rw[HE9.out,hex]at hR9;have hG9:=HG.out;rw[HE9.out]at hG9;unfold rwOf at hG9;rw[if_neg (by omega)]at hG9
      have HCR:=qb hR9;have HG9:=qb hG9;clear hR9 hG9 hex HRR;have hbi':(b:Int)≤(i:Int):=by omega
      have hi':(i:Int)≤(s.size:Int):=by omega
      cases R with
      | bad er p=>
       have hp1:=HP.out er p rfl;have HG2:Hid (G=(.bad er 0,b+p)):=qb HG9.out.symm;go_wp2_with (go_at_call 86;refine(I6.out _).mono ?_;rintro e w9 ⟨rfl,rfl⟩)
       refine(HCR.out _).mono ?_;rintro e w1 ⟨b1,hne,st,rfl⟩
       try unfold zerV
       have HNE:=qb hne;have n1:(er==0)=false:=by simpa using hne
       have hq:w.heap.size<w1.heap.size:=(Q0.out.below b1).lt;obtain⟨V,hV,nP,nF,bV,sV⟩:=ql w1 #[.string ⟨#[]⟩,.slice none 0 0,.int .u8 0,.string ⟨#[]⟩,.bool false,.string ⟨#[]⟩,.bool false,.string ⟨#[]⟩,.slice none 0 0,.string ⟨#[]⟩,.bool st] #[.int .i64 er,.int .i64 (p:Int)] 59 25;have HV:=qb hV;clear hV;have Q2:=(Q0.out.below b1).below bV;obtain⟨x0,x1,x2,x3,x4,x5,x6,x7,x8,x9,x10,y0,y1,y2,y3,y4,y5,y6,y7,y8,y9,y10⟩:=qh Q2.ver;obtain⟨u0,u1,_,_⟩:=qv nF;obtain⟨W9,hW9,hRQ,hT9⟩:=Q2.put11 (.string ⟨#[]⟩) (.slice none 0 0) (.int .u8 0) (.string ⟨#[]⟩) (.bool false) (.string ⟨#[]⟩) (.bool false) (.string ⟨#[]⟩) (.slice none 0 0) (.string ⟨#[]⟩) (.bool false);have HW9:=qb hW9;have RQ:=qb hRQ;clear hRQ hT9 hW9 Q2 b1 hne nP nF bV HCR;go_upto_region 7 with fail
       rw[HV.out];(go_wp2_with fail);go_region
       all_goals
        (go_wp2_with fail);rw[←HW9.out];refine qcb _ _ w.heap.size _ _ _ _ _ _ _ _ _ _ _ _ _ ⟨_,_,_,rfl⟩ ⟨_,_,_,rfl⟩ rfl rfl rfl RQ.out.ver ?_;rw[HG2.out];exact⟨RQ.out.bel.drew,HNE.out,rfl⟩
      | ok x t st=>
       have HG2:Hid (G=(.ok x t st,b+(i-b))):=qb HG9.out.symm;go_wp2_with (go_at_call 86;refine(I6.out _).mono ?_;rintro e w9 ⟨rfl,rfl⟩)
       refine(HCR.out _).mono ?_;rintro e w1 ⟨b1,vr,vl,rfl,t1,t2,fr1,fr2⟩;obtain⟨r1,c1,rfl,_⟩:=id t1;obtain⟨q1,d1,rfl,_⟩:=id t2
       try unfold verV
       have hq:w.heap.size<w1.heap.size:=(Q0.out.below b1).lt;obtain⟨V,hV,nP,nF,bV,sV⟩:=ql w1 #[.string (qd x.ep),.slice r1 x.rel.length c1,.int .u8 x.c,.string (qd x.n),.bool x.b,.string (qd x.m),.bool x.d,.string (qd x.k),.slice q1 x.loc.length d1,.string (qd t),.bool st] #[.int .i64 0,.int .i64 0] 59 25;have HV:=qb hV;clear hV;have Q2:=(Q0.out.below b1).below bV;obtain⟨x0,x1,x2,x3,x4,x5,x6,x7,x8,x9,x10,y0,y1,y2,y3,y4,y5,y6,y7,y8,y9,y10⟩:=qh Q2.ver;obtain⟨u0,u1,_,_⟩:=qv nF;obtain⟨s0,s1,s2,s3,s4,s5,s6,s7,s8,s9,s10,_⟩:=qh nP;obtain⟨W9,hW9,hRQ,hT9⟩:=Q2.put11 (.string (qd x.ep)) (.slice r1 x.rel.length c1) (.int .u8 x.c) (.string (qd x.n)) (.bool x.b) (.string (qd x.m)) (.bool x.d) (.string (qd x.k)) (.slice q1 x.loc.length d1) (.string (qd t)) (.bool st);have HW9:=qb hW9;have RQ:=qb hRQ;have TQ:=qb hT9;have T1:=qb (t1.below bV);have T2:=qb (t2.below bV);have F1:=qb (fr1.mono Q0.out.lt);have F2:=qb (fr2.mono Q0.out.lt);clear hRQ hT9 hW9 Q2 b1 nP nF bV HCR t1 t2 fr1 fr2;go_upto_region 7 with fail
       rw[HV.out];have hW9:=HW9.out.symm;(go_wp2_with fail);refine qcb _ _ w.heap.size _ _ _ _ _ _ _ _ _ _ _ _ _ ⟨_,_,_,rfl⟩ ⟨_,_,_,rfl⟩ rfl rfl rfl RQ.out.ver ?_;rw[HG2.out];exact⟨RQ.out.bel,_,_,by rw[Nat.add_sub_cancel' hbi];rfl,TQ.out _ _ T1.out F1.out,TQ.out _ _ T2.out F2.out,F1.out.mono (Nat.le_succ _),F2.out.mono (Nat.le_succ _)⟩
  ·have hin':¬ (i:Int)<(s.size:Int):=by omega
   have hE:wdN (s.data.toList.drop b)=i-b:=by rw[qfd s i (by omega),wdN]at hc;omega
   clear hc;have HE9:=qb hE;clear hE
   by_cases hz:i=b
   ·have HG2:Hid (G=(.bad (misL s.size b) 0,b)):=qb (by rw[←HG.out,HE9.out,hz,Nat.sub_self];rfl)
    have HML:Hid (misL s.size b≠0):=qb (by unfold misL;split<;>decide)
    generalize misL s.size b=ML at *;have hzz:((i:Int)==(b:Int))=true:=by simp;omega
    obtain⟨x0,x1,x2,x3,x4,x5,x6,x7,x8,x9,x10,y0,y1,y2,y3,y4,y5,y6,y7,y8,y9,y10⟩:=qh Q0.out.ver;obtain⟨W9,hW9,hRQ,hT9⟩:=Q0.out.put11 (.string ⟨#[]⟩) (.slice none 0 0) (.int .u8 0) (.string ⟨#[]⟩) (.bool false) (.string ⟨#[]⟩) (.bool false) (.string ⟨#[]⟩) (.slice none 0 0) (.string ⟨#[]⟩) (.bool false);have HW9:=qb hW9;have RQ:=qb hRQ;clear hRQ hT9 hW9 hz;(go_wp2_with fail);refine(MF.out _).mono ?_;rintro e w2 ⟨rfl,hw2⟩;rw[hw2];clear hw2 w2;(go_wp2_with fail);rw[←HW9.out];refine qcb _ _ w.heap.size _ _ _ _ _ _ _ _ _ _ _ _ _ ⟨_,_,_,rfl⟩ ⟨_,_,_,rfl⟩ rfl rfl rfl RQ.out.ver ?_;rw[HG2.out];exact⟨RQ.out.bel,HML.out,rfl⟩
   ·have hzz:((i:Int)==(b:Int))=false:=by simp;omega
    have hex:s.extract b (b+(i-b))=s.extract b i:=by rw[Nat.add_sub_cancel' hbi]
    have hR9:=HRR.out;rw[HE9.out,hex]at hR9;have hG9:=HG.out;rw[HE9.out]at hG9;unfold rwOf at hG9;rw[if_neg (by omega)]at hG9
    have HCR:=qb hR9;have HG9:=qb hG9;clear hR9 hG9 hex HRR;have hbi':(b:Int)≤(i:Int):=by omega
    have hi':(i:Int)≤(s.size:Int):=by omega
    cases R with
    | bad er p=>
     have hp1:=HP.out er p rfl;have HG2:Hid (G=(.bad er 0,b+p)):=qb HG9.out.symm;(go_wp2_with fail);refine(HCR.out _).mono ?_;rintro e w1 ⟨b1,hne,st,rfl⟩
     try unfold zerV
     have HNE:=qb hne;have n1:(er==0)=false:=by simpa using hne
     have hq:w.heap.size<w1.heap.size:=(Q0.out.below b1).lt;obtain⟨V,hV,nP,nF,bV,sV⟩:=ql w1 #[.string ⟨#[]⟩,.slice none 0 0,.int .u8 0,.string ⟨#[]⟩,.bool false,.string ⟨#[]⟩,.bool false,.string ⟨#[]⟩,.slice none 0 0,.string ⟨#[]⟩,.bool st] #[.int .i64 er,.int .i64 (p:Int)] 59 25;have HV:=qb hV;clear hV;have Q2:=(Q0.out.below b1).below bV;obtain⟨x0,x1,x2,x3,x4,x5,x6,x7,x8,x9,x10,y0,y1,y2,y3,y4,y5,y6,y7,y8,y9,y10⟩:=qh Q2.ver;obtain⟨u0,u1,_,_⟩:=qv nF;obtain⟨W9,hW9,hRQ,hT9⟩:=Q2.put11 (.string ⟨#[]⟩) (.slice none 0 0) (.int .u8 0) (.string ⟨#[]⟩) (.bool false) (.string ⟨#[]⟩) (.bool false) (.string ⟨#[]⟩) (.slice none 0 0) (.string ⟨#[]⟩) (.bool false);have HW9:=qb hW9;have RQ:=qb hRQ;clear hRQ hT9 hW9 Q2 b1 hne nP nF bV HCR;go_upto_region 7 with fail
     rw[HV.out];(go_wp2_with fail);go_region
     all_goals
      (go_wp2_with fail);rw[←HW9.out];refine qcb _ _ w.heap.size _ _ _ _ _ _ _ _ _ _ _ _ _ ⟨_,_,_,rfl⟩ ⟨_,_,_,rfl⟩ rfl rfl rfl RQ.out.ver ?_;rw[HG2.out];exact⟨RQ.out.bel.drew,HNE.out,rfl⟩
    | ok x t st=>
     have HG2:Hid (G=(.ok x t st,b+(i-b))):=qb HG9.out.symm;(go_wp2_with fail);refine(HCR.out _).mono ?_;rintro e w1 ⟨b1,vr,vl,rfl,t1,t2,fr1,fr2⟩;obtain⟨r1,c1,rfl,_⟩:=id t1;obtain⟨q1,d1,rfl,_⟩:=id t2
     try unfold verV
     have hq:w.heap.size<w1.heap.size:=(Q0.out.below b1).lt;obtain⟨V,hV,nP,nF,bV,sV⟩:=ql w1 #[.string (qd x.ep),.slice r1 x.rel.length c1,.int .u8 x.c,.string (qd x.n),.bool x.b,.string (qd x.m),.bool x.d,.string (qd x.k),.slice q1 x.loc.length d1,.string (qd t),.bool st] #[.int .i64 0,.int .i64 0] 59 25;have HV:=qb hV;clear hV;have Q2:=(Q0.out.below b1).below bV;obtain⟨x0,x1,x2,x3,x4,x5,x6,x7,x8,x9,x10,y0,y1,y2,y3,y4,y5,y6,y7,y8,y9,y10⟩:=qh Q2.ver;obtain⟨u0,u1,_,_⟩:=qv nF;obtain⟨s0,s1,s2,s3,s4,s5,s6,s7,s8,s9,s10,_⟩:=qh nP;obtain⟨W9,hW9,hRQ,hT9⟩:=Q2.put11 (.string (qd x.ep)) (.slice r1 x.rel.length c1) (.int .u8 x.c) (.string (qd x.n)) (.bool x.b) (.string (qd x.m)) (.bool x.d) (.string (qd x.k)) (.slice q1 x.loc.length d1) (.string (qd t)) (.bool st);have HW9:=qb hW9;have RQ:=qb hRQ;have TQ:=qb hT9;have T1:=qb (t1.below bV);have T2:=qb (t2.below bV);have F1:=qb (fr1.mono Q0.out.lt);have F2:=qb (fr2.mono Q0.out.lt);clear hRQ hT9 hW9 Q2 b1 nP nF bV HCR t1 t2 fr1 fr2;go_upto_region 7 with fail
     rw[HV.out];have hW9:=HW9.out.symm;(go_wp2_with fail);refine qcb _ _ w.heap.size _ _ _ _ _ _ _ _ _ _ _ _ _ ⟨_,_,_,rfl⟩ ⟨_,_,_,rfl⟩ rfl rfl rfl RQ.out.ver ?_;rw[HG2.out];exact⟨RQ.out.bel,_,_,by rw[Nat.add_sub_cancel' hbi];rfl,TQ.out _ _ T1.out F1.out,TQ.out _ _ T2.out F2.out,F1.out.mono (Nat.le_succ _),F2.out.mono (Nat.le_succ _)⟩
set_option maxHeartbeats 4000000
set_option maxRecDepth 100000
theorem qdz (s:QY) (w:World) (hs:s.size≤140737488351232) (ha:okP s.data.toList=false) :
  Calls Tryz.prog 36 #[.string s] w (qds (qbp (fun _=>true) s.data.toList) w):=by
 have P1:=fun w=>qbgn s w hs ha;have n1:=qdw _ ha;have HX:Hid (qbp (fun _=>true) s.data.toList=.bad (errX s.data.toList).1 (errX s.data.toList).2):=qb (by unfold qbp;rw[ha];rfl)
 rw[HX.out];have HE:Hid ((errX s.data.toList).1≠0):=qb (by simpa using n1)
 generalize (errX s.data.toList).1=e1 at *;generalize (errX s.data.toList).2=p1 at *;unfold pepZ at P1;have P1:=qb P1;clear ha HX;have R0:=RB.start w;go_enter Tryz.func36,Tryz.ntmps36
 (go_wp2_with fail);refine(P1.out _).mono ?_;rintro e w1 ⟨rfl,b1⟩;obtain⟨V,hV,nP,nF,bV,sV⟩:=ql w1 #[.string ⟨#[]⟩,.slice none 0 0,.int .u8 0,.string ⟨#[]⟩,.bool false,.string ⟨#[]⟩,.bool false,.string ⟨#[]⟩,.slice none 0 0] #[.int .i64 e1,.int .i64 (p1:Int)] 44 25;have R2:=(R0.below b1).below bV;have hlt:=R2.lt;obtain⟨x0,x1,x2,x3,x4,x5,x6,x7,x8,x9,x10,y0,y1,y2,y3,y4,y5,y6,y7,y8,y9,y10⟩:=qh R2.ver;obtain⟨f0,f1,g0,g1⟩:=qv R2.flt;obtain⟨u0,u1,_,_⟩:=qv nF;obtain⟨W9,hW9,hRQ,hT9⟩:=R2.put13 (.string ⟨#[]⟩) (.slice none 0 0) (.int .u8 0) (.string ⟨#[]⟩) (.bool false) (.string ⟨#[]⟩) (.bool false) (.string ⟨#[]⟩) (.slice none 0 0) (.string ⟨#[]⟩) (.bool false) (.int .i64 e1) (.int .i64 (p1:Int));replace hW9:=hW9.symm;have RQ:=qb hRQ;have TQ:=qb hT9;clear hRQ hT9;have R2:=qb R2;clear nP nF bV R0 b1 P1;(go_wp2_with fail);go_region
 all_goals
  (go_wp2_with fail);refine fin36 _ _ w.heap.size (w.heap.size+1) _ _ _ _ _ _ _ _ _ _ _ _ _ ⟨_,_,_,rfl⟩ ⟨_,_,_,rfl⟩ rfl rfl RQ.out.ver RQ.out.flt ?_;exact⟨RQ.out.bel.drew,HE.out,false,rfl⟩
set_option maxHeartbeats 4000000
set_option maxRecDepth 100000
theorem qfb (s:QY) (w:World) (ha:okP s.data.toList=true) :
  Calls Tryz.prog 36 #[.string s] w (qds (qbp (fun _=>true) s.data.toList) w):=by
 have P1:=fun w=>qbkf s w ha;have HX:Hid (qbp (fun _=>true) s.data.toList=.ok (qm (qk s.data.toList)) s.data.toList false):=qb (by unfold qbp;rw[ha];rfl)
 rw[HX.out];generalize qm (qk s.data.toList)=x at *;have P1:=qb P1;clear ha HX;have R0:=RB.start w;go_enter Tryz.func36,Tryz.ntmps36
 (go_wp2_with fail);refine(P1.out _).mono ?_;rintro e w1 ⟨vr,vl,rfl,t1,t2,fr1,fr2,b1⟩;simp only[World.size_alloc]at fr1 fr2;obtain⟨r1,c1,rfl,_⟩:=id t1;obtain⟨q1,d1,rfl,_⟩:=id t2
 try unfold pepV
 obtain⟨V,hV,nP,nF,bV,sV⟩:=ql w1 #[.string (qd x.ep),.slice r1 x.rel.length c1,.int .u8 x.c,.string (qd x.n),.bool x.b,.string (qd x.m),.bool x.d,.string (qd x.k),.slice q1 x.loc.length d1] #[.int .i64 0,.int .i64 0] 44 25;have HV:=qb hV;clear hV;have R2:=(R0.below b1).below bV;have hlt:=R2.lt;obtain⟨x0,x1,x2,x3,x4,x5,x6,x7,x8,x9,x10,y0,y1,y2,y3,y4,y5,y6,y7,y8,y9,y10⟩:=qh R2.ver;obtain⟨f0,f1,g0,g1⟩:=qv R2.flt;obtain⟨u0,u1,_,_⟩:=qv nF;obtain⟨s0,s1,s2,s3,s4,s5,s6,s7,s8,_⟩:=qcd nP;obtain⟨W9,hW9,hRQ,hT9⟩:=R2.put13 (.string (qd x.ep)) (.slice r1 x.rel.length c1) (.int .u8 x.c) (.string (qd x.n)) (.bool x.b) (.string (qd x.m)) (.bool x.d) (.string (qd x.k)) (.slice q1 x.loc.length d1) (.string s) (.bool false) (.int .i64 0) (.int .i64 0);have HW9:=qb hW9;clear hW9;have RQ:=qb hRQ;have TQ:=qb hT9;clear hRQ hT9;have T1:=qb (t1.below bV);have T2:=qb (t2.below bV);have F1:=qb fr1;have F2:=qb fr2;clear nP nF bV R0 R2 b1 P1 t1 t2 fr1 fr2;go_upto_region 2 with fail
 rw[HV.out];have hW9:=HW9.out.symm;(go_wp2_with fail);refine fin36 _ _ w.heap.size (w.heap.size+1) _ _ _ _ _ _ _ _ _ _ _ _ _ ⟨_,_,_,rfl⟩ ⟨_,_,_,rfl⟩ rfl rfl RQ.out.ver RQ.out.flt ?_;exact⟨RQ.out.bel,_,_,by rw[qcw];rfl,TQ.out _ _ T1.out F1.out,TQ.out _ _ T2.out F2.out,F1.out.mono (Nat.le_add_right _ 2),F2.out.mono (Nat.le_add_right _ 2)⟩
set_option maxHeartbeats 4000000
set_option maxRecDepth 100000
theorem qbcz (s:QY) (w:World) (hs:s.size≤140737488351232) :
  Calls Tryz.prog 168 #[.string s,.func (.func 169) #[] #[]] w (qds (qbp (fun x=>pubB x&&decide (1<x.rel.length)) s.data.toList) w):=by
 have P1:∀ w,Calls Tryz.prog 36 #[.string s] w (qds (qbp (fun _=>true) s.data.toList) w):=fun w=>by
  cases h:okP s.data.toList
  ·exact qdz s w hs h
  ·exact qfb s w h
 unfold qbp at P1 ⊢;rw[if_pos rfl]at P1;cases ha:okP s.data.toList
 ·have n1:=qdw _ ha;rw[ha]at P1;rw[if_neg (by simp)]
  rw[if_neg (by simp)]at P1
  have HE:Hid ((errX s.data.toList).1≠0):=qb (by simpa using n1)
  generalize (errX s.data.toList).1=e1 at *;generalize (errX s.data.toList).2=p1 at *;have P1:=qb P1;clear ha;have R0:=RB.start w;go_enter Tryz.func168,Tryz.ntmps168
  (go_wp2_with fail);refine(P1.out _).mono ?_;rintro e w1 ⟨b1,_,st,rfl⟩
  try unfold zerV
  obtain⟨V,hV,nP,nF,bV,sV⟩:=ql w1 #[.string ⟨#[]⟩,.slice none 0 0,.int .u8 0,.string ⟨#[]⟩,.bool false,.string ⟨#[]⟩,.bool false,.string ⟨#[]⟩,.slice none 0 0,.string ⟨#[]⟩,.bool st] #[.int .i64 e1,.int .i64 (p1:Int)] 59 25;have R2:=(R0.below b1).below bV;have hlt:=R2.lt;obtain⟨x0,x1,x2,x3,x4,x5,x6,x7,x8,x9,x10,y0,y1,y2,y3,y4,y5,y6,y7,y8,y9,y10⟩:=qh R2.ver;obtain⟨f0,f1,g0,g1⟩:=qv R2.flt;obtain⟨u0,u1,_,_⟩:=qv nF;obtain⟨s0,s1,s2,s3,s4,s5,s6,s7,s8,s9,s10,_⟩:=qh nP;obtain⟨W9,hW9,hRQ,hT9⟩:=R2.put13 (.string ⟨#[]⟩) (.slice none 0 0) (.int .u8 0) (.string ⟨#[]⟩) (.bool false) (.string ⟨#[]⟩) (.bool false) (.string ⟨#[]⟩) (.slice none 0 0) (.string ⟨#[]⟩) (.bool st) (.int .i64 e1) (.int .i64 (p1:Int));replace hW9:=hW9.symm;have RQ:=qb hRQ;have TQ:=qb hT9;clear hRQ hT9;clear nP nF bV R0 b1 P1 R2;(go_wp2_with fail);go_region
  all_goals
   (go_wp2_with fail);refine qkv _ _ w.heap.size (w.heap.size+1) _ _ _ _ _ _ _ _ _ _ _ _ _ ⟨_,_,_,rfl⟩ ⟨_,_,_,rfl⟩ rfl rfl RQ.out.ver RQ.out.flt ?_;exact⟨RQ.out.bel.drew,HE.out,st,rfl⟩
 ·rw [ha]at P1;rw[if_pos rfl];rw[if_pos rfl]at P1;generalize qm (qk s.data.toList)=x at *;have P1:=qb P1;have MC:=fun r1 q1 c1 d1 W=>qbdn x r1 q1 c1 d1 W
  try dsimp only
  obtain⟨B,hB⟩:∃ B,(pubB x&&decide (1<x.rel.length))=B:=⟨_,rfl⟩;simp only[hB]at MC ⊢;have MC:=qb MC;generalize hR:(if B=true then Wd.ok x s.data.toList false else Wd.bad 19 0)=R;have HRR:=qb hR;clear ha hB hR;have R0:=RB.start w;go_enter Tryz.func168,Tryz.ntmps168
  (go_wp2_with fail);refine(P1.out _).mono ?_;rintro e w1 ⟨b1,vr,vl,rfl,t1,t2,fr1,fr2⟩;simp only[World.size_alloc]at fr1 fr2;obtain⟨r1,c1,rfl,_⟩:=id t1;obtain⟨q1,d1,rfl,_⟩:=id t2
  try unfold verV
  obtain⟨V,hV,nP,nF,bV,sV⟩:=ql w1 #[.string (qd x.ep),.slice r1 x.rel.length c1,.int .u8 x.c,.string (qd x.n),.bool x.b,.string (qd x.m),.bool x.d,.string (qd x.k),.slice q1 x.loc.length d1,.string (qd s.data.toList),.bool false] #[.int .i64 0,.int .i64 0] 59 25;have hq:w.heap.size+1<w1.heap.size:=(R0.below b1).lt;have HV:=qb hV;clear hV;have R2:=(R0.below b1).below bV;have hlt:=R2.lt;obtain⟨u0,u1,_,_⟩:=qv nF;obtain⟨s0,s1,s2,s3,s4,s5,s6,s7,s8,s9,s10,_⟩:=qh nP;have NP:=qb nP;have NF:=qb nF;have HR2:=qb R2;have F1:=qb fr1;have F2:=qb fr2;have T1:=qb (t1.below bV);have T2:=qb (t2.below bV);have HLT:Hid (w1.heap.size+1<V.heap.size):=(Array.getElem?_eq_some_iff.1 nF).1;clear nP nF bV R0 R2 b1 P1 t1 t2 fr1 fr2;go_upto_region 2 with fail
  rw[HV.out];(go_wp2_with fail);refine(MC.out _ _ _ _ _).mono ?_;rintro e w3 ⟨rfl,b3⟩;have R3:=HR2.out.below b3;have nP:=(b3.block _ (by have:=HLT.out;omega)).trans NP.out
  have nF:=(b3.block _ HLT.out).trans NF.out;clear hlt u0 u1 s0 s1 s2 s3 s4 s5 s6 s7 s8 s9 s10;obtain⟨x0,x1,x2,x3,x4,x5,x6,x7,x8,x9,x10,y0,y1,y2,y3,y4,y5,y6,y7,y8,y9,y10⟩:=qh R3.ver;obtain⟨f0,f1,g0,g1⟩:=qv R3.flt;obtain⟨u0,u1,_,_⟩:=qv nF;obtain⟨s0,s1,s2,s3,s4,s5,s6,s7,s8,s9,s10,_⟩:=qh nP;have hlt:=R3.lt;have U1:=qb (T1.out.below b3);have U2:=qb (T2.out.below b3);have HR3:=qb R3;clear R3 nP nF b3 T1 T2 HR2 NP NF;cases B
  ·obtain⟨W9,hW9,hRQ,hT9⟩:=HR3.out.put13 (.string ⟨#[]⟩) (.slice none 0 0) (.int .u8 0) (.string ⟨#[]⟩) (.bool false) (.string ⟨#[]⟩) (.bool false) (.string ⟨#[]⟩) (.slice none 0 0) (.string ⟨#[]⟩) (.bool false) (.int .i64 19) (.int .i64 0);replace hW9:=hW9.symm;have RQ:=qb hRQ;have TQ:=qb hT9;clear hRQ hT9;(go_wp2_with fail);refine qkv _ _ w.heap.size (w.heap.size+1) _ _ _ _ _ _ _ _ _ _ _ _ _ ⟨_,_,_,rfl⟩ ⟨_,_,_,rfl⟩ rfl rfl RQ.out.ver RQ.out.flt ?_;have HE9:R=.bad 19 0:=by rw[←HRR.out];simp
   rw[HE9];exact⟨RQ.out.bel,by decide,false,rfl⟩
  ·obtain ⟨W9,hW9,hRQ,hT9⟩:=HR3.out.put13 (.string (qd x.ep)) (.slice r1 x.rel.length c1) (.int .u8 x.c) (.string (qd x.n)) (.bool x.b) (.string (qd x.m)) (.bool x.d) (.string (qd x.k)) (.slice q1 x.loc.length d1) (.string (qd s.data.toList)) (.bool false) (.int .i64 0) (.int .i64 0);replace hW9:=hW9.symm;have RQ:=qb hRQ;have TQ:=qb hT9;clear hRQ hT9;(go_wp2_with fail);go_region
   all_goals
    (go_wp2_with fail);refine qkv _ _ w.heap.size (w.heap.size+1) _ _ _ _ _ _ _ _ _ _ _ _ _ ⟨_,_,_,rfl⟩ ⟨_,_,_,rfl⟩ rfl rfl RQ.out.ver RQ.out.flt ?_;have HE9:R=.ok x s.data.toList false:=by rw[←HRR.out];simp
    rw[HE9];exact⟨RQ.out.bel.drew,_,_,rfl,(TQ.out _ _ U1.out F1.out).below ((Below.refl _ _).drew),(TQ.out _ _ U2.out F2.out).below ((Below.refl _ _).drew),F1.out.mono (Nat.le_add_right _ 2),F2.out.mono (Nat.le_add_right _ 2)⟩
set_option maxHeartbeats 4000000
set_option maxRecDepth 100000
theorem qbcq (s:QY) (w:World) (hs:s.size≤140737488351232) :
  Calls Tryz.prog 168 #[.string s,.func (.func 170) #[] #[]] w (qds (qbp pubB s.data.toList) w):=by
 have P1:∀ w,Calls Tryz.prog 36 #[.string s] w (qds (qbp (fun _=>true) s.data.toList) w):=fun w=>by
  cases h:okP s.data.toList
  ·exact qdz s w hs h
  ·exact qfb s w h
 unfold qbp at P1 ⊢;rw[if_pos rfl]at P1;cases ha:okP s.data.toList
 ·have n1:=qdw _ ha;rw[ha]at P1;rw[if_neg (by simp)]
  rw[if_neg (by simp)]at P1
  have HE:Hid ((errX s.data.toList).1≠0):=qb (by simpa using n1)
  generalize (errX s.data.toList).1=e1 at *;generalize (errX s.data.toList).2=p1 at *;have P1:=qb P1;clear ha;have R0:=RB.start w;go_enter Tryz.func168,Tryz.ntmps168
  (go_wp2_with fail);refine(P1.out _).mono ?_;rintro e w1 ⟨b1,_,st,rfl⟩
  try unfold zerV
  obtain⟨V,hV,nP,nF,bV,sV⟩:=ql w1 #[.string ⟨#[]⟩,.slice none 0 0,.int .u8 0,.string ⟨#[]⟩,.bool false,.string ⟨#[]⟩,.bool false,.string ⟨#[]⟩,.slice none 0 0,.string ⟨#[]⟩,.bool st] #[.int .i64 e1,.int .i64 (p1:Int)] 59 25;have R2:=(R0.below b1).below bV;have hlt:=R2.lt;obtain⟨x0,x1,x2,x3,x4,x5,x6,x7,x8,x9,x10,y0,y1,y2,y3,y4,y5,y6,y7,y8,y9,y10⟩:=qh R2.ver;obtain⟨f0,f1,g0,g1⟩:=qv R2.flt;obtain⟨u0,u1,_,_⟩:=qv nF;obtain⟨s0,s1,s2,s3,s4,s5,s6,s7,s8,s9,s10,_⟩:=qh nP;obtain⟨W9,hW9,hRQ,hT9⟩:=R2.put13 (.string ⟨#[]⟩) (.slice none 0 0) (.int .u8 0) (.string ⟨#[]⟩) (.bool false) (.string ⟨#[]⟩) (.bool false) (.string ⟨#[]⟩) (.slice none 0 0) (.string ⟨#[]⟩) (.bool st) (.int .i64 e1) (.int .i64 (p1:Int));replace hW9:=hW9.symm;have RQ:=qb hRQ;have TQ:=qb hT9;clear hRQ hT9;clear nP nF bV R0 b1 P1 R2;(go_wp2_with fail);go_region
  all_goals
   (go_wp2_with fail);refine qkv _ _ w.heap.size (w.heap.size+1) _ _ _ _ _ _ _ _ _ _ _ _ _ ⟨_,_,_,rfl⟩ ⟨_,_,_,rfl⟩ rfl rfl RQ.out.ver RQ.out.flt ?_;exact⟨RQ.out.bel.drew,HE.out,st,rfl⟩
 ·rw [ha]at P1;rw[if_pos rfl];rw[if_pos rfl]at P1;generalize qm (qk s.data.toList)=x at *;have P1:=qb P1;have MC:=fun r1 q1 c1 d1 W=>qgw x r1 q1 c1 d1 W
  try dsimp only
  obtain⟨B,hB⟩:∃ B,(pubB x)=B:=⟨_,rfl⟩;simp only[hB]at MC ⊢;have MC:=qb MC;generalize hR:(if B=true then Wd.ok x s.data.toList false else Wd.bad 19 0)=R;have HRR:=qb hR;clear ha hB hR;have R0:=RB.start w;go_enter Tryz.func168,Tryz.ntmps168
  (go_wp2_with fail);refine(P1.out _).mono ?_;rintro e w1 ⟨b1,vr,vl,rfl,t1,t2,fr1,fr2⟩;simp only[World.size_alloc]at fr1 fr2;obtain⟨r1,c1,rfl,_⟩:=id t1;obtain⟨q1,d1,rfl,_⟩:=id t2
  try unfold verV
  obtain⟨V,hV,nP,nF,bV,sV⟩:=ql w1 #[.string (qd x.ep),.slice r1 x.rel.length c1,.int .u8 x.c,.string (qd x.n),.bool x.b,.string (qd x.m),.bool x.d,.string (qd x.k),.slice q1 x.loc.length d1,.string (qd s.data.toList),.bool false] #[.int .i64 0,.int .i64 0] 59 25;have hq:w.heap.size+1<w1.heap.size:=(R0.below b1).lt;have HV:=qb hV;clear hV;have R2:=(R0.below b1).below bV;have hlt:=R2.lt;obtain⟨u0,u1,_,_⟩:=qv nF;obtain⟨s0,s1,s2,s3,s4,s5,s6,s7,s8,s9,s10,_⟩:=qh nP;have NP:=qb nP;have NF:=qb nF;have HR2:=qb R2;have F1:=qb fr1;have F2:=qb fr2;have T1:=qb (t1.below bV);have T2:=qb (t2.below bV);have HLT:Hid (w1.heap.size+1<V.heap.size):=(Array.getElem?_eq_some_iff.1 nF).1;clear nP nF bV R0 R2 b1 P1 t1 t2 fr1 fr2;go_upto_region 2 with fail
  rw[HV.out];(go_wp2_with fail);refine(MC.out _ _ _ _ _).mono ?_;rintro e w3 ⟨rfl,b3⟩;have R3:=HR2.out.below b3;have nP:=(b3.block _ (by have:=HLT.out;omega)).trans NP.out
  have nF:=(b3.block _ HLT.out).trans NF.out;clear hlt u0 u1 s0 s1 s2 s3 s4 s5 s6 s7 s8 s9 s10;obtain⟨x0,x1,x2,x3,x4,x5,x6,x7,x8,x9,x10,y0,y1,y2,y3,y4,y5,y6,y7,y8,y9,y10⟩:=qh R3.ver;obtain⟨f0,f1,g0,g1⟩:=qv R3.flt;obtain⟨u0,u1,_,_⟩:=qv nF;obtain⟨s0,s1,s2,s3,s4,s5,s6,s7,s8,s9,s10,_⟩:=qh nP;have hlt:=R3.lt;have U1:=qb (T1.out.below b3);have U2:=qb (T2.out.below b3);have HR3:=qb R3;clear R3 nP nF b3 T1 T2 HR2 NP NF;cases B
  ·obtain⟨W9,hW9,hRQ,hT9⟩:=HR3.out.put13 (.string ⟨#[]⟩) (.slice none 0 0) (.int .u8 0) (.string ⟨#[]⟩) (.bool false) (.string ⟨#[]⟩) (.bool false) (.string ⟨#[]⟩) (.slice none 0 0) (.string ⟨#[]⟩) (.bool false) (.int .i64 19) (.int .i64 0);replace hW9:=hW9.symm;have RQ:=qb hRQ;have TQ:=qb hT9;clear hRQ hT9;(go_wp2_with fail);refine qkv _ _ w.heap.size (w.heap.size+1) _ _ _ _ _ _ _ _ _ _ _ _ _ ⟨_,_,_,rfl⟩ ⟨_,_,_,rfl⟩ rfl rfl RQ.out.ver RQ.out.flt ?_;have HE9:R=.bad 19 0:=by rw[←HRR.out];simp
   rw[HE9];exact⟨RQ.out.bel,by decide,false,rfl⟩
  ·obtain ⟨W9,hW9,hRQ,hT9⟩:=HR3.out.put13 (.string (qd x.ep)) (.slice r1 x.rel.length c1) (.int .u8 x.c) (.string (qd x.n)) (.bool x.b) (.string (qd x.m)) (.bool x.d) (.string (qd x.k)) (.slice q1 x.loc.length d1) (.string (qd s.data.toList)) (.bool false) (.int .i64 0) (.int .i64 0);replace hW9:=hW9.symm;have RQ:=qb hRQ;have TQ:=qb hT9;clear hRQ hT9;(go_wp2_with fail);go_region
   all_goals
    (go_wp2_with fail);refine qkv _ _ w.heap.size (w.heap.size+1) _ _ _ _ _ _ _ _ _ _ _ _ _ ⟨_,_,_,rfl⟩ ⟨_,_,_,rfl⟩ rfl rfl RQ.out.ver RQ.out.flt ?_;have HE9:R=.ok x s.data.toList false:=by rw[←HRR.out];simp
    rw[HE9];exact⟨RQ.out.bel.drew,_,_,rfl,(TQ.out _ _ U1.out F1.out).below ((Below.refl _ _).drew),(TQ.out _ _ U2.out F2.out).below ((Below.refl _ _).drew),F1.out.mono (Nat.le_add_right _ 2),F2.out.mono (Nat.le_add_right _ 2)⟩
set_option maxHeartbeats 4000000
set_option maxRecDepth 100000
theorem qbbm (s:QY) (w:World) (hs:s.size≤140737488351232) :
  Calls Tryz.prog 168 #[.string s,.func (.func 174) #[] #[]] w (qds (qbp qgb s.data.toList) w):=by
 have P1:∀ w,Calls Tryz.prog 36 #[.string s] w (qds (qbp (fun _=>true) s.data.toList) w):=fun w=>by
  cases h:okP s.data.toList
  ·exact qdz s w hs h
  ·exact qfb s w h
 unfold qbp at P1 ⊢;rw[if_pos rfl]at P1;cases ha:okP s.data.toList
 ·have n1:=qdw _ ha;rw[ha]at P1;rw[if_neg (by simp)]
  rw[if_neg (by simp)]at P1
  have HE:Hid ((errX s.data.toList).1≠0):=qb (by simpa using n1)
  generalize (errX s.data.toList).1=e1 at *;generalize (errX s.data.toList).2=p1 at *;have P1:=qb P1;clear ha;have R0:=RB.start w;go_enter Tryz.func168,Tryz.ntmps168
  (go_wp2_with fail);refine(P1.out _).mono ?_;rintro e w1 ⟨b1,_,st,rfl⟩
  try unfold zerV
  obtain⟨V,hV,nP,nF,bV,sV⟩:=ql w1 #[.string ⟨#[]⟩,.slice none 0 0,.int .u8 0,.string ⟨#[]⟩,.bool false,.string ⟨#[]⟩,.bool false,.string ⟨#[]⟩,.slice none 0 0,.string ⟨#[]⟩,.bool st] #[.int .i64 e1,.int .i64 (p1:Int)] 59 25;have R2:=(R0.below b1).below bV;have hlt:=R2.lt;obtain⟨x0,x1,x2,x3,x4,x5,x6,x7,x8,x9,x10,y0,y1,y2,y3,y4,y5,y6,y7,y8,y9,y10⟩:=qh R2.ver;obtain⟨f0,f1,g0,g1⟩:=qv R2.flt;obtain⟨u0,u1,_,_⟩:=qv nF;obtain⟨s0,s1,s2,s3,s4,s5,s6,s7,s8,s9,s10,_⟩:=qh nP;obtain⟨W9,hW9,hRQ,hT9⟩:=R2.put13 (.string ⟨#[]⟩) (.slice none 0 0) (.int .u8 0) (.string ⟨#[]⟩) (.bool false) (.string ⟨#[]⟩) (.bool false) (.string ⟨#[]⟩) (.slice none 0 0) (.string ⟨#[]⟩) (.bool st) (.int .i64 e1) (.int .i64 (p1:Int));replace hW9:=hW9.symm;have RQ:=qb hRQ;have TQ:=qb hT9;clear hRQ hT9;clear nP nF bV R0 b1 P1 R2;(go_wp2_with fail);go_region
  all_goals
   (go_wp2_with fail);refine qkv _ _ w.heap.size (w.heap.size+1) _ _ _ _ _ _ _ _ _ _ _ _ _ ⟨_,_,_,rfl⟩ ⟨_,_,_,rfl⟩ rfl rfl RQ.out.ver RQ.out.flt ?_;exact⟨RQ.out.bel.drew,HE.out,st,rfl⟩
 ·rw [ha]at P1;rw[if_pos rfl];rw[if_pos rfl]at P1;generalize qm (qk s.data.toList)=x at *;have P1:=qb P1;have MC:=fun r1 q1 c1 d1 W=>qbjx x r1 q1 c1 d1 W
  try dsimp only
  obtain⟨B,hB⟩:∃ B,(qgb x)=B:=⟨_,rfl⟩;simp only[hB]at MC ⊢;have MC:=qb MC;generalize hR:(if B=true then Wd.ok x s.data.toList false else Wd.bad 19 0)=R;have HRR:=qb hR;clear ha hB hR;have R0:=RB.start w;go_enter Tryz.func168,Tryz.ntmps168
  (go_wp2_with fail);refine(P1.out _).mono ?_;rintro e w1 ⟨b1,vr,vl,rfl,t1,t2,fr1,fr2⟩;simp only[World.size_alloc]at fr1 fr2;obtain⟨r1,c1,rfl,_⟩:=id t1;obtain⟨q1,d1,rfl,_⟩:=id t2
  try unfold verV
  obtain⟨V,hV,nP,nF,bV,sV⟩:=ql w1 #[.string (qd x.ep),.slice r1 x.rel.length c1,.int .u8 x.c,.string (qd x.n),.bool x.b,.string (qd x.m),.bool x.d,.string (qd x.k),.slice q1 x.loc.length d1,.string (qd s.data.toList),.bool false] #[.int .i64 0,.int .i64 0] 59 25;have hq:w.heap.size+1<w1.heap.size:=(R0.below b1).lt;have HV:=qb hV;clear hV;have R2:=(R0.below b1).below bV;have hlt:=R2.lt;obtain⟨u0,u1,_,_⟩:=qv nF;obtain⟨s0,s1,s2,s3,s4,s5,s6,s7,s8,s9,s10,_⟩:=qh nP;have NP:=qb nP;have NF:=qb nF;have HR2:=qb R2;have F1:=qb fr1;have F2:=qb fr2;have T1:=qb (t1.below bV);have T2:=qb (t2.below bV);have HLT:Hid (w1.heap.size+1<V.heap.size):=(Array.getElem?_eq_some_iff.1 nF).1;clear nP nF bV R0 R2 b1 P1 t1 t2 fr1 fr2;go_upto_region 2 with fail
  rw[HV.out];(go_wp2_with fail);refine(MC.out _ _ _ _ _).mono ?_;rintro e w3 ⟨rfl,b3⟩;have R3:=HR2.out.below b3;have nP:=(b3.block _ (by have:=HLT.out;omega)).trans NP.out
  have nF:=(b3.block _ HLT.out).trans NF.out;clear hlt u0 u1 s0 s1 s2 s3 s4 s5 s6 s7 s8 s9 s10;obtain⟨x0,x1,x2,x3,x4,x5,x6,x7,x8,x9,x10,y0,y1,y2,y3,y4,y5,y6,y7,y8,y9,y10⟩:=qh R3.ver;obtain⟨f0,f1,g0,g1⟩:=qv R3.flt;obtain⟨u0,u1,_,_⟩:=qv nF;obtain⟨s0,s1,s2,s3,s4,s5,s6,s7,s8,s9,s10,_⟩:=qh nP;have hlt:=R3.lt;have U1:=qb (T1.out.below b3);have U2:=qb (T2.out.below b3);have HR3:=qb R3;clear R3 nP nF b3 T1 T2 HR2 NP NF;cases B
  ·obtain⟨W9,hW9,hRQ,hT9⟩:=HR3.out.put13 (.string ⟨#[]⟩) (.slice none 0 0) (.int .u8 0) (.string ⟨#[]⟩) (.bool false) (.string ⟨#[]⟩) (.bool false) (.string ⟨#[]⟩) (.slice none 0 0) (.string ⟨#[]⟩) (.bool false) (.int .i64 19) (.int .i64 0);replace hW9:=hW9.symm;have RQ:=qb hRQ;have TQ:=qb hT9;clear hRQ hT9;(go_wp2_with fail);refine qkv _ _ w.heap.size (w.heap.size+1) _ _ _ _ _ _ _ _ _ _ _ _ _ ⟨_,_,_,rfl⟩ ⟨_,_,_,rfl⟩ rfl rfl RQ.out.ver RQ.out.flt ?_;have HE9:R=.bad 19 0:=by rw[←HRR.out];simp
   rw[HE9];exact⟨RQ.out.bel,by decide,false,rfl⟩
  ·obtain ⟨W9,hW9,hRQ,hT9⟩:=HR3.out.put13 (.string (qd x.ep)) (.slice r1 x.rel.length c1) (.int .u8 x.c) (.string (qd x.n)) (.bool x.b) (.string (qd x.m)) (.bool x.d) (.string (qd x.k)) (.slice q1 x.loc.length d1) (.string (qd s.data.toList)) (.bool false) (.int .i64 0) (.int .i64 0);replace hW9:=hW9.symm;have RQ:=qb hRQ;have TQ:=qb hT9;clear hRQ hT9;(go_wp2_with fail);go_region
   all_goals
    (go_wp2_with fail);refine qkv _ _ w.heap.size (w.heap.size+1) _ _ _ _ _ _ _ _ _ _ _ _ _ ⟨_,_,_,rfl⟩ ⟨_,_,_,rfl⟩ rfl rfl RQ.out.ver RQ.out.flt ?_;have HE9:R=.ok x s.data.toList false:=by rw[←HRR.out];simp
    rw[HE9];exact⟨RQ.out.bel.drew,_,_,rfl,(TQ.out _ _ U1.out F1.out).below ((Below.refl _ _).drew),(TQ.out _ _ U2.out F2.out).below ((Below.refl _ _).drew),F1.out.mono (Nat.le_add_right _ 2),F2.out.mono (Nat.le_add_right _ 2)⟩
end Go.Proofs.YtabmfdedbpmfmaaGreat
