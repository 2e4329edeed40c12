/- Walks: the word at a place. -/
import Derived.Deep.Cut
import Derived.Test.YtabmfdedbpmfmaaGreatVGl
namespace Go.Proofs.YtabmfdedbpmfmaaGreat
open Go.RowKit Go.Shelf
set_option linter.unusedVariables false
set_option maxHeartbeats 8000000
set_option maxRecDepth 100000
theorem qbcb (s:QY) (b:Nat) (R:Wd) (w:World) (hs:s.size≤256) (hb:b≤s.size)
  (hR:∀ W,Calls Tryz.prog 159 #[.string (s.extract b (b+wdN (s.data.toList.drop b)))] W (qdv R W)) (hp:∀ e p,R=.bad e p→p≤1000) :
  Calls Tryz.prog 116 #[.string s,.int .i64 (b:Int),.func (.func 159) #[] #[]] w (qwp (rwOf s.size b (wdN (s.data.toList.drop b)) R) w):=by
 have MF:=qb (fun W=>qhh s b W);have IS:=qb (fun c W=>qmp c 6 W);have HRR:=qb hR;have HP:=qb hp;have hn:=qlj (s.data.toList.drop b);rw[List.length_drop,qg]at hn;generalize hG:rwOf s.size b (wdN (s.data.toList.drop b)) R=G;have HG:=qb hG;clear hG hR hp;have Q0:=R1.start w;go_enter Tryz.func116,Tryz.ntmps116
 (go_wp2_with fail);generalize w.alloc _=W0 at *;have Q0:=qb Q0;have hlt:w.heap.size<W0.heap.size:=Q0.out.lt;go_loopw [9] (fun y wr=>∃ i:Nat,b≤i∧i≤s.size∧y=.int .i64 i∧b+wdN (s.data.toList.drop b)=i+wdN (s.data.toList.drop i)∧wr=W0) (fun y _=>s.size-(intOf y).toNat)
 case atStart=>exact⟨b,by omega,hb,rfl,rfl,rfl⟩
 case round=>
  obtain⟨i,hbi,hi,rfl,hc,rfl⟩:=hrel
  by_cases hin:i<s.size
  ·have hin':(i:Int)<(s.size:Int):=by omega
   by_cases h1:(s[i].toNat:Int)=44
   ·have hcmp:((s[i].toNat:Int) != 44)=false:=by rw[h1];rfl
    have hE:wdN (s.data.toList.drop b)=i-b:=by rw[qcj s i hin,wdN,if_pos (by simp only[Bool.or_eq_true,beq_iff_eq];left;apply UInt8.toNat_inj.1;show _=44;omega)]at hc;omega
    clear hc h1;have HE9:=qb hE;clear hE
    by_cases hz:i=b
    ·have HG2:Hid (G=(.bad (misL s.size b) 0,b)):=qb (by rw[←HG.out,HE9.out,hz,Nat.sub_self];rfl)
     have HML:Hid (misL s.size b≠0):=qb (by unfold misL;split<;>decide)
     generalize misL s.size b=ML at *;have hzz:((i:Int)==(b:Int))=true:=by simp;omega
     obtain⟨x0,x1,x2,x3,x4,x5,x6,x7,x8,x9,x10,y0,y1,y2,y3,y4,y5,y6,y7,y8,y9,y10⟩:=qh Q0.out.ver;obtain⟨W9,hW9,hRQ,hT9⟩:=Q0.out.put11 (.string ⟨#[]⟩) (.slice none 0 0) (.int .u8 0) (.string ⟨#[]⟩) (.bool false) (.string ⟨#[]⟩) (.bool false) (.string ⟨#[]⟩) (.slice none 0 0) (.string ⟨#[]⟩) (.bool false);have HW9:=qb hW9;have RQ:=qb hRQ;clear hRQ hT9 hW9 hz;(go_wp2_with fail);refine(MF.out _).mono ?_;rintro e w2 ⟨rfl,hw2⟩;rw[hw2];clear hw2 w2;(go_wp2_with fail);rw[←HW9.out];refine qcf _ _ w.heap.size _ _ _ _ _ _ _ _ _ _ _ _ _ ⟨_,_,_,rfl⟩ ⟨_,_,_,rfl⟩ rfl rfl rfl RQ.out.ver ?_;rw[HG2.out];exact⟨RQ.out.bel,HML.out,rfl⟩
    ·have hzz:((i:Int)==(b:Int))=false:=by simp;omega
     have hex:s.extract b (b+(i-b))=s.extract b i:=by rw[Nat.add_sub_cancel' hbi]
     have hR9:=HRR.out;rw[HE9.out,hex]at hR9;have hG9:=HG.out;rw[HE9.out]at hG9;unfold rwOf at hG9;rw[if_neg (by omega)]at hG9
     have HCR:=qb hR9;have HG9:=qb hG9;clear hR9 hG9 hex HRR;have hbi':(b:Int)≤(i:Int):=by omega
     have hi':(i:Int)≤(s.size:Int):=by omega
     cases R with
     | bad er p=>
      have hp1:=HP.out er p rfl;have HG2:Hid (G=(.bad er 0,b+p)):=qb HG9.out.symm;(go_wp2_with fail);refine(HCR.out _).mono ?_;rintro e w1 ⟨b1,hne,st,rfl⟩
      try unfold zerV
      have HNE:=qb hne;have n1:(er==0)=false:=by simpa using hne
      have hq:w.heap.size<w1.heap.size:=(Q0.out.below b1).lt;obtain⟨V,hV,nP,nF,bV,sV⟩:=qm w1 #[.string ⟨#[]⟩,.slice none 0 0,.int .u8 0,.string ⟨#[]⟩,.bool false,.string ⟨#[]⟩,.bool false,.string ⟨#[]⟩,.slice none 0 0,.string ⟨#[]⟩,.bool st] #[.int .i64 er,.int .i64 (p:Int)] 59 25;have HV:=qb hV;clear hV;have Q2:=(Q0.out.below b1).below bV;obtain⟨x0,x1,x2,x3,x4,x5,x6,x7,x8,x9,x10,y0,y1,y2,y3,y4,y5,y6,y7,y8,y9,y10⟩:=qh Q2.ver;obtain⟨u0,u1,_,_⟩:=qv nF;obtain⟨W9,hW9,hRQ,hT9⟩:=Q2.put11 (.string ⟨#[]⟩) (.slice none 0 0) (.int .u8 0) (.string ⟨#[]⟩) (.bool false) (.string ⟨#[]⟩) (.bool false) (.string ⟨#[]⟩) (.slice none 0 0) (.string ⟨#[]⟩) (.bool false);have HW9:=qb hW9;have RQ:=qb hRQ;clear hRQ hT9 hW9 Q2 b1 hne nP nF bV HCR;go_upto_region 7 with fail
      rw[HV.out];(go_wp2_with fail);go_region
      all_goals
       (go_wp2_with fail);rw[←HW9.out];refine qcf _ _ w.heap.size _ _ _ _ _ _ _ _ _ _ _ _ _ ⟨_,_,_,rfl⟩ ⟨_,_,_,rfl⟩ rfl rfl rfl RQ.out.ver ?_;rw[HG2.out];exact⟨RQ.out.bel.drew,HNE.out,rfl⟩
     | ok x t st=>
      have HG2:Hid (G=(.ok x t st,b+(i-b))):=qb HG9.out.symm;(go_wp2_with fail);refine(HCR.out _).mono ?_;rintro e w1 ⟨b1,vr,vl,rfl,t1,t2,fr1,fr2⟩;obtain⟨r1,c1,rfl,_⟩:=id t1;obtain⟨q1,d1,rfl,_⟩:=id t2
      try unfold verV
      have hq:w.heap.size<w1.heap.size:=(Q0.out.below b1).lt;obtain⟨V,hV,nP,nF,bV,sV⟩:=qm w1 #[.string (qd x.ep),.slice r1 x.rel.length c1,.int .u8 x.c,.string (qd x.n),.bool x.b,.string (qd x.m),.bool x.d,.string (qd x.k),.slice q1 x.loc.length d1,.string (qd t),.bool st] #[.int .i64 0,.int .i64 0] 59 25;have HV:=qb hV;clear hV;have Q2:=(Q0.out.below b1).below bV;obtain⟨x0,x1,x2,x3,x4,x5,x6,x7,x8,x9,x10,y0,y1,y2,y3,y4,y5,y6,y7,y8,y9,y10⟩:=qh Q2.ver;obtain⟨u0,u1,_,_⟩:=qv nF;obtain⟨s0,s1,s2,s3,s4,s5,s6,s7,s8,s9,s10,_⟩:=qh nP;obtain⟨W9,hW9,hRQ,hT9⟩:=Q2.put11 (.string (qd x.ep)) (.slice r1 x.rel.length c1) (.int .u8 x.c) (.string (qd x.n)) (.bool x.b) (.string (qd x.m)) (.bool x.d) (.string (qd x.k)) (.slice q1 x.loc.length d1) (.string (qd t)) (.bool st);have HW9:=qb hW9;have RQ:=qb hRQ;have TQ:=qb hT9;have T1:=qb (t1.below bV);have T2:=qb (t2.below bV);have F1:=qb (fr1.mono Q0.out.lt);have F2:=qb (fr2.mono Q0.out.lt);clear hRQ hT9 hW9 Q2 b1 nP nF bV HCR t1 t2 fr1 fr2;go_upto_region 7 with fail
      rw[HV.out];have hW9:=HW9.out.symm;(go_wp2_with fail);refine qcf _ _ w.heap.size _ _ _ _ _ _ _ _ _ _ _ _ _ ⟨_,_,_,rfl⟩ ⟨_,_,_,rfl⟩ rfl rfl rfl RQ.out.ver ?_;rw[HG2.out];exact⟨RQ.out.bel,_,_,by rw[Nat.add_sub_cancel' hbi];rfl,TQ.out _ _ T1.out F1.out,TQ.out _ _ T2.out F2.out,F1.out.mono (Nat.le_succ _),F2.out.mono (Nat.le_succ _)⟩
   ·have hcmp:((s[i].toNat:Int) != 44)=true:=by simp only[bne_iff_ne,ne_eq];exact h1
    have h44:(s[i]==44)=false:=by rw[beq_eq_false_iff_ne];intro e;exact h1 (by rw[e];rfl)
    cases h2:isC (s[i].toNat:Int) 6
    ·have HC:=qb (hc.trans (by rw[qcj s i hin,wdN,if_neg (by rw[h44,h2];simp)]))
     have I6:=IS.out (s[i].toNat:Int);rw[h2]at I6;have I6:=qb I6;clear hc h1 h2 h44;go_wp2_with (go_at_call 86;refine(I6.out _).mono ?_;rintro e w9 ⟨rfl,rfl⟩)
     go_roundw
     case rel=>exact⟨i+1,by omega,by omega,by go_num,by have:=HC.out;omega,by trivial⟩
     case measure=>simp[intOf];omega
    ·have hE:wdN (s.data.toList.drop b)=i-b:=by rw[qcj s i hin,wdN,if_pos (by rw[h2];simp)]at hc;omega
     have I6:=IS.out (s[i].toNat:Int);rw[h2]at I6;have I6:=qb I6;clear hc h1 h2 h44;have HE9:=qb hE;clear hE
     by_cases hz:i=b
     ·have HG2:Hid (G=(.bad (misL s.size b) 0,b)):=qb (by rw[←HG.out,HE9.out,hz,Nat.sub_self];rfl)
      have HML:Hid (misL s.size b≠0):=qb (by unfold misL;split<;>decide)
      generalize misL s.size b=ML at *;have hzz:((i:Int)==(b:Int))=true:=by simp;omega
      obtain⟨x0,x1,x2,x3,x4,x5,x6,x7,x8,x9,x10,y0,y1,y2,y3,y4,y5,y6,y7,y8,y9,y10⟩:=qh Q0.out.ver;obtain⟨W9,hW9,hRQ,hT9⟩:=Q0.out.put11 (.string ⟨#[]⟩) (.slice none 0 0) (.int .u8 0) (.string ⟨#[]⟩) (.bool false) (.string ⟨#[]⟩) (.bool false) (.string ⟨#[]⟩) (.slice none 0 0) (.string ⟨#[]⟩) (.bool false);have HW9:=qb hW9;have RQ:=qb hRQ;clear hRQ hT9 hW9 hz;go_wp2_with (go_at_call 86;refine(I6.out _).mono ?_;rintro e w9 ⟨rfl,rfl⟩)
      refine(MF.out _).mono ?_;rintro e w2 ⟨rfl,hw2⟩;rw[hw2];clear hw2 w2;(go_wp2_with fail);rw[←HW9.out];refine qcf _ _ w.heap.size _ _ _ _ _ _ _ _ _ _ _ _ _ ⟨_,_,_,rfl⟩ ⟨_,_,_,rfl⟩ rfl rfl rfl RQ.out.ver ?_;rw[HG2.out];exact⟨RQ.out.bel,HML.out,rfl⟩
     ·have hzz:((i:Int)==(b:Int))=false:=by simp;omega
      have hex:s.extract b (b+(i-b))=s.extract b i:=by rw[Nat.add_sub_cancel' hbi]
      have hR9:=HRR.out;rw[HE9.out,hex]at hR9;have hG9:=HG.out;rw[HE9.out]at hG9;unfold rwOf at hG9;rw[if_neg (by omega)]at hG9
      have HCR:=qb hR9;have HG9:=qb hG9;clear hR9 hG9 hex HRR;have hbi':(b:Int)≤(i:Int):=by omega
      have hi':(i:Int)≤(s.size:Int):=by omega
      cases R with
      | bad er p=>
       have hp1:=HP.out er p rfl;have HG2:Hid (G=(.bad er 0,b+p)):=qb HG9.out.symm;go_wp2_with (go_at_call 86;refine(I6.out _).mono ?_;rintro e w9 ⟨rfl,rfl⟩)
       refine(HCR.out _).mono ?_;rintro e w1 ⟨b1,hne,st,rfl⟩
       try unfold zerV
       have HNE:=qb hne;have n1:(er==0)=false:=by simpa using hne
       have hq:w.heap.size<w1.heap.size:=(Q0.out.below b1).lt;obtain⟨V,hV,nP,nF,bV,sV⟩:=qm w1 #[.string ⟨#[]⟩,.slice none 0 0,.int .u8 0,.string ⟨#[]⟩,.bool false,.string ⟨#[]⟩,.bool false,.string ⟨#[]⟩,.slice none 0 0,.string ⟨#[]⟩,.bool st] #[.int .i64 er,.int .i64 (p:Int)] 59 25;have HV:=qb hV;clear hV;have Q2:=(Q0.out.below b1).below bV;obtain⟨x0,x1,x2,x3,x4,x5,x6,x7,x8,x9,x10,y0,y1,y2,y3,y4,y5,y6,y7,y8,y9,y10⟩:=qh Q2.ver;obtain⟨u0,u1,_,_⟩:=qv nF;obtain⟨W9,hW9,hRQ,hT9⟩:=Q2.put11 (.string ⟨#[]⟩) (.slice none 0 0) (.int .u8 0) (.string ⟨#[]⟩) (.bool false) (.string ⟨#[]⟩) (.bool false) (.string ⟨#[]⟩) (.slice none 0 0) (.string ⟨#[]⟩) (.bool false);have HW9:=qb hW9;have RQ:=qb hRQ;clear hRQ hT9 hW9 Q2 b1 hne nP nF bV HCR;go_upto_region 7 with fail
       rw[HV.out];(go_wp2_with fail);go_region
       all_goals
        (go_wp2_with fail);rw[←HW9.out];refine qcf _ _ w.heap.size _ _ _ _ _ _ _ _ _ _ _ _ _ ⟨_,_,_,rfl⟩ ⟨_,_,_,rfl⟩ rfl rfl rfl RQ.out.ver ?_;rw[HG2.out];exact⟨RQ.out.bel.drew,HNE.out,rfl⟩
      | ok x t st=>
       have HG2:Hid (G=(.ok x t st,b+(i-b))):=qb HG9.out.symm;go_wp2_with (go_at_call 86;refine(I6.out _).mono ?_;rintro e w9 ⟨rfl,rfl⟩)
       refine(HCR.out _).mono ?_;rintro e w1 ⟨b1,vr,vl,rfl,t1,t2,fr1,fr2⟩;obtain⟨r1,c1,rfl,_⟩:=id t1;obtain⟨q1,d1,rfl,_⟩:=id t2
       try unfold verV
       have hq:w.heap.size<w1.heap.size:=(Q0.out.below b1).lt;obtain⟨V,hV,nP,nF,bV,sV⟩:=qm w1 #[.string (qd x.ep),.slice r1 x.rel.length c1,.int .u8 x.c,.string (qd x.n),.bool x.b,.string (qd x.m),.bool x.d,.string (qd x.k),.slice q1 x.loc.length d1,.string (qd t),.bool st] #[.int .i64 0,.int .i64 0] 59 25;have HV:=qb hV;clear hV;have Q2:=(Q0.out.below b1).below bV;obtain⟨x0,x1,x2,x3,x4,x5,x6,x7,x8,x9,x10,y0,y1,y2,y3,y4,y5,y6,y7,y8,y9,y10⟩:=qh Q2.ver;obtain⟨u0,u1,_,_⟩:=qv nF;obtain⟨s0,s1,s2,s3,s4,s5,s6,s7,s8,s9,s10,_⟩:=qh nP;obtain⟨W9,hW9,hRQ,hT9⟩:=Q2.put11 (.string (qd x.ep)) (.slice r1 x.rel.length c1) (.int .u8 x.c) (.string (qd x.n)) (.bool x.b) (.string (qd x.m)) (.bool x.d) (.string (qd x.k)) (.slice q1 x.loc.length d1) (.string (qd t)) (.bool st);have HW9:=qb hW9;have RQ:=qb hRQ;have TQ:=qb hT9;have T1:=qb (t1.below bV);have T2:=qb (t2.below bV);have F1:=qb (fr1.mono Q0.out.lt);have F2:=qb (fr2.mono Q0.out.lt);clear hRQ hT9 hW9 Q2 b1 nP nF bV HCR t1 t2 fr1 fr2;go_upto_region 7 with fail
       rw[HV.out];have hW9:=HW9.out.symm;(go_wp2_with fail);refine qcf _ _ w.heap.size _ _ _ _ _ _ _ _ _ _ _ _ _ ⟨_,_,_,rfl⟩ ⟨_,_,_,rfl⟩ rfl rfl rfl RQ.out.ver ?_;rw[HG2.out];exact⟨RQ.out.bel,_,_,by rw[Nat.add_sub_cancel' hbi];rfl,TQ.out _ _ T1.out F1.out,TQ.out _ _ T2.out F2.out,F1.out.mono (Nat.le_succ _),F2.out.mono (Nat.le_succ _)⟩
  ·have hin':¬ (i:Int)<(s.size:Int):=by omega
   have hE:wdN (s.data.toList.drop b)=i-b:=by rw[qdx s i (by omega),wdN]at hc;omega
   clear hc;have HE9:=qb hE;clear hE
   by_cases hz:i=b
   ·have HG2:Hid (G=(.bad (misL s.size b) 0,b)):=qb (by rw[←HG.out,HE9.out,hz,Nat.sub_self];rfl)
    have HML:Hid (misL s.size b≠0):=qb (by unfold misL;split<;>decide)
    generalize misL s.size b=ML at *;have hzz:((i:Int)==(b:Int))=true:=by simp;omega
    obtain⟨x0,x1,x2,x3,x4,x5,x6,x7,x8,x9,x10,y0,y1,y2,y3,y4,y5,y6,y7,y8,y9,y10⟩:=qh Q0.out.ver;obtain⟨W9,hW9,hRQ,hT9⟩:=Q0.out.put11 (.string ⟨#[]⟩) (.slice none 0 0) (.int .u8 0) (.string ⟨#[]⟩) (.bool false) (.string ⟨#[]⟩) (.bool false) (.string ⟨#[]⟩) (.slice none 0 0) (.string ⟨#[]⟩) (.bool false);have HW9:=qb hW9;have RQ:=qb hRQ;clear hRQ hT9 hW9 hz;(go_wp2_with fail);refine(MF.out _).mono ?_;rintro e w2 ⟨rfl,hw2⟩;rw[hw2];clear hw2 w2;(go_wp2_with fail);rw[←HW9.out];refine qcf _ _ w.heap.size _ _ _ _ _ _ _ _ _ _ _ _ _ ⟨_,_,_,rfl⟩ ⟨_,_,_,rfl⟩ rfl rfl rfl RQ.out.ver ?_;rw[HG2.out];exact⟨RQ.out.bel,HML.out,rfl⟩
   ·have hzz:((i:Int)==(b:Int))=false:=by simp;omega
    have hex:s.extract b (b+(i-b))=s.extract b i:=by rw[Nat.add_sub_cancel' hbi]
    have hR9:=HRR.out;rw[HE9.out,hex]at hR9;have hG9:=HG.out;rw[HE9.out]at hG9;unfold rwOf at hG9;rw[if_neg (by omega)]at hG9
    have HCR:=qb hR9;have HG9:=qb hG9;clear hR9 hG9 hex HRR;have hbi':(b:Int)≤(i:Int):=by omega
    have hi':(i:Int)≤(s.size:Int):=by omega
    cases R with
    | bad er p=>
     have hp1:=HP.out er p rfl;have HG2:Hid (G=(.bad er 0,b+p)):=qb HG9.out.symm;(go_wp2_with fail);refine(HCR.out _).mono ?_;rintro e w1 ⟨b1,hne,st,rfl⟩
     try unfold zerV
     have HNE:=qb hne;have n1:(er==0)=false:=by simpa using hne
     have hq:w.heap.size<w1.heap.size:=(Q0.out.below b1).lt;obtain⟨V,hV,nP,nF,bV,sV⟩:=qm w1 #[.string ⟨#[]⟩,.slice none 0 0,.int .u8 0,.string ⟨#[]⟩,.bool false,.string ⟨#[]⟩,.bool false,.string ⟨#[]⟩,.slice none 0 0,.string ⟨#[]⟩,.bool st] #[.int .i64 er,.int .i64 (p:Int)] 59 25;have HV:=qb hV;clear hV;have Q2:=(Q0.out.below b1).below bV;obtain⟨x0,x1,x2,x3,x4,x5,x6,x7,x8,x9,x10,y0,y1,y2,y3,y4,y5,y6,y7,y8,y9,y10⟩:=qh Q2.ver;obtain⟨u0,u1,_,_⟩:=qv nF;obtain⟨W9,hW9,hRQ,hT9⟩:=Q2.put11 (.string ⟨#[]⟩) (.slice none 0 0) (.int .u8 0) (.string ⟨#[]⟩) (.bool false) (.string ⟨#[]⟩) (.bool false) (.string ⟨#[]⟩) (.slice none 0 0) (.string ⟨#[]⟩) (.bool false);have HW9:=qb hW9;have RQ:=qb hRQ;clear hRQ hT9 hW9 Q2 b1 hne nP nF bV HCR;go_upto_region 7 with fail
     rw[HV.out];(go_wp2_with fail);go_region
     all_goals
      (go_wp2_with fail);rw[←HW9.out];refine qcf _ _ w.heap.size _ _ _ _ _ _ _ _ _ _ _ _ _ ⟨_,_,_,rfl⟩ ⟨_,_,_,rfl⟩ rfl rfl rfl RQ.out.ver ?_;rw[HG2.out];exact⟨RQ.out.bel.drew,HNE.out,rfl⟩
    | ok x t st=>
     have HG2:Hid (G=(.ok x t st,b+(i-b))):=qb HG9.out.symm;(go_wp2_with fail);refine(HCR.out _).mono ?_;rintro e w1 ⟨b1,vr,vl,rfl,t1,t2,fr1,fr2⟩;obtain⟨r1,c1,rfl,_⟩:=id t1;obtain⟨q1,d1,rfl,_⟩:=id t2
     try unfold verV
     have hq:w.heap.size<w1.heap.size:=(Q0.out.below b1).lt;obtain⟨V,hV,nP,nF,bV,sV⟩:=qm w1 #[.string (qd x.ep),.slice r1 x.rel.length c1,.int .u8 x.c,.string (qd x.n),.bool x.b,.string (qd x.m),.bool x.d,.string (qd x.k),.slice q1 x.loc.length d1,.string (qd t),.bool st] #[.int .i64 0,.int .i64 0] 59 25;have HV:=qb hV;clear hV;have Q2:=(Q0.out.below b1).below bV;obtain⟨x0,x1,x2,x3,x4,x5,x6,x7,x8,x9,x10,y0,y1,y2,y3,y4,y5,y6,y7,y8,y9,y10⟩:=qh Q2.ver;obtain⟨u0,u1,_,_⟩:=qv nF;obtain⟨s0,s1,s2,s3,s4,s5,s6,s7,s8,s9,s10,_⟩:=qh nP;obtain⟨W9,hW9,hRQ,hT9⟩:=Q2.put11 (.string (qd x.ep)) (.slice r1 x.rel.length c1) (.int .u8 x.c) (.string (qd x.n)) (.bool x.b) (.string (qd x.m)) (.bool x.d) (.string (qd x.k)) (.slice q1 x.loc.length d1) (.string (qd t)) (.bool st);have HW9:=qb hW9;have RQ:=qb hRQ;have TQ:=qb hT9;have T1:=qb (t1.below bV);have T2:=qb (t2.below bV);have F1:=qb (fr1.mono Q0.out.lt);have F2:=qb (fr2.mono Q0.out.lt);clear hRQ hT9 hW9 Q2 b1 nP nF bV HCR t1 t2 fr1 fr2;go_upto_region 7 with fail
     rw[HV.out];have hW9:=HW9.out.symm;(go_wp2_with fail);refine qcf _ _ w.heap.size _ _ _ _ _ _ _ _ _ _ _ _ _ ⟨_,_,_,rfl⟩ ⟨_,_,_,rfl⟩ rfl rfl rfl RQ.out.ver ?_;rw[HG2.out];exact⟨RQ.out.bel,_,_,by rw[Nat.add_sub_cancel' hbi];rfl,TQ.out _ _ T1.out F1.out,TQ.out _ _ T2.out F2.out,F1.out.mono (Nat.le_succ _),F2.out.mono (Nat.le_succ _)⟩
set_option maxHeartbeats 8000000
set_option maxRecDepth 100000
theorem qbcq (s:QY) (b:Nat) (R:Wd) (w:World) (hs:s.size≤256) (hb:b≤s.size)
  (hR:∀ W,Calls Tryz.prog 149 #[.string (s.extract b (b+wdN (s.data.toList.drop b)))] W (qdv R W)) (hp:∀ e p,R=.bad e p→p≤1000) :
  Calls Tryz.prog 116 #[.string s,.int .i64 (b:Int),.func (.func 149) #[] #[]] w (qwp (rwOf s.size b (wdN (s.data.toList.drop b)) R) w):=by
 have MF:=qb (fun W=>qhh s b W);have IS:=qb (fun c W=>qmp c 6 W);have HRR:=qb hR;have HP:=qb hp;have hn:=qlj (s.data.toList.drop b);rw[List.length_drop,qg]at hn;generalize hG:rwOf s.size b (wdN (s.data.toList.drop b)) R=G;have HG:=qb hG;clear hG hR hp;have Q0:=R1.start w;go_enter Tryz.func116,Tryz.ntmps116
 (go_wp2_with fail);generalize w.alloc _=W0 at *;have Q0:=qb Q0;have hlt:w.heap.size<W0.heap.size:=Q0.out.lt;go_loopw [9] (fun y wr=>∃ i:Nat,b≤i∧i≤s.size∧y=.int .i64 i∧b+wdN (s.data.toList.drop b)=i+wdN (s.data.toList.drop i)∧wr=W0) (fun y _=>s.size-(intOf y).toNat)
 case atStart=>exact⟨b,by omega,hb,rfl,rfl,rfl⟩
 case round=>
  obtain⟨i,hbi,hi,rfl,hc,rfl⟩:=hrel
  by_cases hin:i<s.size
  ·have hin':(i:Int)<(s.size:Int):=by omega
   by_cases h1:(s[i].toNat:Int)=44
   ·have hcmp:((s[i].toNat:Int) != 44)=false:=by rw[h1];rfl
    have hE:wdN (s.data.toList.drop b)=i-b:=by rw[qcj s i hin,wdN,if_pos (by simp only[Bool.or_eq_true,beq_iff_eq];left;apply UInt8.toNat_inj.1;show _=44;omega)]at hc;omega
    clear hc h1;have HE9:=qb hE;clear hE
    by_cases hz:i=b
    ·have HG2:Hid (G=(.bad (misL s.size b) 0,b)):=qb (by rw[←HG.out,HE9.out,hz,Nat.sub_self];rfl)
     have HML:Hid (misL s.size b≠0):=qb (by unfold misL;split<;>decide)
     generalize misL s.size b=ML at *;have hzz:((i:Int)==(b:Int))=true:=by simp;omega
     obtain⟨x0,x1,x2,x3,x4,x5,x6,x7,x8,x9,x10,y0,y1,y2,y3,y4,y5,y6,y7,y8,y9,y10⟩:=qh Q0.out.ver;obtain⟨W9,hW9,hRQ,hT9⟩:=Q0.out.put11 (.string ⟨#[]⟩) (.slice none 0 0) (.int .u8 0) (.string ⟨#[]⟩) (.bool false) (.string ⟨#[]⟩) (.bool false) (.string ⟨#[]⟩) (.slice none 0 0) (.string ⟨#[]⟩) (.bool false);have HW9:=qb hW9;have RQ:=qb hRQ;clear hRQ hT9 hW9 hz;(go_wp2_with fail);refine(MF.out _).mono ?_;rintro e w2 ⟨rfl,hw2⟩;rw[hw2];clear hw2 w2;(go_wp2_with fail);rw[←HW9.out];refine qcf _ _ w.heap.size _ _ _ _ _ _ _ _ _ _ _ _ _ ⟨_,_,_,rfl⟩ ⟨_,_,_,rfl⟩ rfl rfl rfl RQ.out.ver ?_;rw[HG2.out];exact⟨RQ.out.bel,HML.out,rfl⟩
    ·have hzz:((i:Int)==(b:Int))=false:=by simp;omega
     have hex:s.extract b (b+(i-b))=s.extract b i:=by rw[Nat.add_sub_cancel' hbi]
     have hR9:=HRR.out;rw[HE9.out,hex]at hR9;have hG9:=HG.out;rw[HE9.out]at hG9;unfold rwOf at hG9;rw[if_neg (by omega)]at hG9
     have HCR:=qb hR9;have HG9:=qb hG9;clear hR9 hG9 hex HRR;have hbi':(b:Int)≤(i:Int):=by omega
     have hi':(i:Int)≤(s.size:Int):=by omega
     cases R with
     | bad er p=>
      have hp1:=HP.out er p rfl;have HG2:Hid (G=(.bad er 0,b+p)):=qb HG9.out.symm;(go_wp2_with fail);refine(HCR.out _).mono ?_;rintro e w1 ⟨b1,hne,st,rfl⟩
      try unfold zerV
      have HNE:=qb hne;have n1:(er==0)=false:=by simpa using hne
      have hq:w.heap.size<w1.heap.size:=(Q0.out.below b1).lt;obtain⟨V,hV,nP,nF,bV,sV⟩:=qm w1 #[.string ⟨#[]⟩,.slice none 0 0,.int .u8 0,.string ⟨#[]⟩,.bool false,.string ⟨#[]⟩,.bool false,.string ⟨#[]⟩,.slice none 0 0,.string ⟨#[]⟩,.bool st] #[.int .i64 er,.int .i64 (p:Int)] 59 25;have HV:=qb hV;clear hV;have Q2:=(Q0.out.below b1).below bV;obtain⟨x0,x1,x2,x3,x4,x5,x6,x7,x8,x9,x10,y0,y1,y2,y3,y4,y5,y6,y7,y8,y9,y10⟩:=qh Q2.ver;obtain⟨u0,u1,_,_⟩:=qv nF;obtain⟨W9,hW9,hRQ,hT9⟩:=Q2.put11 (.string ⟨#[]⟩) (.slice none 0 0) (.int .u8 0) (.string ⟨#[]⟩) (.bool false) (.string ⟨#[]⟩) (.bool false) (.string ⟨#[]⟩) (.slice none 0 0) (.string ⟨#[]⟩) (.bool false);have HW9:=qb hW9;have RQ:=qb hRQ;clear hRQ hT9 hW9 Q2 b1 hne nP nF bV HCR;go_upto_region 7 with fail
      rw[HV.out];(go_wp2_with fail);go_region
      all_goals
       (go_wp2_with fail);rw[←HW9.out];refine qcf _ _ w.heap.size _ _ _ _ _ _ _ _ _ _ _ _ _ ⟨_,_,_,rfl⟩ ⟨_,_,_,rfl⟩ rfl rfl rfl RQ.out.ver ?_;rw[HG2.out];exact⟨RQ.out.bel.drew,HNE.out,rfl⟩
     | ok x t st=>
      have HG2:Hid (G=(.ok x t st,b+(i-b))):=qb HG9.out.symm;(go_wp2_with fail);refine(HCR.out _).mono ?_;rintro e w1 ⟨b1,vr,vl,rfl,t1,t2,fr1,fr2⟩;obtain⟨r1,c1,rfl,_⟩:=id t1;obtain⟨q1,d1,rfl,_⟩:=id t2
      try unfold verV
      have hq:w.heap.size<w1.heap.size:=(Q0.out.below b1).lt;obtain⟨V,hV,nP,nF,bV,sV⟩:=qm w1 #[.string (qd x.ep),.slice r1 x.rel.length c1,.int .u8 x.c,.string (qd x.n),.bool x.b,.string (qd x.m),.bool x.d,.string (qd x.k),.slice q1 x.loc.length d1,.string (qd t),.bool st] #[.int .i64 0,.int .i64 0] 59 25;have HV:=qb hV;clear hV;have Q2:=(Q0.out.below b1).below bV;obtain⟨x0,x1,x2,x3,x4,x5,x6,x7,x8,x9,x10,y0,y1,y2,y3,y4,y5,y6,y7,y8,y9,y10⟩:=qh Q2.ver;obtain⟨u0,u1,_,_⟩:=qv nF;obtain⟨s0,s1,s2,s3,s4,s5,s6,s7,s8,s9,s10,_⟩:=qh nP;obtain⟨W9,hW9,hRQ,hT9⟩:=Q2.put11 (.string (qd x.ep)) (.slice r1 x.rel.length c1) (.int .u8 x.c) (.string (qd x.n)) (.bool x.b) (.string (qd x.m)) (.bool x.d) (.string (qd x.k)) (.slice q1 x.loc.length d1) (.string (qd t)) (.bool st);have HW9:=qb hW9;have RQ:=qb hRQ;have TQ:=qb hT9;have T1:=qb (t1.below bV);have T2:=qb (t2.below bV);have F1:=qb (fr1.mono Q0.out.lt);have F2:=qb (fr2.mono Q0.out.lt);clear hRQ hT9 hW9 Q2 b1 nP nF bV HCR t1 t2 fr1 fr2;go_upto_region 7 with fail
      rw[HV.out];have hW9:=HW9.out.symm;(go_wp2_with fail);refine qcf _ _ w.heap.size _ _ _ _ _ _ _ _ _ _ _ _ _ ⟨_,_,_,rfl⟩ ⟨_,_,_,rfl⟩ rfl rfl rfl RQ.out.ver ?_;rw[HG2.out];exact⟨RQ.out.bel,_,_,by rw[Nat.add_sub_cancel' hbi];rfl,TQ.out _ _ T1.out F1.out,TQ.out _ _ T2.out F2.out,F1.out.mono (Nat.le_succ _),F2.out.mono (Nat.le_succ _)⟩
   ·have hcmp:((s[i].toNat:Int) != 44)=true:=by simp only[bne_iff_ne,ne_eq];exact h1
    have h44:(s[i]==44)=false:=by rw[beq_eq_false_iff_ne];intro e;exact h1 (by rw[e];rfl)
    cases h2:isC (s[i].toNat:Int) 6
    ·have HC:=qb (hc.trans (by rw[qcj s i hin,wdN,if_neg (by rw[h44,h2];simp)]))
     have I6:=IS.out (s[i].toNat:Int);rw[h2]at I6;have I6:=qb I6;clear hc h1 h2 h44;go_wp2_with (go_at_call 86;refine(I6.out _).mono ?_;rintro e w9 ⟨rfl,rfl⟩)
     go_roundw
     case rel=>exact⟨i+1,by omega,by omega,by go_num,by have:=HC.out;omega,by trivial⟩
     case measure=>simp[intOf];omega
    ·have hE:wdN (s.data.toList.drop b)=i-b:=by rw[qcj s i hin,wdN,if_pos (by rw[h2];simp)]at hc;omega
     have I6:=IS.out (s[i].toNat:Int);rw[h2]at I6;have I6:=qb I6;clear hc h1 h2 h44;have HE9:=qb hE;clear hE
     by_cases hz:i=b
     ·have HG2:Hid (G=(.bad (misL s.size b) 0,b)):=qb (by rw[←HG.out,HE9.out,hz,Nat.sub_self];rfl)
      have HML:Hid (misL s.size b≠0):=qb (by unfold misL;split<;>decide)
      generalize misL s.size b=ML at *;have hzz:((i:Int)==(b:Int))=true:=by simp;omega
      obtain⟨x0,x1,x2,x3,x4,x5,x6,x7,x8,x9,x10,y0,y1,y2,y3,y4,y5,y6,y7,y8,y9,y10⟩:=qh Q0.out.ver;obtain⟨W9,hW9,hRQ,hT9⟩:=Q0.out.put11 (.string ⟨#[]⟩) (.slice none 0 0) (.int .u8 0) (.string ⟨#[]⟩) (.bool false) (.string ⟨#[]⟩) (.bool false) (.string ⟨#[]⟩) (.slice none 0 0) (.string ⟨#[]⟩) (.bool false);have HW9:=qb hW9;have RQ:=qb hRQ;clear hRQ hT9 hW9 hz;go_wp2_with (go_at_call 86;refine(I6.out _).mono ?_;rintro e w9 ⟨rfl,rfl⟩)
      refine(MF.out _).mono ?_;rintro e w2 ⟨rfl,hw2⟩;rw[hw2];clear hw2 w2;(go_wp2_with fail);rw[←HW9.out];refine qcf _ _ w.heap.size _ _ _ _ _ _ _ _ _ _ _ _ _ ⟨_,_,_,rfl⟩ ⟨_,_,_,rfl⟩ rfl rfl rfl RQ.out.ver ?_;rw[HG2.out];exact⟨RQ.out.bel,HML.out,rfl⟩
     ·have hzz:((i:Int)==(b:Int))=false:=by simp;omega
      have hex:s.extract b (b+(i-b))=s.extract b i:=by rw[Nat.add_sub_cancel' hbi]
      have hR9:=HRR.out;rw[HE9.out,hex]at hR9;have hG9:=HG.out;rw[HE9.out]at hG9;unfold rwOf at hG9;rw[if_neg (by omega)]at hG9
      have HCR:=qb hR9;have HG9:=qb hG9;clear hR9 hG9 hex HRR;have hbi':(b:Int)≤(i:Int):=by omega
      have hi':(i:Int)≤(s.size:Int):=by omega
      cases R with
      | bad er p=>
       have hp1:=HP.out er p rfl;have HG2:Hid (G=(.bad er 0,b+p)):=qb HG9.out.symm;go_wp2_with (go_at_call 86;refine(I6.out _).mono ?_;rintro e w9 ⟨rfl,rfl⟩)
       refine(HCR.out _).mono ?_;rintro e w1 ⟨b1,hne,st,rfl⟩
       try unfold zerV
       have HNE:=qb hne;have n1:(er==0)=false:=by simpa using hne
       have hq:w.heap.size<w1.heap.size:=(Q0.out.below b1).lt;obtain⟨V,hV,nP,nF,bV,sV⟩:=qm w1 #[.string ⟨#[]⟩,.slice none 0 0,.int .u8 0,.string ⟨#[]⟩,.bool false,.string ⟨#[]⟩,.bool false,.string ⟨#[]⟩,.slice none 0 0,.string ⟨#[]⟩,.bool st] #[.int .i64 er,.int .i64 (p:Int)] 59 25;have HV:=qb hV;clear hV;have Q2:=(Q0.out.below b1).below bV;obtain⟨x0,x1,x2,x3,x4,x5,x6,x7,x8,x9,x10,y0,y1,y2,y3,y4,y5,y6,y7,y8,y9,y10⟩:=qh Q2.ver;obtain⟨u0,u1,_,_⟩:=qv nF;obtain⟨W9,hW9,hRQ,hT9⟩:=Q2.put11 (.string ⟨#[]⟩) (.slice none 0 0) (.int .u8 0) (.string ⟨#[]⟩) (.bool false) (.string ⟨#[]⟩) (.bool false) (.string ⟨#[]⟩) (.slice none 0 0) (.string ⟨#[]⟩) (.bool false);have HW9:=qb hW9;have RQ:=qb hRQ;clear hRQ hT9 hW9 Q2 b1 hne nP nF bV HCR;go_upto_region 7 with fail
       rw[HV.out];(go_wp2_with fail);go_region
       all_goals
        (go_wp2_with fail);rw[←HW9.out];refine qcf _ _ w.heap.size _ _ _ _ _ _ _ _ _ _ _ _ _ ⟨_,_,_,rfl⟩ ⟨_,_,_,rfl⟩ rfl rfl rfl RQ.out.ver ?_;rw[HG2.out];exact⟨RQ.out.bel.drew,HNE.out,rfl⟩
      | ok x t st=>
       have HG2:Hid (G=(.ok x t st,b+(i-b))):=qb HG9.out.symm;go_wp2_with (go_at_call 86;refine(I6.out _).mono ?_;rintro e w9 ⟨rfl,rfl⟩)
       refine(HCR.out _).mono ?_;rintro e w1 ⟨b1,vr,vl,rfl,t1,t2,fr1,fr2⟩;obtain⟨r1,c1,rfl,_⟩:=id t1;obtain⟨q1,d1,rfl,_⟩:=id t2
       try unfold verV
       have hq:w.heap.size<w1.heap.size:=(Q0.out.below b1).lt;obtain⟨V,hV,nP,nF,bV,sV⟩:=qm w1 #[.string (qd x.ep),.slice r1 x.rel.length c1,.int .u8 x.c,.string (qd x.n),.bool x.b,.string (qd x.m),.bool x.d,.string (qd x.k),.slice q1 x.loc.length d1,.string (qd t),.bool st] #[.int .i64 0,.int .i64 0] 59 25;have HV:=qb hV;clear hV;have Q2:=(Q0.out.below b1).below bV;obtain⟨x0,x1,x2,x3,x4,x5,x6,x7,x8,x9,x10,y0,y1,y2,y3,y4,y5,y6,y7,y8,y9,y10⟩:=qh Q2.ver;obtain⟨u0,u1,_,_⟩:=qv nF;obtain⟨s0,s1,s2,s3,s4,s5,s6,s7,s8,s9,s10,_⟩:=qh nP;obtain⟨W9,hW9,hRQ,hT9⟩:=Q2.put11 (.string (qd x.ep)) (.slice r1 x.rel.length c1) (.int .u8 x.c) (.string (qd x.n)) (.bool x.b) (.string (qd x.m)) (.bool x.d) (.string (qd x.k)) (.slice q1 x.loc.length d1) (.string (qd t)) (.bool st);have HW9:=qb hW9;have RQ:=qb hRQ;have TQ:=qb hT9;have T1:=qb (t1.below bV);have T2:=qb (t2.below bV);have F1:=qb (fr1.mono Q0.out.lt);have F2:=qb (fr2.mono Q0.out.lt);clear hRQ hT9 hW9 Q2 b1 nP nF bV HCR t1 t2 fr1 fr2;go_upto_region 7 with fail
       rw[HV.out];have hW9:=HW9.out.symm;(go_wp2_with fail);refine qcf _ _ w.heap.size _ _ _ _ _ _ _ _ _ _ _ _ _ ⟨_,_,_,rfl⟩ ⟨_,_,_,rfl⟩ rfl rfl rfl RQ.out.ver ?_;rw[HG2.out];exact⟨RQ.out.bel,_,_,by rw[Nat.add_sub_cancel' hbi];rfl,TQ.out _ _ T1.out F1.out,TQ.out _ _ T2.out F2.out,F1.out.mono (Nat.le_succ _),F2.out.mono (Nat.le_succ _)⟩
  ·have hin':¬ (i:Int)<(s.size:Int):=by omega
   have hE:wdN (s.data.toList.drop b)=i-b:=by rw[qdx s i (by omega),wdN]at hc;omega
   clear hc;have HE9:=qb hE;clear hE
   by_cases hz:i=b
   ·have HG2:Hid (G=(.bad (misL s.size b) 0,b)):=qb (by rw[←HG.out,HE9.out,hz,Nat.sub_self];rfl)
    have HML:Hid (misL s.size b≠0):=qb (by unfold misL;split<;>decide)
    generalize misL s.size b=ML at *;have hzz:((i:Int)==(b:Int))=true:=by simp;omega
    obtain⟨x0,x1,x2,x3,x4,x5,x6,x7,x8,x9,x10,y0,y1,y2,y3,y4,y5,y6,y7,y8,y9,y10⟩:=qh Q0.out.ver;obtain⟨W9,hW9,hRQ,hT9⟩:=Q0.out.put11 (.string ⟨#[]⟩) (.slice none 0 0) (.int .u8 0) (.string ⟨#[]⟩) (.bool false) (.string ⟨#[]⟩) (.bool false) (.string ⟨#[]⟩) (.slice none 0 0) (.string ⟨#[]⟩) (.bool false);have HW9:=qb hW9;have RQ:=qb hRQ;clear hRQ hT9 hW9 hz;(go_wp2_with fail);refine(MF.out _).mono ?_;rintro e w2 ⟨rfl,hw2⟩;rw[hw2];clear hw2 w2;(go_wp2_with fail);rw[←HW9.out];refine qcf _ _ w.heap.size _ _ _ _ _ _ _ _ _ _ _ _ _ ⟨_,_,_,rfl⟩ ⟨_,_,_,rfl⟩ rfl rfl rfl RQ.out.ver ?_;rw[HG2.out];exact⟨RQ.out.bel,HML.out,rfl⟩
   ·have hzz:((i:Int)==(b:Int))=false:=by simp;omega
    have hex:s.extract b (b+(i-b))=s.extract b i:=by rw[Nat.add_sub_cancel' hbi]
    have hR9:=HRR.out;rw[HE9.out,hex]at hR9;have hG9:=HG.out;rw[HE9.out]at hG9;unfold rwOf at hG9;rw[if_neg (by omega)]at hG9
    have HCR:=qb hR9;have HG9:=qb hG9;clear hR9 hG9 hex HRR;have hbi':(b:Int)≤(i:Int):=by omega
    have hi':(i:Int)≤(s.size:Int):=by omega
    cases R with
    | bad er p=>
     have hp1:=HP.out er p rfl;have HG2:Hid (G=(.bad er 0,b+p)):=qb HG9.out.symm;(go_wp2_with fail);refine(HCR.out _).mono ?_;rintro e w1 ⟨b1,hne,st,rfl⟩
     try unfold zerV
     have HNE:=qb hne;have n1:(er==0)=false:=by simpa using hne
     have hq:w.heap.size<w1.heap.size:=(Q0.out.below b1).lt;obtain⟨V,hV,nP,nF,bV,sV⟩:=qm w1 #[.string ⟨#[]⟩,.slice none 0 0,.int .u8 0,.string ⟨#[]⟩,.bool false,.string ⟨#[]⟩,.bool false,.string ⟨#[]⟩,.slice none 0 0,.string ⟨#[]⟩,.bool st] #[.int .i64 er,.int .i64 (p:Int)] 59 25;have HV:=qb hV;clear hV;have Q2:=(Q0.out.below b1).below bV;obtain⟨x0,x1,x2,x3,x4,x5,x6,x7,x8,x9,x10,y0,y1,y2,y3,y4,y5,y6,y7,y8,y9,y10⟩:=qh Q2.ver;obtain⟨u0,u1,_,_⟩:=qv nF;obtain⟨W9,hW9,hRQ,hT9⟩:=Q2.put11 (.string ⟨#[]⟩) (.slice none 0 0) (.int .u8 0) (.string ⟨#[]⟩) (.bool false) (.string ⟨#[]⟩) (.bool false) (.string ⟨#[]⟩) (.slice none 0 0) (.string ⟨#[]⟩) (.bool false);have HW9:=qb hW9;have RQ:=qb hRQ;clear hRQ hT9 hW9 Q2 b1 hne nP nF bV HCR;go_upto_region 7 with fail
     rw[HV.out];(go_wp2_with fail);go_region
     all_goals
      (go_wp2_with fail);rw[←HW9.out];refine qcf _ _ w.heap.size _ _ _ _ _ _ _ _ _ _ _ _ _ ⟨_,_,_,rfl⟩ ⟨_,_,_,rfl⟩ rfl rfl rfl RQ.out.ver ?_;rw[HG2.out];exact⟨RQ.out.bel.drew,HNE.out,rfl⟩
    | ok x t st=>
     have HG2:Hid (G=(.ok x t st,b+(i-b))):=qb HG9.out.symm;(go_wp2_with fail);refine(HCR.out _).mono ?_;rintro e w1 ⟨b1,vr,vl,rfl,t1,t2,fr1,fr2⟩;obtain⟨r1,c1,rfl,_⟩:=id t1;obtain⟨q1,d1,rfl,_⟩:=id t2
     try unfold verV
     have hq:w.heap.size<w1.heap.size:=(Q0.out.below b1).lt;obtain⟨V,hV,nP,nF,bV,sV⟩:=qm w1 #[.string (qd x.ep),.slice r1 x.rel.length c1,.int .u8 x.c,.string (qd x.n),.bool x.b,.string (qd x.m),.bool x.d,.string (qd x.k),.slice q1 x.loc.length d1,.string (qd t),.bool st] #[.int .i64 0,.int .i64 0] 59 25;have HV:=qb hV;clear hV;have Q2:=(Q0.out.below b1).below bV;obtain⟨x0,x1,x2,x3,x4,x5,x6,x7,x8,x9,x10,y0,y1,y2,y3,y4,y5,y6,y7,y8,y9,y10⟩:=qh Q2.ver;obtain⟨u0,u1,_,_⟩:=qv nF;obtain⟨s0,s1,s2,s3,s4,s5,s6,s7,s8,s9,s10,_⟩:=qh nP;obtain⟨W9,hW9,hRQ,hT9⟩:=Q2.put11 (.string (qd x.ep)) (.slice r1 x.rel.length c1) (.int .u8 x.c) (.string (qd x.n)) (.bool x.b) (.string (qd x.m)) (.bool x.d) (.string (qd x.k)) (.slice q1 x.loc.length d1) (.string (qd t)) (.bool st);have HW9:=qb hW9;have RQ:=qb hRQ;have TQ:=qb hT9;have T1:=qb (t1.below bV);have T2:=qb (t2.below bV);have F1:=qb (fr1.mono Q0.out.lt);have F2:=qb (fr2.mono Q0.out.lt);clear hRQ hT9 hW9 Q2 b1 nP nF bV HCR t1 t2 fr1 fr2;go_upto_region 7 with fail
     rw[HV.out];have hW9:=HW9.out.symm;(go_wp2_with fail);refine qcf _ _ w.heap.size _ _ _ _ _ _ _ _ _ _ _ _ _ ⟨_,_,_,rfl⟩ ⟨_,_,_,rfl⟩ rfl rfl rfl RQ.out.ver ?_;rw[HG2.out];exact⟨RQ.out.bel,_,_,by rw[Nat.add_sub_cancel' hbi];rfl,TQ.out _ _ T1.out F1.out,TQ.out _ _ T2.out F2.out,F1.out.mono (Nat.le_succ _),F2.out.mono (Nat.le_succ _)⟩
end Go.Proofs.YtabmfdedbpmfmaaGreat
