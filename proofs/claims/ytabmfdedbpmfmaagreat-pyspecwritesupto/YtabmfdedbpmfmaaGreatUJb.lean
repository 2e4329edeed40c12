/- Walks: what is written of clauses. -/
import Derived.Test.YtabmfdedbpmfmaaGreatUXb
import Derived.Test.YtabmfdedbpmfmaaGreatUHd
import Derived.Test.YtabmfdedbpmfmaaGreatUZc
import Derived.Deep.Cut
import Derived.Great.BuildSlice
import Derived.Test.YtabmfdedbpmfmaaGreatUGlb
import Derived.Test.YtabmfdedbpmfmaaGreatUQc
namespace Go.Proofs.YtabmfdedbpmfmaaGreat
open Go.RowKit Go.Shelf
open Below renaming refl → qbsv
open Nat renaming le_refl → qbst, le_trans → qbtc
open World renaming alloc_heap_new → qbsr
set_option linter.unusedVariables false
set_option maxHeartbeats 8000000
set_option maxRecDepth 100000
theorem qzk (k:Int):∀ l:QB,qp k (l.drop (qp k l))=0
 | []=>rfl
 | c::r=>by
  have e:qp k (c::r)=if isC (c.toNat:Int) k then qp k r+1 else 0:=rfl;rw[e];cases h:isC (c.toNat:Int) k
  ·rw[if_neg (by simp),List.drop_zero,e,h]
   rfl
  ·rw[if_pos rfl,List.drop_succ_cons];exact qzk k r
theorem skL_idem (l:QB) (a:Nat):skL l (skL l a)=skL l a:=by
 unfold skL;rw[←List.drop_drop,qzk]
 rfl
def qkx (l:QB) (m:Nat) (acc:List Cl) (q:Nat) (X:Cl):Int×Nat×List Cl:=
 if acc.length=32∧q<l.length then (12,q,[]) else if X.er≠0 then (X.er,X.e,[]) else if X.e<l.length then pyGo l m (X.e+1) (acc++[X]) else (0,0,acc++[X])
theorem qzr (l:QB) (m a:Nat) (acc:List Cl):pyGo l (m+1) a acc=qkx l m acc (skL l a) (clP l (skL l a)):=rfl
theorem qbpl (l:QB) (m a:Nat) (acc:List Cl):pyGo l (m+1) (skL l a) acc=pyGo l (m+1) a acc:=by rw[qzr,qzr,skL_idem]
theorem qbqn {l:QB} {m q:Nat} {acc:List Cl} {X:Cl} (h1:acc.length=32) (h2:q<l.length):qkx l m acc q X=(12,q,[]):=if_pos ⟨h1,h2⟩
theorem qgh {l:QB} {m q:Nat} {acc:List Cl} {X:Cl} (h:¬(acc.length=32∧q<l.length)) (he:X.er≠0):qkx l m acc q X=(X.er,X.e,[]):=by unfold qkx;rw[if_neg h,if_pos he]
theorem qbnp {l:QB} {m q:Nat} {acc:List Cl} {X:Cl} (h:¬(acc.length=32∧q<l.length)) (he:X.er=0) (hl:X.e<l.length):qkx l m acc q X=pyGo l m (X.e+1) (acc++[X]):=by unfold qkx;rw[if_neg h,if_neg (fun k=>k he),if_pos hl]
theorem qvj {l:QB} {m q:Nat} {acc:List Cl} {X:Cl} (h:¬(acc.length=32∧q<l.length)) (he:X.er=0) (hl:¬ X.e<l.length):qkx l m acc q X=(0,0,acc++[X]):=by unfold qkx;rw[if_neg h,if_neg (fun k=>k he),if_neg hl]
theorem qbhx (s:QY) (i:Nat) (h:i<s.size) (hc:s[i].toNat=44∨isC (s[i].toNat:Int) 6=true):wdN (s.data.toList.drop i)=0:=by
 rw[qch s i h,wdN,if_pos];simp only[Bool.or_eq_true,beq_iff_eq];rcases hc with hc|hc
 ·exact .inl (UInt8.toNat_inj.1 hc)
 ·exact .inr hc
theorem wdN_next (s:QY) (i:Nat) (h:i<s.size) (h1:s[i].toNat≠44) (h2:isC (s[i].toNat:Int) 6=false):wdN (s.data.toList.drop i)=wdN (s.data.toList.drop (i+1))+1:=by
 rw[qch s i h,wdN,if_neg];simp only[Bool.or_eq_true,beq_iff_eq,not_or];exact⟨fun e=>h1 (by rw[e];rfl),by rw[h2];simp⟩
theorem qhd {R:Ending→World→Prop} (tmps:Array Value) (W:World) (v2 v3 v4:Value) (h2:tmps.getD 2 undef=v2) (h3:tmps.getD 3 undef=v3) (h4:tmps.getD 4 undef=v4) (hR:R (.returned (.tuple #[v2,v3,v4])) W):bodyPost Tryz.prog Tryz.f31 R .ret { tmps:=tmps,defers:=[] } W:=by
 rw[Array.getD_eq_getD_getElem?]at h2 h3 h4;refine⟨rfl,_,?_,hR⟩;simp[results,Tryz.results31,go_sem,h2,h3,h4]
 try rfl
theorem qpw (l:QB):skL l 0=qp 6 l:=by unfold skL;simp
theorem qwv (s:QY) (w:World) (hs:256<s.size):Calls Tryz.prog 31 #[.string s] w (qrh (pyL s.data.toList) w):=by
 have hP:pyL s.data.toList=(12,256,[]):=by unfold pyL;rw[if_pos (by rw[qg];omega)]
 rw[hP];have hs':(256:Int)<(s.size:Int):=by omega
 go_enter Tryz.func31,Tryz.ntmps31
 (go_wp2_with fail);refine qhd _ _ _ _ _ rfl rfl rfl ?_;exact⟨qbsv _ _,_,rfl,PyAt.nil _,qcn _⟩
theorem qbbk (s:QY) (w:World) (hs:s.size≤256) (h0:qp 6 s.data.toList=s.size):Calls Tryz.prog 31 #[.string s] w (qrh (pyL s.data.toList) w):=by
 have hs':¬ (256:Int)<(s.size:Int):=by omega
 have S00:=fun W=>qrr s 0 W hs (Nat.zero_le _);rw[qpw,h0]at S00;have S00:=qb S00;have hP:pyL s.data.toList=(0,0,[]):=by unfold pyL;rw[if_neg (by rw[qg];omega),if_pos (by rw[qg];exact h0)]
 rw[hP];go_enter Tryz.func31,Tryz.ntmps31
 (go_wp2_with fail);refine(S00.out _).mono ?_;rintro e w0 ⟨rfl,hw0⟩;rw[hw0];clear hw0 w0;(go_wp2_with fail);refine qhd _ _ _ _ _ rfl rfl rfl ?_;exact⟨qbsv _ _,_,rfl,PyAt.nil _,qcn _⟩
theorem qbdq (s:QY) (w:World) (hs:s.size≤256) (h0:qp 6 s.data.toList≠s.size):Calls Tryz.prog 31 #[.string s] w (qrh (pyL s.data.toList) w):=by
 have hs':¬ (256:Int)<(s.size:Int):=by omega
 have S00:=fun W=>qrr s 0 W hs (Nat.zero_le _);rw[qpw]at S00;replace S00:=qb S00;have SK:=qb (fun (c:Nat) (hc:c≤s.size) (W:World)=>qrr s c W hs hc);have OPC:=qb (fun (c:Nat) (hc:c≤s.size) (W:World)=>Rop_any s c W hs hc);have BL:=qb (fun c W=>qwf c W);have h00:(((qp 6 s.data.toList:Nat):Int)==(s.size:Int))=false:=by simp;omega
 have hr0:qp 6 s.data.toList≤s.size:=by have:=qhs s.data.toList 0 (Nat.zero_le _);rw[qpw,qg]at this;exact this.2
 have HM:Hid (∀ i,misL s.data.toList.length i≠0):=qb fun i=>by unfold misL;split<;>decide
 have hG:pyL s.data.toList=pyGo s.data.toList 33 (qp 6 s.data.toList) []:=by
  rw[←qpw,qbpl];unfold pyL;rw[if_neg (by rw[qg];omega),if_neg (by rw[qg];exact h0)]
 generalize pyL s.data.toList=G at *;have HG:=qb hG;clear hG;obtain⟨i0,hi0,hz0,hz1,hz2⟩:=info_parts info32;generalize qp 6 s.data.toList=r0 at *;go_enter Tryz.func31,Tryz.ntmps31
 (go_wp2_with fail);refine(S00.out _).mono ?_;rintro e w0 ⟨rfl,hw0⟩;rw[hw0];clear hw0 w0;(go_wp2_with fail);go_loopw [5,6] (fun x y wr=>∃ (n c:Nat) (acc:List Cl),n+acc.length=33∧acc.length≤32∧c≤s.size∧y=.int .i64 c∧Hid (G=pyGo s.data.toList n c acc)∧Hid (wr.ownsRow w.heap.size 32 3 x acc.length (acc.flatMap plL))∧Below w.heap.size w wr) (fun _ y _=>s.size+1-(intOf y).toNat)
 case atStart=>exact⟨33,r0,[],rfl,by simp,hr0,rfl,HG,qb (World.ownsRow_nil _ _ _ _),qbsv _ _⟩
 case round =>
  obtain⟨n,c,acc,hn,hacc,hc,rfl,HC0,HOW,hbl⟩:=hrel;obtain⟨m,rfl⟩:∃ m,n=m+1:=⟨n-1,by omega⟩
  have hq:=qhs s.data.toList c (by rw[qg];exact hc)
  rw[qg]at hq;have S1:=qb (SK.out c hc);have O1:=OPC.out (skL s.data.toList c) hq.2;obtain⟨hd1,hd2⟩:=dop_op (s.data.toList.drop (skL s.data.toList c));rw[hd1]at O1 hd2;have hC1:G=qkx s.data.toList m acc (skL s.data.toList c) (clP s.data.toList (skL s.data.toList c)):=HC0.out;have hol:=qhv (s.data.toList.drop (skL s.data.toList c)) 8 (by omega)
  rw[List.length_drop,qg]at hol;generalize skL s.data.toList c=q at *;obtain⟨ao,co,rfl,_⟩:=qct HOW.out;clear HC0 S00
  by_cases hmany:acc.length=32∧q<s.size
  ·obtain⟨h32,hql⟩:=hmany;have hlt:(q:Int)<(s.size:Int):=by omega
   have h32':((acc.length:Int)==32)=true:=by rw[h32];rfl
   have HX:=qb (hC1.trans (qbqn h32 (by rw[qg];exact hql)))
   clear hC1 O1 hd1 hd2 hol;(go_wp2_with fail);refine(S1.out _).mono ?_;rintro e w0 ⟨rfl,hw0⟩;rw[hw0];clear hw0 w0;(go_wp2_with fail);refine qhd _ _ _ _ _ rfl rfl rfl ?_;rw[HX.out];exact⟨hbl,_,rfl,PyAt.nil _,qcn _⟩
  ·have HA : Hid (¬(acc.length=32∧q<s.data.toList.length)):=qb (by rw[qg];exact hmany)
   by_cases hql:q<s.size
   ·have hlt : (q:Int)<(s.size:Int):=by omega
    have h32':((acc.length:Int)==32)=false:=by simp;omega
    have hl3:acc.length<32:=by omega
    by_cases h8:(opGo (s.data.toList.drop q) 8).1=8
    ·rw[if_pos h8,if_pos h8]at O1;have hX:=hC1.trans (by rw[qbgh h8,qgh HA.out (HM.out _)])
     rw[hd2 h8,qg]at hX;have hdl:=dhalf_le (s.data.toList.drop q);rw[List.length_drop,qg]at hdl;rw[h8]at O1;have HN:Hid (misL s.size (q+qgt (s.data.toList.drop q))≠0):=by have:=HM.out (q+qgt (s.data.toList.drop q));rw[qg]at this;exact this
     generalize qgt (s.data.toList.drop q)=D at *;generalize misL s.size (q+D)=ML at *;obtain⟨N,hN⟩:∃ N,q+D=N:=⟨_,rfl⟩;rw[hN]at O1 hX;have HX:=qb hX;have n1:(ML==0)=false:=by have:=HN.out;simpa using this
     replace O1:=qb O1;clear hC1 hX hd1 hd2 h8 hol hN;(go_wp2_with fail);refine(S1.out _).mono ?_;rintro e w0 ⟨rfl,hw0⟩;rw[hw0];clear hw0 w0;(go_wp2_with fail);refine(O1.out _).mono ?_;rintro e w1 ⟨rfl,b1⟩;(go_wp2_with fail);refine qhd _ _ _ _ _ rfl rfl rfl ?_;rw[HX.out];exact⟨hbl.trans (b1.mono hbl.size),_,rfl,PyAt.nil _,qcn _⟩
    ·rw [if_neg h8,if_neg h8]at O1;replace h8:(opGo (s.data.toList.drop q) 8).1<8:=by omega
     generalize hk:(opGo (s.data.toList.drop q) 8).1=k at *;have HK:=qb hk;have hps:q+(sgn k).length≤s.size:=by omega
     have S2:=qb (SK.out (q+(sgn k).length) hps);have hbq:=qhs s.data.toList (q+(sgn k).length) (by rw[qg];exact hps)
     rw[qg]at hbq;generalize hb:skL s.data.toList (q+(sgn k).length)=b at *;have HB:=qb hb;have HC:=qb hC1;obtain⟨hb1,hb2⟩:=hbq;have hq1:=hq.1;replace O1:=qb O1;clear hC1 hd1 hd2 hol hk hb hq hmany;(go_wp2_with fail);refine(S1.out _).mono ?_;rintro e w0 ⟨rfl,hw0⟩;rw[hw0];clear hw0 w0;(go_wp2_with fail);refine(O1.out _).mono ?_;rintro e w1 ⟨rfl,bO⟩;replace hbl:=hbl.trans (bO.mono hbl.size);replace HOW:Hid (w1.ownsRow w.heap.size 32 3 (.slice ao acc.length co) acc.length (acc.flatMap plL)):=qb (qdx (A:=fun _=>True) HOW.out (qbn bO) (fun _ _=>trivial));clear bO O1 S1;(go_wp2_with fail);refine(S2.out _).mono ?_;rintro e w0 ⟨rfl,hw0⟩;rw[hw0];clear hw0 w0 S2;(go_wp2_with fail);go_loopw [6] (fun y wr'=>∃ i:Nat,b≤i∧i≤s.size∧y=.int .i64 i∧b+wdN (s.data.toList.drop b)=i+wdN (s.data.toList.drop i)∧wr'=w1) (fun y _=>s.size-(intOf y).toNat)
     case atStart=>exact⟨b,qbst _,hb2,rfl,rfl,rfl⟩
     case round=>
      obtain⟨i,hbi,hi,rfl,hcc,rfl⟩:=hrel
      by_cases hin:i<s.size
      ·have hin':(i:Int)<(s.size:Int):=by omega
       have BLi:=qb (fun W=>BL.out (s[i].toNat:Int) W);cases h2:isC (s[i].toNat:Int) 6
       ·rw [h2]at BLi
        by_cases h1:s[i].toNat=44
        ·have HE:Hid (wdN (s.data.toList.drop b)=i-b):=qb (by rw[qbhx s i hin (.inl h1)]at hcc;omega)
         have hcmp:((s[i].toNat:Int) != 44)=false:=by rw[h1];rfl
         clear hcc h1 h2
         by_cases hz:i=b
         ·subst hz;have hE0:wdN (s.data.toList.drop i)=0:=by rw[HE.out];omega
          have HX:=qb (HC.out.trans (by rw[qtz h8 HK.out HB.out hE0,qgh HA.out (HM.out i)]))
          have hzz:((i:Int)==(i:Int))=true:=by simp
          clear hE0
          by_cases hl:i<s.size
          ·have hls:((i:Int)==(s.size:Int))=false:=by simp;omega
           have HM2:Hid (misL s.data.toList.length i=10):=qb (by unfold misL;rw[qg,if_neg (by omega)])
           (go_wp2_with fail);refine(BLi.out _).mono ?_;rintro e w0 ⟨rfl,hw0⟩;rw[hw0];clear hw0 w0;(go_wp2_with fail);refine qhd _ _ _ _ _ rfl rfl rfl ?_;rw[HX.out];exact⟨hbl,_,by dsimp only;rw[HM2.out];rfl,PyAt.nil _,qcn _⟩
          ·have hls:((i:Int)==(s.size:Int))=true:=by simp;omega
           have HM2:Hid (misL s.data.toList.length i=11):=qb (by unfold misL;rw[qg,if_pos (by omega)])
           (go_wp2_with fail);refine(BLi.out _).mono ?_;rintro e w0 ⟨rfl,hw0⟩;rw[hw0];clear hw0 w0;(go_wp2_with fail);refine qhd _ _ _ _ _ rfl rfl rfl ?_;rw[HX.out];exact⟨hbl,_,by dsimp only;rw[HM2.out];rfl,PyAt.nil _,qcn _⟩
         ·have hzz:((i:Int)==(b:Int))=false:=by simp;omega
          have hbi':(b:Int)≤(i:Int):=by omega
          have hi':(i:Int)≤(s.size:Int):=by omega
          have hE0:wdN (s.data.toList.drop b)≠0:=by rw[HE.out];omega
          have RW:=fun W=>qlx k h8 (s.extract b i) b W (by rw[ByteArray.size_extract];omega) (by omega)
          rw[qdf]at RW;have hbz:b+wdN (s.data.toList.drop b)=i:=by rw[HE.out];omega
          cases hw:wdR k (seg s.data.toList b i)with
          | bad er p=>
           rw[hw]at RW;have hne:=qbbx hw;have HX:=qb (HC.out.trans (by rw[qbcm h8 HK.out HB.out hE0 (by rw[hbz];exact hw),qgh HA.out hne]))
           have n1:(er==0)=false:=by simpa using hne
           unfold wdT zer3 at RW;have RW:=qb RW;clear hw hE0 hne;(go_wp2_with fail);refine(BLi.out _).mono ?_;rintro e w0 ⟨rfl,hw0⟩;rw[hw0];clear hw0 w0;(go_wp2_with fail);refine(RW.out _).mono ?_;rintro e w1 ⟨rfl,b1⟩;(go_wp2_with fail);refine qhd _ _ _ _ _ rfl rfl rfl ?_;rw[HX.out];exact⟨hbl.trans ((b1.mono hbl.size).alloc (qbtc hbl.size b1.size) _),_,rfl,PyAt.nil _,qcn _⟩
          | ok x t st=>
           rw[hw]at RW;have hX:=qth h8 HK.out HB.out hE0 (by rw[hbz];exact hw) rfl
           rw[hbz]at hX;rw[hX]at HC;unfold wdT at RW;dsimp only at RW;have RW:=qb RW;have S3:=qb (SK.out i (by omega))
           have hz3:=qhs s.data.toList i (by rw[qg];omega)
           rw[qg]at hz3;generalize skL s.data.toList i=z at *;clear hw hE0 hX;have hsz:s.data.toList.length=s.size:=qg s
           by_cases hze:z=s.size
           ·have hXe:(if z<s.data.toList.length∧s.data.toList[z]?≠some 44 then (10:Int) else 0)=0:=if_neg (by omega)
            rw[hXe]at HC;have hzb:((z:Int)==(s.size:Int))=true:=by simp;omega
            generalize hXX:(⟨k,x,t,st,q,z,0⟩:Cl)=X at *;have HXX:=qb hXX;clear hXX;have HG2:=qb (HC.out.trans (qvj HA.out (by rw[←HXX.out]) (by rw[←HXX.out];dsimp only;omega)))
            (go_wp2_with fail);refine(BLi.out _).mono ?_;rintro e w0 ⟨rfl,hw0⟩;rw[hw0];clear hw0 w0;(go_wp2_with fail);refine(RW.out _).mono ?_;rintro e w1 ⟨rfl,b1⟩;have n0:=qbsr w1 (.cells #[.string (qd (sgn k)),.string (qd t),.bool st] 32);have c0:=qc 0 n0 rfl;have c1:=qc 1 n0 rfl;have c2:=qc 2 n0 rfl;have hbA:Below w1.heap.size w1 ((w1.alloc (.cells #[.string (qd (sgn k)),.string (qd t),.bool st] 32)).alloc (.cells #[.string (qd (sgn k)),.string (qd t),.bool st] 32)):=((qbsv _ w1).alloc (qbst _) _).alloc (by simp) _
            have HBW:=qb ((hbl.trans (b1.mono hbl.size)).trans (hbA.mono (qbtc hbl.size b1.size)));have HUA:=qb (qdx (A:=fun _=>True) HOW.out ((qbn b1).trans (qbn hbA)) (fun _ _=>trivial));have HNW:Hid (∀ j u,(plL X)[j]? = some u→((w1.alloc (.cells #[.string (qd (sgn k)),.string (qd t),.bool st] 32)).alloc (.cells #[.string (qd (sgn k)),.string (qd t),.bool st] 32)).cell? ((⟨w1.heap.size+1,0,none⟩:Addr).add j)=some u):=qb (by rw[←HXX.out];intro j u h;have:=qhw (w1.alloc (.cells #[.string (qd (sgn k)),.string (qd t),.bool st] 32)) #[.string (qd (sgn k)),.string (qd t),.bool st] 32 j u h;simpa using this)
            clear n0 b1 hbA;go_wp2_with (at_builtin;refine wpList_append_own _ rfl _ _ 22 rfl w.heap.size 32 i0 (.agg #[.string ⟨#[]⟩,.string ⟨#[]⟩,.bool false]) 3 40 Tryz.underlying22 hi0 hz0 hz1 hz2 rfl (by decide) _ _ _ rfl HUA.out ⟨w1.heap.size+1,0,none⟩ 1 1 (plL X) rfl rfl HNW.out (qkc X) (by unfold maxLen;omega) (by omega) HBW.out.size ?_;intro v' w3 hown' hgrow _;have HB3:=qb (HBW.out.trans (qcj HUA.out HBW.out.size hgrow));have HO3:Hid (w3.ownsRow w.heap.size 32 3 v' (acc++[X]).length ((acc++[X]).flatMap plL)):=qb (by simpa[List.flatMap_append] using hown');obtain⟨av,cv,rfl⟩:∃ a c,v'=.slice a (acc.length+1) c:=(by obtain⟨a,c,h,_⟩:=qct hown';exact⟨a,c,h⟩);clear hown' hgrow)
            refine(S3.out _).mono ?_;rintro e w9 ⟨rfl,hw9⟩;rw[hw9];clear hw9 w9;(go_wp2_with fail);refine qhd _ _ _ _ _ rfl rfl rfl ?_;rw[HG2.out];exact⟨HB3.out,_,rfl,qzv HO3.out,qkl HO3.out⟩
           ·have hzl:z<s.size:=by omega
            have hzl':(z:Int)<(s.size:Int):=by omega
            have hzb:((z:Int)==(s.size:Int))=false:=by simp;omega
            have hzs:s.data.toList[z]? = some s[z]:=by rw[List.getElem?_eq_getElem (by rw[qg];exact hzl)];rfl
            by_cases h44:s[z].toNat=44
            ·have hXe:(if z<s.data.toList.length∧s.data.toList[z]?≠some 44 then (10:Int) else 0)=0:=if_neg (fun h=>h.2 (by rw[hzs,UInt8.toNat_inj.1 (show s[z].toNat=(44:UInt8).toNat from h44)]))
             rw[hXe]at HC;have hcm:((s[z].toNat:Int) != 44)=false:=by rw[h44];rfl
             generalize hXX:(⟨k,x,t,st,q,z,0⟩:Cl)=X at *;have HXX:=qb hXX;clear hXX;have HG2:=qb (HC.out.trans (qbnp HA.out (by rw[←HXX.out]) (by rw[←HXX.out];dsimp only;omega)))
             have HZ:Hid (X.e=z):=qb (by rw[←HXX.out])
             (go_wp2_with fail);refine(BLi.out _).mono ?_;rintro e w0 ⟨rfl,hw0⟩;rw[hw0];clear hw0 w0;(go_wp2_with fail);refine(RW.out _).mono ?_;rintro e w1 ⟨rfl,b1⟩;have n0:=qbsr w1 (.cells #[.string (qd (sgn k)),.string (qd t),.bool st] 32);have c0:=qc 0 n0 rfl;have c1:=qc 1 n0 rfl;have c2:=qc 2 n0 rfl;have hbA:Below w1.heap.size w1 ((w1.alloc (.cells #[.string (qd (sgn k)),.string (qd t),.bool st] 32)).alloc (.cells #[.string (qd (sgn k)),.string (qd t),.bool st] 32)):=((qbsv _ w1).alloc (qbst _) _).alloc (by simp) _
             have HBW:=qb ((hbl.trans (b1.mono hbl.size)).trans (hbA.mono (qbtc hbl.size b1.size)));have HUA:=qb (qdx (A:=fun _=>True) HOW.out ((qbn b1).trans (qbn hbA)) (fun _ _=>trivial));have HNW:Hid (∀ j u,(plL X)[j]? = some u→((w1.alloc (.cells #[.string (qd (sgn k)),.string (qd t),.bool st] 32)).alloc (.cells #[.string (qd (sgn k)),.string (qd t),.bool st] 32)).cell? ((⟨w1.heap.size+1,0,none⟩:Addr).add j)=some u):=qb (by rw[←HXX.out];intro j u h;have:=qhw (w1.alloc (.cells #[.string (qd (sgn k)),.string (qd t),.bool st] 32)) #[.string (qd (sgn k)),.string (qd t),.bool st] 32 j u h;simpa using this)
             clear n0 b1 hbA;go_wp2_with (at_builtin;refine wpList_append_own _ rfl _ _ 22 rfl w.heap.size 32 i0 (.agg #[.string ⟨#[]⟩,.string ⟨#[]⟩,.bool false]) 3 40 Tryz.underlying22 hi0 hz0 hz1 hz2 rfl (by decide) _ _ _ rfl HUA.out ⟨w1.heap.size+1,0,none⟩ 1 1 (plL X) rfl rfl HNW.out (qkc X) (by unfold maxLen;omega) (by omega) HBW.out.size ?_;intro v' w3 hown' hgrow _;have HB3:=qb (HBW.out.trans (qcj HUA.out HBW.out.size hgrow));have HO3:Hid (w3.ownsRow w.heap.size 32 3 v' (acc++[X]).length ((acc++[X]).flatMap plL)):=qb (by simpa[List.flatMap_append] using hown');obtain⟨av,cv,rfl⟩:∃ a c,v'=.slice a (acc.length+1) c:=(by obtain⟨a,c,h,_⟩:=qct hown';exact⟨a,c,h⟩);clear hown' hgrow)
             refine(S3.out _).mono ?_;rintro e w9 ⟨rfl,hw9⟩;rw[hw9];clear hw9 w9;(go_wp2_with fail);go_roundw
             case rel=>exact⟨m,z+1,acc++[X],by simp;omega,by simp;omega,by omega,by go_num,qb (by rw[HG2.out,HZ.out]),HO3,HB3.out⟩
             case measure=>simp[intOf];omega
            ·have hXe:(if z<s.data.toList.length∧s.data.toList[z]?≠some 44 then (10:Int) else 0)=10:=if_pos ⟨by omega,fun h=>h44 (by rw[hzs]at h;simp only[Option.some.injEq]at h;rw[h];rfl)⟩
             rw[hXe]at HC;have hcm:((s[z].toNat:Int) != 44)=true:=by simp only[bne_iff_ne,ne_eq];omega
             generalize hXX:(⟨k,x,t,st,q,z,10⟩:Cl)=X at *;have HXX:=qb hXX;clear hXX;have HG2:=qb (HC.out.trans (qgh HA.out (by rw[←HXX.out];exact(by decide:(10:Int)≠0))))
             have HZ:Hid (X.e=z∧X.er=10):=qb (by rw[←HXX.out];exact⟨rfl,rfl⟩)
             (go_wp2_with fail);refine(BLi.out _).mono ?_;rintro e w0 ⟨rfl,hw0⟩;rw[hw0];clear hw0 w0;(go_wp2_with fail);refine(RW.out _).mono ?_;rintro e w1 ⟨rfl,b1⟩;have n0:=qbsr w1 (.cells #[.string (qd (sgn k)),.string (qd t),.bool st] 32);have c0:=qc 0 n0 rfl;have c1:=qc 1 n0 rfl;have c2:=qc 2 n0 rfl;have hbA:Below w1.heap.size w1 ((w1.alloc (.cells #[.string (qd (sgn k)),.string (qd t),.bool st] 32)).alloc (.cells #[.string (qd (sgn k)),.string (qd t),.bool st] 32)):=((qbsv _ w1).alloc (qbst _) _).alloc (by simp) _
             have HBW:=qb ((hbl.trans (b1.mono hbl.size)).trans (hbA.mono (qbtc hbl.size b1.size)));have HUA:=qb (qdx (A:=fun _=>True) HOW.out ((qbn b1).trans (qbn hbA)) (fun _ _=>trivial));have HNW:Hid (∀ j u,(plL X)[j]? = some u→((w1.alloc (.cells #[.string (qd (sgn k)),.string (qd t),.bool st] 32)).alloc (.cells #[.string (qd (sgn k)),.string (qd t),.bool st] 32)).cell? ((⟨w1.heap.size+1,0,none⟩:Addr).add j)=some u):=qb (by rw[←HXX.out];intro j u h;have:=qhw (w1.alloc (.cells #[.string (qd (sgn k)),.string (qd t),.bool st] 32)) #[.string (qd (sgn k)),.string (qd t),.bool st] 32 j u h;simpa using this)
             clear n0 b1 hbA;go_wp2_with (at_builtin;refine wpList_append_own _ rfl _ _ 22 rfl w.heap.size 32 i0 (.agg #[.string ⟨#[]⟩,.string ⟨#[]⟩,.bool false]) 3 40 Tryz.underlying22 hi0 hz0 hz1 hz2 rfl (by decide) _ _ _ rfl HUA.out ⟨w1.heap.size+1,0,none⟩ 1 1 (plL X) rfl rfl HNW.out (qkc X) (by unfold maxLen;omega) (by omega) HBW.out.size ?_;intro v' w3 hown' hgrow _;have HB3:=qb (HBW.out.trans (qcj HUA.out HBW.out.size hgrow));have HO3:Hid (w3.ownsRow w.heap.size 32 3 v' (acc++[X]).length ((acc++[X]).flatMap plL)):=qb (by simpa[List.flatMap_append] using hown');obtain⟨av,cv,rfl⟩:∃ a c,v'=.slice a (acc.length+1) c:=(by obtain⟨a,c,h,_⟩:=qct hown';exact⟨a,c,h⟩);clear hown' hgrow)
             refine(S3.out _).mono ?_;rintro e w9 ⟨rfl,hw9⟩;rw[hw9];clear hw9 w9;(go_wp2_with fail);refine qhd _ _ _ _ _ rfl rfl rfl ?_;rw[HG2.out,HZ.out.1,HZ.out.2];exact⟨HB3.out,_,rfl,PyAt.nil _,qcn _⟩
        ·have hcmp:((s[i].toNat:Int) != 44)=true:=by simp only[bne_iff_ne,ne_eq];omega
         have HCC:=qb (hcc.trans (by rw[wdN_next s i hin h1 h2]))
         clear hcc h1 h2;(go_wp2_with fail);refine(BLi.out _).mono ?_;rintro e w0 ⟨rfl,hw0⟩;rw[hw0];clear hw0 w0;(go_wp2_with fail);go_roundw
         case rel=>exact⟨i+1,by omega,by omega,by go_num,by have:=HCC.out;omega,by trivial⟩
         case measure=>simp[intOf];omega
       ·rw [h2]at BLi;have HE:Hid (wdN (s.data.toList.drop b)=i-b):=qb (by rw[qbhx s i hin (.inr h2)]at hcc;omega)
        clear hcc h2
        by_cases hz:i=b
        ·subst hz;have hE0:wdN (s.data.toList.drop i)=0:=by rw[HE.out];omega
         have HX:=qb (HC.out.trans (by rw[qtz h8 HK.out HB.out hE0,qgh HA.out (HM.out i)]))
         have hzz:((i:Int)==(i:Int))=true:=by simp
         clear hE0
         by_cases hl:i<s.size
         ·have hls:((i:Int)==(s.size:Int))=false:=by simp;omega
          have HM2:Hid (misL s.data.toList.length i=10):=qb (by unfold misL;rw[qg,if_neg (by omega)])
          (go_wp2_with fail);refine(BLi.out _).mono ?_;rintro e w0 ⟨rfl,hw0⟩;rw[hw0];clear hw0 w0;(go_wp2_with fail);refine qhd _ _ _ _ _ rfl rfl rfl ?_;rw[HX.out];exact⟨hbl,_,by dsimp only;rw[HM2.out];rfl,PyAt.nil _,qcn _⟩
         ·have hls:((i:Int)==(s.size:Int))=true:=by simp;omega
          have HM2:Hid (misL s.data.toList.length i=11):=qb (by unfold misL;rw[qg,if_pos (by omega)])
          (go_wp2_with fail);refine(BLi.out _).mono ?_;rintro e w0 ⟨rfl,hw0⟩;rw[hw0];clear hw0 w0;(go_wp2_with fail);refine qhd _ _ _ _ _ rfl rfl rfl ?_;rw[HX.out];exact⟨hbl,_,by dsimp only;rw[HM2.out];rfl,PyAt.nil _,qcn _⟩
        ·have hzz:((i:Int)==(b:Int))=false:=by simp;omega
         have hbi':(b:Int)≤(i:Int):=by omega
         have hi':(i:Int)≤(s.size:Int):=by omega
         have hE0:wdN (s.data.toList.drop b)≠0:=by rw[HE.out];omega
         have RW:=fun W=>qlx k h8 (s.extract b i) b W (by rw[ByteArray.size_extract];omega) (by omega)
         rw[qdf]at RW;have hbz:b+wdN (s.data.toList.drop b)=i:=by rw[HE.out];omega
         cases hw:wdR k (seg s.data.toList b i)with
         | bad er p=>
          rw[hw]at RW;have hne:=qbbx hw;have HX:=qb (HC.out.trans (by rw[qbcm h8 HK.out HB.out hE0 (by rw[hbz];exact hw),qgh HA.out hne]))
          have n1:(er==0)=false:=by simpa using hne
          unfold wdT zer3 at RW;have RW:=qb RW;clear hw hE0 hne;(go_wp2_with fail);refine(BLi.out _).mono ?_;rintro e w0 ⟨rfl,hw0⟩;rw[hw0];clear hw0 w0;(go_wp2_with fail);refine(RW.out _).mono ?_;rintro e w1 ⟨rfl,b1⟩;(go_wp2_with fail);refine qhd _ _ _ _ _ rfl rfl rfl ?_;rw[HX.out];exact⟨hbl.trans ((b1.mono hbl.size).alloc (qbtc hbl.size b1.size) _),_,rfl,PyAt.nil _,qcn _⟩
         | ok x t st=>
          rw[hw]at RW;have hX:=qth h8 HK.out HB.out hE0 (by rw[hbz];exact hw) rfl
          rw[hbz]at hX;rw[hX]at HC;unfold wdT at RW;dsimp only at RW;have RW:=qb RW;have S3:=qb (SK.out i (by omega))
          have hz3:=qhs s.data.toList i (by rw[qg];omega)
          rw[qg]at hz3;generalize skL s.data.toList i=z at *;clear hw hE0 hX;have hsz:s.data.toList.length=s.size:=qg s
          by_cases hze:z=s.size
          ·have hXe:(if z<s.data.toList.length∧s.data.toList[z]?≠some 44 then (10:Int) else 0)=0:=if_neg (by omega)
           rw[hXe]at HC;have hzb:((z:Int)==(s.size:Int))=true:=by simp;omega
           generalize hXX:(⟨k,x,t,st,q,z,0⟩:Cl)=X at *;have HXX:=qb hXX;clear hXX;have HG2:=qb (HC.out.trans (qvj HA.out (by rw[←HXX.out]) (by rw[←HXX.out];dsimp only;omega)))
           (go_wp2_with fail);refine(BLi.out _).mono ?_;rintro e w0 ⟨rfl,hw0⟩;rw[hw0];clear hw0 w0;(go_wp2_with fail);refine(RW.out _).mono ?_;rintro e w1 ⟨rfl,b1⟩;have n0:=qbsr w1 (.cells #[.string (qd (sgn k)),.string (qd t),.bool st] 32);have c0:=qc 0 n0 rfl;have c1:=qc 1 n0 rfl;have c2:=qc 2 n0 rfl;have hbA:Below w1.heap.size w1 ((w1.alloc (.cells #[.string (qd (sgn k)),.string (qd t),.bool st] 32)).alloc (.cells #[.string (qd (sgn k)),.string (qd t),.bool st] 32)):=((qbsv _ w1).alloc (qbst _) _).alloc (by simp) _
           have HBW:=qb ((hbl.trans (b1.mono hbl.size)).trans (hbA.mono (qbtc hbl.size b1.size)));have HUA:=qb (qdx (A:=fun _=>True) HOW.out ((qbn b1).trans (qbn hbA)) (fun _ _=>trivial));have HNW:Hid (∀ j u,(plL X)[j]? = some u→((w1.alloc (.cells #[.string (qd (sgn k)),.string (qd t),.bool st] 32)).alloc (.cells #[.string (qd (sgn k)),.string (qd t),.bool st] 32)).cell? ((⟨w1.heap.size+1,0,none⟩:Addr).add j)=some u):=qb (by rw[←HXX.out];intro j u h;have:=qhw (w1.alloc (.cells #[.string (qd (sgn k)),.string (qd t),.bool st] 32)) #[.string (qd (sgn k)),.string (qd t),.bool st] 32 j u h;simpa using this)
           clear n0 b1 hbA;go_wp2_with (at_builtin;refine wpList_append_own _ rfl _ _ 22 rfl w.heap.size 32 i0 (.agg #[.string ⟨#[]⟩,.string ⟨#[]⟩,.bool false]) 3 40 Tryz.underlying22 hi0 hz0 hz1 hz2 rfl (by decide) _ _ _ rfl HUA.out ⟨w1.heap.size+1,0,none⟩ 1 1 (plL X) rfl rfl HNW.out (qkc X) (by unfold maxLen;omega) (by omega) HBW.out.size ?_;intro v' w3 hown' hgrow _;have HB3:=qb (HBW.out.trans (qcj HUA.out HBW.out.size hgrow));have HO3:Hid (w3.ownsRow w.heap.size 32 3 v' (acc++[X]).length ((acc++[X]).flatMap plL)):=qb (by simpa[List.flatMap_append] using hown');obtain⟨av,cv,rfl⟩:∃ a c,v'=.slice a (acc.length+1) c:=(by obtain⟨a,c,h,_⟩:=qct hown';exact⟨a,c,h⟩);clear hown' hgrow)
           refine(S3.out _).mono ?_;rintro e w9 ⟨rfl,hw9⟩;rw[hw9];clear hw9 w9;(go_wp2_with fail);refine qhd _ _ _ _ _ rfl rfl rfl ?_;rw[HG2.out];exact⟨HB3.out,_,rfl,qzv HO3.out,qkl HO3.out⟩
          ·have hzl:z<s.size:=by omega
           have hzl':(z:Int)<(s.size:Int):=by omega
           have hzb:((z:Int)==(s.size:Int))=false:=by simp;omega
           have hzs:s.data.toList[z]? = some s[z]:=by rw[List.getElem?_eq_getElem (by rw[qg];exact hzl)];rfl
           by_cases h44:s[z].toNat=44
           ·have hXe:(if z<s.data.toList.length∧s.data.toList[z]?≠some 44 then (10:Int) else 0)=0:=if_neg (fun h=>h.2 (by rw[hzs,UInt8.toNat_inj.1 (show s[z].toNat=(44:UInt8).toNat from h44)]))
            rw[hXe]at HC;have hcm:((s[z].toNat:Int) != 44)=false:=by rw[h44];rfl
            generalize hXX:(⟨k,x,t,st,q,z,0⟩:Cl)=X at *;have HXX:=qb hXX;clear hXX;have HG2:=qb (HC.out.trans (qbnp HA.out (by rw[←HXX.out]) (by rw[←HXX.out];dsimp only;omega)))
            have HZ:Hid (X.e=z):=qb (by rw[←HXX.out])
            (go_wp2_with fail);refine(BLi.out _).mono ?_;rintro e w0 ⟨rfl,hw0⟩;rw[hw0];clear hw0 w0;(go_wp2_with fail);refine(RW.out _).mono ?_;rintro e w1 ⟨rfl,b1⟩;have n0:=qbsr w1 (.cells #[.string (qd (sgn k)),.string (qd t),.bool st] 32);have c0:=qc 0 n0 rfl;have c1:=qc 1 n0 rfl;have c2:=qc 2 n0 rfl;have hbA:Below w1.heap.size w1 ((w1.alloc (.cells #[.string (qd (sgn k)),.string (qd t),.bool st] 32)).alloc (.cells #[.string (qd (sgn k)),.string (qd t),.bool st] 32)):=((qbsv _ w1).alloc (qbst _) _).alloc (by simp) _
            have HBW:=qb ((hbl.trans (b1.mono hbl.size)).trans (hbA.mono (qbtc hbl.size b1.size)));have HUA:=qb (qdx (A:=fun _=>True) HOW.out ((qbn b1).trans (qbn hbA)) (fun _ _=>trivial));have HNW:Hid (∀ j u,(plL X)[j]? = some u→((w1.alloc (.cells #[.string (qd (sgn k)),.string (qd t),.bool st] 32)).alloc (.cells #[.string (qd (sgn k)),.string (qd t),.bool st] 32)).cell? ((⟨w1.heap.size+1,0,none⟩:Addr).add j)=some u):=qb (by rw[←HXX.out];intro j u h;have:=qhw (w1.alloc (.cells #[.string (qd (sgn k)),.string (qd t),.bool st] 32)) #[.string (qd (sgn k)),.string (qd t),.bool st] 32 j u h;simpa using this)
            clear n0 b1 hbA;go_wp2_with (at_builtin;refine wpList_append_own _ rfl _ _ 22 rfl w.heap.size 32 i0 (.agg #[.string ⟨#[]⟩,.string ⟨#[]⟩,.bool false]) 3 40 Tryz.underlying22 hi0 hz0 hz1 hz2 rfl (by decide) _ _ _ rfl HUA.out ⟨w1.heap.size+1,0,none⟩ 1 1 (plL X) rfl rfl HNW.out (qkc X) (by unfold maxLen;omega) (by omega) HBW.out.size ?_;intro v' w3 hown' hgrow _;have HB3:=qb (HBW.out.trans (qcj HUA.out HBW.out.size hgrow));have HO3:Hid (w3.ownsRow w.heap.size 32 3 v' (acc++[X]).length ((acc++[X]).flatMap plL)):=qb (by simpa[List.flatMap_append] using hown');obtain⟨av,cv,rfl⟩:∃ a c,v'=.slice a (acc.length+1) c:=(by obtain⟨a,c,h,_⟩:=qct hown';exact⟨a,c,h⟩);clear hown' hgrow)
            refine(S3.out _).mono ?_;rintro e w9 ⟨rfl,hw9⟩;rw[hw9];clear hw9 w9;(go_wp2_with fail);go_roundw
            case rel=>exact⟨m,z+1,acc++[X],by simp;omega,by simp;omega,by omega,by go_num,qb (by rw[HG2.out,HZ.out]),HO3,HB3.out⟩
            case measure=>simp[intOf];omega
           ·have hXe:(if z<s.data.toList.length∧s.data.toList[z]?≠some 44 then (10:Int) else 0)=10:=if_pos ⟨by omega,fun h=>h44 (by rw[hzs]at h;simp only[Option.some.injEq]at h;rw[h];rfl)⟩
            rw[hXe]at HC;have hcm:((s[z].toNat:Int) != 44)=true:=by simp only[bne_iff_ne,ne_eq];omega
            generalize hXX:(⟨k,x,t,st,q,z,10⟩:Cl)=X at *;have HXX:=qb hXX;clear hXX;have HG2:=qb (HC.out.trans (qgh HA.out (by rw[←HXX.out];exact(by decide:(10:Int)≠0))))
            have HZ:Hid (X.e=z∧X.er=10):=qb (by rw[←HXX.out];exact⟨rfl,rfl⟩)
            (go_wp2_with fail);refine(BLi.out _).mono ?_;rintro e w0 ⟨rfl,hw0⟩;rw[hw0];clear hw0 w0;(go_wp2_with fail);refine(RW.out _).mono ?_;rintro e w1 ⟨rfl,b1⟩;have n0:=qbsr w1 (.cells #[.string (qd (sgn k)),.string (qd t),.bool st] 32);have c0:=qc 0 n0 rfl;have c1:=qc 1 n0 rfl;have c2:=qc 2 n0 rfl;have hbA:Below w1.heap.size w1 ((w1.alloc (.cells #[.string (qd (sgn k)),.string (qd t),.bool st] 32)).alloc (.cells #[.string (qd (sgn k)),.string (qd t),.bool st] 32)):=((qbsv _ w1).alloc (qbst _) _).alloc (by simp) _
            have HBW:=qb ((hbl.trans (b1.mono hbl.size)).trans (hbA.mono (qbtc hbl.size b1.size)));have HUA:=qb (qdx (A:=fun _=>True) HOW.out ((qbn b1).trans (qbn hbA)) (fun _ _=>trivial));have HNW:Hid (∀ j u,(plL X)[j]? = some u→((w1.alloc (.cells #[.string (qd (sgn k)),.string (qd t),.bool st] 32)).alloc (.cells #[.string (qd (sgn k)),.string (qd t),.bool st] 32)).cell? ((⟨w1.heap.size+1,0,none⟩:Addr).add j)=some u):=qb (by rw[←HXX.out];intro j u h;have:=qhw (w1.alloc (.cells #[.string (qd (sgn k)),.string (qd t),.bool st] 32)) #[.string (qd (sgn k)),.string (qd t),.bool st] 32 j u h;simpa using this)
            clear n0 b1 hbA;go_wp2_with (at_builtin;refine wpList_append_own _ rfl _ _ 22 rfl w.heap.size 32 i0 (.agg #[.string ⟨#[]⟩,.string ⟨#[]⟩,.bool false]) 3 40 Tryz.underlying22 hi0 hz0 hz1 hz2 rfl (by decide) _ _ _ rfl HUA.out ⟨w1.heap.size+1,0,none⟩ 1 1 (plL X) rfl rfl HNW.out (qkc X) (by unfold maxLen;omega) (by omega) HBW.out.size ?_;intro v' w3 hown' hgrow _;have HB3:=qb (HBW.out.trans (qcj HUA.out HBW.out.size hgrow));have HO3:Hid (w3.ownsRow w.heap.size 32 3 v' (acc++[X]).length ((acc++[X]).flatMap plL)):=qb (by simpa[List.flatMap_append] using hown');obtain⟨av,cv,rfl⟩:∃ a c,v'=.slice a (acc.length+1) c:=(by obtain⟨a,c,h,_⟩:=qct hown';exact⟨a,c,h⟩);clear hown' hgrow)
            refine(S3.out _).mono ?_;rintro e w9 ⟨rfl,hw9⟩;rw[hw9];clear hw9 w9;(go_wp2_with fail);refine qhd _ _ _ _ _ rfl rfl rfl ?_;rw[HG2.out,HZ.out.1,HZ.out.2];exact⟨HB3.out,_,rfl,PyAt.nil _,qcn _⟩
      ·have hin':¬ (i:Int)<(s.size:Int):=by omega
       have HE:Hid (wdN (s.data.toList.drop b)=i-b):=qb (by rw[qfd s i (by omega),show wdN []=0 from rfl]at hcc;omega)
       clear hcc
       by_cases hz:i=b
       ·subst hz;have hE0:wdN (s.data.toList.drop i)=0:=by rw[HE.out];omega
        have HX:=qb (HC.out.trans (by rw[qtz h8 HK.out HB.out hE0,qgh HA.out (HM.out i)]))
        have hzz:((i:Int)==(i:Int))=true:=by simp
        clear hE0
        by_cases hl:i<s.size
        ·have hls:((i:Int)==(s.size:Int))=false:=by simp;omega
         have HM2:Hid (misL s.data.toList.length i=10):=qb (by unfold misL;rw[qg,if_neg (by omega)])
         (go_wp2_with fail);refine qhd _ _ _ _ _ rfl rfl rfl ?_;rw[HX.out];exact⟨hbl,_,by dsimp only;rw[HM2.out];rfl,PyAt.nil _,qcn _⟩
        ·have hls:((i:Int)==(s.size:Int))=true:=by simp;omega
         have HM2:Hid (misL s.data.toList.length i=11):=qb (by unfold misL;rw[qg,if_pos (by omega)])
         (go_wp2_with fail);refine qhd _ _ _ _ _ rfl rfl rfl ?_;rw[HX.out];exact⟨hbl,_,by dsimp only;rw[HM2.out];rfl,PyAt.nil _,qcn _⟩
       ·have hzz:((i:Int)==(b:Int))=false:=by simp;omega
        have hbi':(b:Int)≤(i:Int):=by omega
        have hi':(i:Int)≤(s.size:Int):=by omega
        have hE0:wdN (s.data.toList.drop b)≠0:=by rw[HE.out];omega
        have RW:=fun W=>qlx k h8 (s.extract b i) b W (by rw[ByteArray.size_extract];omega) (by omega)
        rw[qdf]at RW;have hbz:b+wdN (s.data.toList.drop b)=i:=by rw[HE.out];omega
        cases hw:wdR k (seg s.data.toList b i)with
        | bad er p=>
         rw[hw]at RW;have hne:=qbbx hw;have HX:=qb (HC.out.trans (by rw[qbcm h8 HK.out HB.out hE0 (by rw[hbz];exact hw),qgh HA.out hne]))
         have n1:(er==0)=false:=by simpa using hne
         unfold wdT zer3 at RW;have RW:=qb RW;clear hw hE0 hne;(go_wp2_with fail);refine(RW.out _).mono ?_;rintro e w1 ⟨rfl,b1⟩;(go_wp2_with fail);refine qhd _ _ _ _ _ rfl rfl rfl ?_;rw[HX.out];exact⟨hbl.trans ((b1.mono hbl.size).alloc (qbtc hbl.size b1.size) _),_,rfl,PyAt.nil _,qcn _⟩
        | ok x t st=>
         rw[hw]at RW;have hX:=qth h8 HK.out HB.out hE0 (by rw[hbz];exact hw) rfl
         rw[hbz]at hX;rw[hX]at HC;unfold wdT at RW;dsimp only at RW;have RW:=qb RW;have S3:=qb (SK.out i (by omega))
         have hz3:=qhs s.data.toList i (by rw[qg];omega)
         rw[qg]at hz3;generalize skL s.data.toList i=z at *;clear hw hE0 hX;have hsz:s.data.toList.length=s.size:=qg s
         by_cases hze:z=s.size
         ·have hXe:(if z<s.data.toList.length∧s.data.toList[z]?≠some 44 then (10:Int) else 0)=0:=if_neg (by omega)
          rw[hXe]at HC;have hzb:((z:Int)==(s.size:Int))=true:=by simp;omega
          generalize hXX:(⟨k,x,t,st,q,z,0⟩:Cl)=X at *;have HXX:=qb hXX;clear hXX;have HG2:=qb (HC.out.trans (qvj HA.out (by rw[←HXX.out]) (by rw[←HXX.out];dsimp only;omega)))
          (go_wp2_with fail);refine(RW.out _).mono ?_;rintro e w1 ⟨rfl,b1⟩;have n0:=qbsr w1 (.cells #[.string (qd (sgn k)),.string (qd t),.bool st] 32);have c0:=qc 0 n0 rfl;have c1:=qc 1 n0 rfl;have c2:=qc 2 n0 rfl;have hbA:Below w1.heap.size w1 ((w1.alloc (.cells #[.string (qd (sgn k)),.string (qd t),.bool st] 32)).alloc (.cells #[.string (qd (sgn k)),.string (qd t),.bool st] 32)):=((qbsv _ w1).alloc (qbst _) _).alloc (by simp) _
          have HBW:=qb ((hbl.trans (b1.mono hbl.size)).trans (hbA.mono (qbtc hbl.size b1.size)));have HUA:=qb (qdx (A:=fun _=>True) HOW.out ((qbn b1).trans (qbn hbA)) (fun _ _=>trivial));have HNW:Hid (∀ j u,(plL X)[j]? = some u→((w1.alloc (.cells #[.string (qd (sgn k)),.string (qd t),.bool st] 32)).alloc (.cells #[.string (qd (sgn k)),.string (qd t),.bool st] 32)).cell? ((⟨w1.heap.size+1,0,none⟩:Addr).add j)=some u):=qb (by rw[←HXX.out];intro j u h;have:=qhw (w1.alloc (.cells #[.string (qd (sgn k)),.string (qd t),.bool st] 32)) #[.string (qd (sgn k)),.string (qd t),.bool st] 32 j u h;simpa using this)
          clear n0 b1 hbA;go_wp2_with (at_builtin;refine wpList_append_own _ rfl _ _ 22 rfl w.heap.size 32 i0 (.agg #[.string ⟨#[]⟩,.string ⟨#[]⟩,.bool false]) 3 40 Tryz.underlying22 hi0 hz0 hz1 hz2 rfl (by decide) _ _ _ rfl HUA.out ⟨w1.heap.size+1,0,none⟩ 1 1 (plL X) rfl rfl HNW.out (qkc X) (by unfold maxLen;omega) (by omega) HBW.out.size ?_;intro v' w3 hown' hgrow _;have HB3:=qb (HBW.out.trans (qcj HUA.out HBW.out.size hgrow));have HO3:Hid (w3.ownsRow w.heap.size 32 3 v' (acc++[X]).length ((acc++[X]).flatMap plL)):=qb (by simpa[List.flatMap_append] using hown');obtain⟨av,cv,rfl⟩:∃ a c,v'=.slice a (acc.length+1) c:=(by obtain⟨a,c,h,_⟩:=qct hown';exact⟨a,c,h⟩);clear hown' hgrow)
          refine(S3.out _).mono ?_;rintro e w9 ⟨rfl,hw9⟩;rw[hw9];clear hw9 w9;(go_wp2_with fail);refine qhd _ _ _ _ _ rfl rfl rfl ?_;rw[HG2.out];exact⟨HB3.out,_,rfl,qzv HO3.out,qkl HO3.out⟩
         ·exfalso;have:=hz3.1;have:=hz3.2;omega
   ·have hlt:¬ (q:Int)<(s.size:Int):=by omega
    have hdr:=qfd s q (by omega)
    have h8:(opGo (s.data.toList.drop q) 8).1=8:=by rw[hdr];decide
    have hdh:qgt (s.data.toList.drop q)=0:=by rw[hdr];rfl
    rw[if_pos h8,if_pos h8,hdh,Nat.add_zero]at O1;have hX:=hC1.trans (by rw[qbgh h8,qgh HA.out (HM.out _)])
    rw[hd2 h8,hdh,qg,Nat.add_zero]at hX;rw[h8]at O1;have HN:Hid (misL s.size q≠0):=by have:=HM.out q;rw[qg]at this;exact this
    generalize misL s.size q=ML at *;have HX:=qb hX;have n1:(ML==0)=false:=by have:=HN.out;simpa using this
    replace O1:=qb O1;clear hC1 hX hd1 hd2 h8 hol hdr hdh;(go_wp2_with fail);refine(S1.out _).mono ?_;rintro e w0 ⟨rfl,hw0⟩;rw[hw0];clear hw0 w0;(go_wp2_with fail);refine(O1.out _).mono ?_;rintro e w1 ⟨rfl,b1⟩;(go_wp2_with fail);refine qhd _ _ _ _ _ rfl rfl rfl ?_;rw[HX.out];exact⟨hbl.trans (b1.mono hbl.size),_,rfl,PyAt.nil _,qcn _⟩
theorem qqd (s:QY) (w:World):Calls Tryz.prog 31 #[.string s] w (qrh (pyL s.data.toList) w):=by
 by_cases hs:s.size≤256
 ·by_cases h0:qp 6 s.data.toList=s.size
  ·exact qbbk s w hs h0
  ·exact qbdq s w hs h0
 ·exact qwv s w (by omega)
def PfPost (r:Int×Nat×List Cl) (w:World) (e:Ending) (w':World):Prop:=
 Below w.heap.size w w'∧∃ v,e=.returned (.tuple #[v,.agg #[.int .i64 r.1,.int .i64 (r.2.1:Int)]])∧PyAt w' v r.2.2∧qbr w.heap.size v
theorem PyAt.young {n:Nat} {W W':World} {v:Value} {cs:List Cl} (h:PyAt W v cs) (hf:qbr n v) (hk:∀ j,n≤j→j<W.heap.size→W'.heap[j]? = W.heap[j]?) (hs:W.heap.size≤W'.heap.size):PyAt W' v cs:=by
 obtain⟨a,c,rfl,h0|⟨g,rfl,hg,hc⟩⟩:=h
 ·exact⟨a,c,rfl,.inl h0⟩
 ·exact⟨_,c,rfl,.inr ⟨g,rfl,Nat.lt_of_lt_of_le hg hs,fun j u hj=>(World.cell?_of_block (w:=W) (hk g (hf _ _ _ rfl).1 hg)).trans (hc j u hj)⟩⟩
theorem qrg {W:World} {b:Nat}:∀ (cs:List Cl) (o:Nat),(∀ j u,(cs.flatMap plL)[j]? = some u→W.cell? ⟨b,o+j,none⟩=some u)→∀ i (h:i<cs.length),
  W.cell? ⟨b,o+i*3,none⟩=some (.string (qd (sgn cs[i].k)))∧W.cell? ⟨b,o+i*3+1,none⟩=some (.string (qd cs[i].t))∧W.cell? ⟨b,o+i*3+2,none⟩=some (.bool cs[i].st)
 | [],_,_,i,h=>by cases h
 | c::cs,o,hx,0,h=>by
  refine⟨?_,?_,?_⟩
  ·exact hx 0 _ rfl
  ·exact hx 1 _ rfl
  ·exact hx 2 _ rfl
 | c::cs,o,hx,i+1,h=>by
  have:=qrg (W:=W) (b:=b) cs (o+3) (fun j u hj=>by
   have:=hx (3+j) u (by rw[List.flatMap_cons,List.getElem?_append_right (by simp[plL])];simpa[plL] using hj)
   rwa [←Nat.add_assoc]at this) i (by simpa using h)
  rw[show o+(i+1)*3=o+3+i*3 by omega]
  exact this
theorem PyAt.cells {W:World} {v:Value} {cs:List Cl} (h:PyAt W v cs):∃ a cap,v=.slice a cs.length cap∧∀ i (h:i<cs.length),∃ b,a=some ⟨b,0,none⟩ ∧
  W.cell? ⟨b,i*3,none⟩=some (.string (qd (sgn cs[i].k)))∧W.cell? ⟨b,i*3+1,none⟩=some (.string (qd cs[i].t))∧W.cell? ⟨b,i*3+2,none⟩=some (.bool cs[i].st):=by
 obtain⟨a,c,rfl,h0|⟨g,rfl,hg,hc⟩⟩:=h
 ·exact⟨a,c,rfl,fun i h=>by rw[h0]at h;cases h⟩
 ·refine⟨_,c,rfl,fun i h=>⟨g,rfl,?_⟩⟩;have:=qrg (W:=W) (b:=g) cs 0 (fun j u hj=>by rw[Nat.zero_add];exact hc j u hj) i h
  simpa using this
open List renaming length_append → qbtf, length_map → qbsl
set_option maxHeartbeats 4000000
set_option maxRecDepth 100000
abbrev Tri:=QB×QB×Bool
def wrT (q:Tri):QB:=q.1++q.2.1++qxz q.2.2
def qdv (qs:List Tri):QB:=Lib.join (qs.map wrT) [44]
def triC (c:Cl):Tri:=(sgn c.k,c.t,c.st)
def qgn (W:World) (v:Value) (qs:List Tri):Prop:=
 ∃ a cap,v=.slice a qs.length cap∧∀ i (h:i<qs.length),∃ b o,a=some ⟨b,o,none⟩∧b<W.heap.size ∧
  W.cell? ⟨b,o+i*3,none⟩=some (.string (qd qs[i].1))∧W.cell? ⟨b,o+i*3+1,none⟩=some (.string (qd qs[i].2.1))∧W.cell? ⟨b,o+i*3+2,none⟩=some (.bool qs[i].2.2)
def qgm (qs:List Tri):Prop:=qs.length≤2000000∧∀ q∈qs,q.1.length≤10000000∧q.2.1.length≤10000000
theorem qgn.below {W W':World} {v:Value} {qs:List Tri} (h:qgn W v qs) (hb:Below W.heap.size W W'):qgn W' v qs:=by
 obtain⟨a,cap,rfl,hc⟩:=h;refine⟨a,cap,rfl,fun i hi=>?_⟩;obtain⟨b,o,ha,hlt,h1,h2,h3⟩:=hc i hi;exact⟨b,o,ha,Nat.lt_of_lt_of_le hlt hb.size,(hb.cell hlt).trans h1,(hb.cell hlt).trans h2,(hb.cell hlt).trans h3⟩
theorem PyAt.tri {W:World} {v:Value} {cs:List Cl} (h:PyAt W v cs):qgn W v (cs.map triC):=by
 obtain⟨a,c,rfl,h0|⟨g,rfl,hg,hc⟩⟩:=h
 ·subst h0;exact⟨a,c,rfl,fun i h=>by cases h⟩
 ·refine⟨_,c,by rw[qbsl],fun i hi=>⟨g,0,rfl,hg,?_⟩⟩
  have:=qrg (W:=W) (b:=g) cs 0 (fun j u hj=>by rw[Nat.zero_add];exact hc j u hj) i (by simpa using hi)
  simpa[triC] using this
theorem qmw (a b:QB):qd a++qd b=qd (a++b):=by
 apply qzz;rw[ByteArray.data_append,Array.toList_append,qj,qj,qj]
theorem qng (a b c:QY) (h:a++b=c) (hs:a.size+b.size≤9000000000000000000):Op.stringOp .add a b=pure (.string c):=by
 unfold Op.stringOp;have hm:IntKind.i64.max=9223372036854775807:=rfl;dsimp only;rw[if_neg (by rw[hm];omega),h]
theorem wrT_len (q:Tri):(wrT q).length≤q.1.length+q.2.1.length+2:=by
 unfold wrT qxz;rw[qbtf,qbtf];split<;>simp
theorem qbmp (N:Nat):∀ ts:List QB,(∀ t∈ts,t.length≤N)→(Lib.join ts [44]).length≤ts.length*(N+1)
 | [],_=>by simp[Lib.join,List.intercalate]
 | [t],h=>by
  have:=h t (by simp)
  simp[Lib.join,List.intercalate];omega
 | t::u::r,h=>by
  have ih:=qbmp N (u::r) (fun x hx=>h x (by simp[hx]))
  have:=h t (by simp)
  unfold Lib.join at ih ⊢;simp only[List.intercalate]at ih ⊢;rw[List.intersperse_cons_cons,List.flatten_cons,List.flatten_cons];simp only[qbtf,List.length_cons,List.length_nil,Nat.succ_mul]at ih ⊢;omega
theorem qbgs {qs:List Tri} (h:qgm qs):(qdv qs).length≤2000000*20000003:=by
 have h1:=qbmp 20000002 (qs.map wrT) (fun t ht=>by
  obtain⟨q,hq,rfl⟩:=List.mem_map.1 ht;have:=wrT_len q;have:=h.2 q hq;omega)
 rw[qbsl]at h1;exact Nat.le_trans h1 (Nat.mul_le_mul_right _ h.1)
theorem qbpb (v:Value) (ts:List QB) (w:World) (hv:qz w v ts) (hc:Cap v) (hn:ts.length≤140737488355328) (hl:(Lib.join ts [44]).length≤140737488355328) :
  Calls Tryz.prog 66 #[v,.string ⟨#[44]⟩] w fun e w'=>e=.returned (.string (qd (Lib.join ts [44])))∧Below w.heap.size w w':=by
 obtain⟨a,cap,rfl,h⟩:=id hv;have hcap:=hc _ _ _ rfl
 by_cases hn0:ts=[]
 ·subst hn0;refine(Tryz.strings_Join_none a cap ⟨#[44]⟩ w).mono ?_;rintro e w' ⟨rfl,rfl⟩;exact⟨rfl,Below.refl _ _⟩
 ·rcases h with h|⟨b,off,rfl,hlt,hcell⟩
  ·exact absurd h hn0
  ·have hm:(ts.map qd).map (·.data.toList)=ts:=by
    rw[List.map_map]
    conv=>rhs;rw[←List.map_id ts]
    refine List.map_congr_left fun t _=>?_;simp[qd]
   have hj:(Lib.join ((ts.map qd).map (·.data.toList)) (⟨#[44]⟩:QY).data.toList)=Lib.join ts [44]:=by rw[hm]
   have:=Tryz.strings_Join b off cap (ts.map qd) ⟨#[44]⟩ w (by
    intro j x hj;rw[List.getElem?_map]at hj;cases hg:ts[j]? with
    | none=>rw[hg]at hj;cases hj
    | some t=>
     rw[hg]at hj;obtain⟨hj1,hj2⟩:=List.getElem?_eq_some_iff.1 hg;cases hj;rw[hcell j hj1,hj2]) hlt (by rw[qbsl];exact hn) (by rw[qbsl];exact hcap) (by rw[hj];exact hl)
   rw[qbsl,hj]at this;exact this
theorem qsb (v:Value) (qs:List Tri) (w:World) (hv:qgn w v qs) (hs:qgm qs) :
  Calls Tryz.prog 32 #[v] w fun e w'=>e=.returned (.string (qd (qdv qs)))∧Below w.heap.size w w':=by
 obtain⟨a,c,rfl,_⟩:=id hv;have HV:=qb hv;have HS:=qb hs;have hn:=hs.1;clear hv hs;obtain⟨i0,hi0,hz0,hz1,hz2⟩:=info_parts Tryz.info9;go_enter Tryz.func32,Tryz.ntmps32
 (go_wp2_with fail);go_loopw [3,9] (fun y x wr=>∃ (i:Nat),i≤qs.length∧x=.int .i64 i∧Hid (wr.ownsRow w.heap.size 9 1 y i (valT ((qs.map wrT).take i)))∧Below w.heap.size w wr) (fun _ x _=>qs.length-(intOf x).toNat)
 case atStart=>exact⟨0,Nat.zero_le _,rfl,qb (World.ownsRow_nil _ _ _ _),Below.refl _ _⟩
 case round=>
  obtain⟨i,hin,rfl,hO,hB⟩:=hrel
  by_cases hlt:i<qs.length
  ·have hlt':(i:Int)<(qs.length:Int):=by omega
   obtain ⟨_,_,he,hA⟩:=(HV.out.below hB);obtain⟨g1,o1,ha,hg,p0,p1,p2⟩:=hA i hlt;cases he;subst ha;have hsm:=HS.out.2 qs[i] (List.getElem_mem hlt);have HT:Hid ((qs.map wrT).take (i+1)=(qs.map wrT).take i++[wrT qs[i]]):=by
    show _=_;rw[List.take_succ_eq_append_getElem (by simpa using hlt)]
    simp
   clear hA;generalize qs[i]=q at *;obtain⟨X0,X1,X2⟩:=q;dsimp only at p0 p1 p2 hsm;have s0:=qn X0;have s1:=qn X1;have ad1:=qng (qd X0) (qd X1) (qd (X0++X1)) (qmw _ _) (by omega)
   have ad2:=qng (qd (X0++X1)) ⟨#[46,42]⟩ (qd (X0++X1++[46,42])) (qmw _ [46,42]) (by rw[qn,qbtf];show _+2≤_;omega)
   have hBa:=qb ((Below.refl _ wr).alloc (Nat.le_refl _) (.cells #[.string (qd X0),.string (qd X1),.bool X2] 32));have HO2:=qb (qdx (A:=fun _=>True) hO.out (qbn hBa.out) (fun _ _=>trivial));have HB2:=qb (hB.trans (hBa.out.mono hB.size));have qfw:w.heap.size≤(wr.alloc (.cells #[.string (qd X0),.string (qd X1),.bool X2] 32)).heap.size:=HB2.out.size;cases X2
   ·go_wp2_with (at_builtin;refine wpList_append_own _ rfl _ _ 37 rfl w.heap.size 9 i0 (.string .empty) 1 16 Tryz.underlying37 hi0 hz0 hz1 hz2 rfl (by decide) _ _ _ rfl (HO2.out.alloc _) ⟨wr.heap.size+1,0,none⟩ 1 1 [.string (qd (X0++X1))] rfl rfl (by intro j u hj;match j,hj with|0,hj=>simp at hj;subst hj;simp[Addr.add]) (by intro u hu;simp at hu;subst hu;rfl) (by unfold maxLen;omega) (by omega) (by simp at qfw ⊢;omega) ?_;intro v' w3 hown' hgrow _;have HG3:=qb hgrow;have HO3:=qb hown';clear hown' hgrow)
    have HO4:Hid (w3.ownsRow w.heap.size 9 1 v' (i+1) (valT ((qs.map wrT).take (i+1)))):=by
     show World.ownsRow _ _ _ _ _ _ _;rw[HT.out];have:=HO3.out;rw[show wrT (X0,X1,false)=(X0++X1) by simp[wrT,qxz]]
     simpa[valT] using this
    have HB4:=qb ((HB2.out.alloc qfw (.cells #[.string (qd ((X0++X1)))] 9)).trans (qcj (HO2.out.alloc _) (by simp at qfw ⊢;omega) HG3.out))
    go_roundw
    case rel=>exact⟨i+1,by omega,by go_num,HO4,HB4.out⟩
    case measure=>simp[intOf];omega
   ·go_wp2_with (at_builtin;refine wpList_append_own _ rfl _ _ 37 rfl w.heap.size 9 i0 (.string .empty) 1 16 Tryz.underlying37 hi0 hz0 hz1 hz2 rfl (by decide) _ _ _ rfl (HO2.out.alloc _) ⟨wr.heap.size+1,0,none⟩ 1 1 [.string (qd (X0++X1++[46,42]))] rfl rfl (by intro j u hj;match j,hj with|0,hj=>simp at hj;subst hj;simp[Addr.add]) (by intro u hu;simp at hu;subst hu;rfl) (by unfold maxLen;omega) (by omega) (by simp at qfw ⊢;omega) ?_;intro v' w3 hown' hgrow _;have HG3:=qb hgrow;have HO3:=qb hown';clear hown' hgrow)
    have HO4:Hid (w3.ownsRow w.heap.size 9 1 v' (i+1) (valT ((qs.map wrT).take (i+1)))):=by
     show World.ownsRow _ _ _ _ _ _ _;rw[HT.out];have:=HO3.out;rw[show wrT (X0,X1,true)=(X0++X1++[46,42]) by simp[wrT,qxz]]
     simpa[valT] using this
    have HB4:=qb ((HB2.out.alloc qfw (.cells #[.string (qd ((X0++(X1++[46,42]))))] 9)).trans (qcj (HO2.out.alloc _) (by simp at qfw ⊢;omega) HG3.out))
    go_roundw
    case rel=>exact⟨i+1,by omega,by go_num,HO4,HB4.out⟩
    case measure=>simp[intOf];omega
  ·have hlt':¬ (i:Int)<(qs.length:Int):=by omega
   obtain rfl:i=qs.length:=by omega
   have hO':=hO.out;rw[List.take_of_length_le (by rw[qbsl];omega)]at hO'
   have hO2:wr.ownsRow w.heap.size 9 1 u3 (qs.map wrT).length (valT (qs.map wrT)):=by rw[qbsl];exact hO'
   have JN:=qb (qbpb u3 (qs.map wrT) wr (qmv hO2) (qbcj hO2) (by rw[qbsl];omega) (by have:=qbgs HS.out;unfold qdv at this;omega))
   obtain⟨ja,jn,jc,rfl⟩:∃ a n c,u3=.slice a n c:=by obtain⟨a,c,h,_⟩:=qmv hO2;exact⟨_,_,_,h⟩
   clear hO' hO2 hO;(go_wp2_with fail);refine(JN.out).mono ?_;rintro e w4 ⟨rfl,b4⟩;have HB4:=qb (hB.trans (b4.mono hB.size));clear b4;(go_wp2_with fail);go_ret
   exact⟨rfl,HB4.out⟩
end Go.Proofs.YtabmfdedbpmfmaaGreat
