/- Walks: the document's parse. -/
import Derived.Test.YtabmfdedbpmfmaaGreatVXa
import Derived.Test.YtabmfdedbpmfmaaGreatVHn
import Derived.Test.YtabmfdedbpmfmaaGreatVZc
namespace Go.Proofs.YtabmfdedbpmfmaaGreat
open Go.RowKit Go.Shelf
open Below renaming refl → qbtn
open Nat renaming le_refl → qbtm, le_trans → qbtt
open World renaming alloc_heap_new → qbtk
set_option linter.unusedVariables false
set_option maxHeartbeats 8000000
set_option maxRecDepth 100000
theorem qxn (k:Int):∀ l:QB,qn k (l.drop (qn k l))=0
 | []=>rfl
 | c::r=>by
  have e:qn k (c::r)=if isC (c.toNat:Int) k then qn k r+1 else 0:=rfl;rw[e];cases h:isC (c.toNat:Int) k
  ·rw[if_neg (by simp),List.drop_zero,e,h]
   rfl
  ·rw[if_pos rfl,List.drop_succ_cons];exact qxn k r
theorem skL_idem (l:QB) (a:Nat):skL l (skL l a)=skL l a:=by
 unfold skL;rw[←List.drop_drop,qxn]
 rfl
def qlf (l:QB) (m:Nat) (acc:List Cl) (q:Nat) (X:Cl):Int×Nat×List Cl:=
 if acc.length=32∧q<l.length then (12,q,[]) else if X.er≠0 then (X.er,X.e,[]) else if X.e<l.length then pyGo l m (X.e+1) (acc++[X]) else (0,0,acc++[X])
theorem qzm (l:QB) (m a:Nat) (acc:List Cl):pyGo l (m+1) a acc=qlf l m acc (skL l a) (clP l (skL l a)):=rfl
theorem qbpj (l:QB) (m a:Nat) (acc:List Cl):pyGo l (m+1) (skL l a) acc=pyGo l (m+1) a acc:=by rw[qzm,qzm,skL_idem]
theorem qbqd {l:QB} {m q:Nat} {acc:List Cl} {X:Cl} (h1:acc.length=32) (h2:q<l.length):qlf l m acc q X=(12,q,[]):=if_pos ⟨h1,h2⟩
theorem qgf {l:QB} {m q:Nat} {acc:List Cl} {X:Cl} (h:¬(acc.length=32∧q<l.length)) (he:X.er≠0):qlf l m acc q X=(X.er,X.e,[]):=by unfold qlf;rw[if_neg h,if_pos he]
theorem qbnb {l:QB} {m q:Nat} {acc:List Cl} {X:Cl} (h:¬(acc.length=32∧q<l.length)) (he:X.er=0) (hl:X.e<l.length):qlf l m acc q X=pyGo l m (X.e+1) (acc++[X]):=by unfold qlf;rw[if_neg h,if_neg (fun k=>k he),if_pos hl]
theorem qvd {l:QB} {m q:Nat} {acc:List Cl} {X:Cl} (h:¬(acc.length=32∧q<l.length)) (he:X.er=0) (hl:¬ X.e<l.length):qlf l m acc q X=(0,0,acc++[X]):=by unfold qlf;rw[if_neg h,if_neg (fun k=>k he),if_neg hl]
theorem qbdn (s:QY) (i:Nat) (h:i<s.size) (hc:s[i].toNat=44∨isC (s[i].toNat:Int) 6=true):wdN (s.data.toList.drop i)=0:=by
 rw[qcj s i h,wdN,if_pos];simp only[Bool.or_eq_true,beq_iff_eq];rcases hc with hc|hc
 ·exact .inl (UInt8.toNat_inj.1 hc)
 ·exact .inr hc
theorem wdN_next (s:QY) (i:Nat) (h:i<s.size) (h1:s[i].toNat≠44) (h2:isC (s[i].toNat:Int) 6=false):wdN (s.data.toList.drop i)=wdN (s.data.toList.drop (i+1))+1:=by
 rw[qcj s i h,wdN,if_neg];simp only[Bool.or_eq_true,beq_iff_eq,not_or];exact⟨fun e=>h1 (by rw[e];rfl),by rw[h2];simp⟩
theorem qhc {R:Ending→World→Prop} (tmps:Array Value) (W:World) (v2 v3 v4:Value) (h2:tmps.getD 2 undef=v2) (h3:tmps.getD 3 undef=v3) (h4:tmps.getD 4 undef=v4) (hR:R (.returned (.tuple #[v2,v3,v4])) W):bodyPost Tryz.prog Tryz.f31 R .ret { tmps:=tmps,defers:=[] } W:=by
 rw[Array.getD_eq_getD_getElem?]at h2 h3 h4;refine⟨rfl,_,?_,hR⟩;simp[results,Tryz.results31,go_sem,h2,h3,h4]
 try rfl
theorem qpt (l:QB):skL l 0=qn 6 l:=by unfold skL;simp
theorem qwz (s:QY) (w:World) (hs:256<s.size):Calls Tryz.prog 31 #[.string s] w (qgk (pyL s.data.toList) w):=by
 have hP:pyL s.data.toList=(12,256,[]):=by unfold pyL;rw[if_pos (by rw[qg];omega)]
 rw[hP];have hs':(256:Int)<(s.size:Int):=by omega
 go_enter Tryz.func31,Tryz.ntmps31
 (go_wp2_with fail);refine qhc _ _ _ _ _ rfl rfl rfl ?_;exact⟨qbtn _ _,_,rfl,PyAt.nil _,qcp _⟩
theorem qbbs (s:QY) (w:World) (hs:s.size≤256) (h0:qn 6 s.data.toList=s.size):Calls Tryz.prog 31 #[.string s] w (qgk (pyL s.data.toList) w):=by
 have hs':¬ (256:Int)<(s.size:Int):=by omega
 have S00:=fun W=>qrn s 0 W hs (Nat.zero_le _);rw[qpt,h0]at S00;have S00:=qb S00;have hP:pyL s.data.toList=(0,0,[]):=by unfold pyL;rw[if_neg (by rw[qg];omega),if_pos (by rw[qg];exact h0)]
 rw[hP];go_enter Tryz.func31,Tryz.ntmps31
 (go_wp2_with fail);refine(S00.out _).mono ?_;rintro e w0 ⟨rfl,hw0⟩;rw[hw0];clear hw0 w0;(go_wp2_with fail);refine qhc _ _ _ _ _ rfl rfl rfl ?_;exact⟨qbtn _ _,_,rfl,PyAt.nil _,qcp _⟩
theorem qbht (s:QY) (w:World) (hs:s.size≤256) (h0:qn 6 s.data.toList≠s.size):Calls Tryz.prog 31 #[.string s] w (qgk (pyL s.data.toList) w):=by
 have hs':¬ (256:Int)<(s.size:Int):=by omega
 have S00:=fun W=>qrn s 0 W hs (Nat.zero_le _);rw[qpt]at S00;replace S00:=qb S00;have SK:=qb (fun (c:Nat) (hc:c≤s.size) (W:World)=>qrn s c W hs hc);have OPC:=qb (fun (c:Nat) (hc:c≤s.size) (W:World)=>Rop_any s c W hs hc);have BL:=qb (fun c W=>qwh c W);have h00:(((qn 6 s.data.toList:Nat):Int)==(s.size:Int))=false:=by simp;omega
 have hr0:qn 6 s.data.toList≤s.size:=by have:=qgj s.data.toList 0 (Nat.zero_le _);rw[qpt,qg]at this;exact this.2
 have HM:Hid (∀ i,misL s.data.toList.length i≠0):=qb fun i=>by unfold misL;split<;>decide
 have hG:pyL s.data.toList=pyGo s.data.toList 33 (qn 6 s.data.toList) []:=by
  rw[←qpt,qbpj];unfold pyL;rw[if_neg (by rw[qg];omega),if_neg (by rw[qg];exact h0)]
 generalize pyL s.data.toList=G at *;have HG:=qb hG;clear hG;obtain⟨i0,hi0,hz0,hz1,hz2⟩:=info_parts info32;generalize qn 6 s.data.toList=r0 at *;go_enter Tryz.func31,Tryz.ntmps31
 (go_wp2_with fail);refine(S00.out _).mono ?_;rintro e w0 ⟨rfl,hw0⟩;rw[hw0];clear hw0 w0;(go_wp2_with fail);go_loopw [5,6] (fun x y wr=>∃ (n c:Nat) (acc:List Cl),n+acc.length=33∧acc.length≤32∧c≤s.size∧y=.int .i64 c∧Hid (G=pyGo s.data.toList n c acc)∧Hid (wr.ownsRow w.heap.size 32 3 x acc.length (acc.flatMap plL))∧Below w.heap.size w wr) (fun _ y _=>s.size+1-(intOf y).toNat)
 case atStart=>exact⟨33,r0,[],rfl,by simp,hr0,rfl,HG,qb (World.ownsRow_nil _ _ _ _),qbtn _ _⟩
 case round =>
  obtain⟨n,c,acc,hn,hacc,hc,rfl,HC0,HOW,hbl⟩:=hrel;obtain⟨m,rfl⟩:∃ m,n=m+1:=⟨n-1,by omega⟩
  have hq:=qgj s.data.toList c (by rw[qg];exact hc)
  rw[qg]at hq;have S1:=qb (SK.out c hc);have O1:=OPC.out (skL s.data.toList c) hq.2;obtain⟨hd1,hd2⟩:=dop_op (s.data.toList.drop (skL s.data.toList c));rw[hd1]at O1 hd2;have hC1:G=qlf s.data.toList m acc (skL s.data.toList c) (clP s.data.toList (skL s.data.toList c)):=HC0.out;have hol:=qhm (s.data.toList.drop (skL s.data.toList c)) 8 (by omega)
  rw[List.length_drop,qg]at hol;generalize skL s.data.toList c=q at *;obtain⟨ao,co,rfl,_⟩:=qcl HOW.out;clear HC0 S00
  by_cases hmany:acc.length=32∧q<s.size
  ·obtain⟨h32,hql⟩:=hmany;have hlt:(q:Int)<(s.size:Int):=by omega
   have h32':((acc.length:Int)==32)=true:=by rw[h32];rfl
   have HX:=qb (hC1.trans (qbqd h32 (by rw[qg];exact hql)))
   clear hC1 O1 hd1 hd2 hol;(go_wp2_with fail);refine(S1.out _).mono ?_;rintro e w0 ⟨rfl,hw0⟩;rw[hw0];clear hw0 w0;(go_wp2_with fail);refine qhc _ _ _ _ _ rfl rfl rfl ?_;rw[HX.out];exact⟨hbl,_,rfl,PyAt.nil _,qcp _⟩
  ·have HA : Hid (¬(acc.length=32∧q<s.data.toList.length)):=qb (by rw[qg];exact hmany)
   by_cases hql:q<s.size
   ·have hlt : (q:Int)<(s.size:Int):=by omega
    have h32':((acc.length:Int)==32)=false:=by simp;omega
    have hl3:acc.length<32:=by omega
    by_cases h8:(opGo (s.data.toList.drop q) 8).1=8
    ·rw[if_pos h8,if_pos h8]at O1;have hX:=hC1.trans (by rw[qbfd h8,qgf HA.out (HM.out _)])
     rw[hd2 h8,qg]at hX;have hdl:=dhalf_le (s.data.toList.drop q);rw[List.length_drop,qg]at hdl;rw[h8]at O1;have HN:Hid (misL s.size (q+qgs (s.data.toList.drop q))≠0):=by have:=HM.out (q+qgs (s.data.toList.drop q));rw[qg]at this;exact this
     generalize qgs (s.data.toList.drop q)=D at *;generalize misL s.size (q+D)=ML at *;obtain⟨N,hN⟩:∃ N,q+D=N:=⟨_,rfl⟩;rw[hN]at O1 hX;have HX:=qb hX;have n1:(ML==0)=false:=by have:=HN.out;simpa using this
     replace O1:=qb O1;clear hC1 hX hd1 hd2 h8 hol hN;(go_wp2_with fail);refine(S1.out _).mono ?_;rintro e w0 ⟨rfl,hw0⟩;rw[hw0];clear hw0 w0;(go_wp2_with fail);refine(O1.out _).mono ?_;rintro e w1 ⟨rfl,b1⟩;(go_wp2_with fail);refine qhc _ _ _ _ _ rfl rfl rfl ?_;rw[HX.out];exact⟨hbl.trans (b1.mono hbl.size),_,rfl,PyAt.nil _,qcp _⟩
    ·rw [if_neg h8,if_neg h8]at O1;replace h8:(opGo (s.data.toList.drop q) 8).1<8:=by omega
     generalize hk:(opGo (s.data.toList.drop q) 8).1=k at *;have HK:=qb hk;have hps:q+(sgn k).length≤s.size:=by omega
     have S2:=qb (SK.out (q+(sgn k).length) hps);have hbq:=qgj s.data.toList (q+(sgn k).length) (by rw[qg];exact hps)
     rw[qg]at hbq;generalize hb:skL s.data.toList (q+(sgn k).length)=b at *;have HB:=qb hb;have HC:=qb hC1;obtain⟨hb1,hb2⟩:=hbq;have hq1:=hq.1;replace O1:=qb O1;clear hC1 hd1 hd2 hol hk hb hq hmany;(go_wp2_with fail);refine(S1.out _).mono ?_;rintro e w0 ⟨rfl,hw0⟩;rw[hw0];clear hw0 w0;(go_wp2_with fail);refine(O1.out _).mono ?_;rintro e w1 ⟨rfl,bO⟩;replace hbl:=hbl.trans (bO.mono hbl.size);replace HOW:Hid (w1.ownsRow w.heap.size 32 3 (.slice ao acc.length co) acc.length (acc.flatMap plL)):=qb (qfm (A:=fun _=>True) HOW.out (qbq bO) (fun _ _=>trivial));clear bO O1 S1;(go_wp2_with fail);refine(S2.out _).mono ?_;rintro e w0 ⟨rfl,hw0⟩;rw[hw0];clear hw0 w0 S2;(go_wp2_with fail);go_loopw [6] (fun y wr'=>∃ i:Nat,b≤i∧i≤s.size∧y=.int .i64 i∧b+wdN (s.data.toList.drop b)=i+wdN (s.data.toList.drop i)∧wr'=w1) (fun y _=>s.size-(intOf y).toNat)
     case atStart=>exact⟨b,qbtm _,hb2,rfl,rfl,rfl⟩
     case round=>
      obtain⟨i,hbi,hi,rfl,hcc,rfl⟩:=hrel
      by_cases hin:i<s.size
      ·have hin':(i:Int)<(s.size:Int):=by omega
       have BLi:=qb (fun W=>BL.out (s[i].toNat:Int) W);cases h2:isC (s[i].toNat:Int) 6
       ·rw [h2]at BLi
        by_cases h1:s[i].toNat=44
        ·have HE:Hid (wdN (s.data.toList.drop b)=i-b):=qb (by rw[qbdn s i hin (.inl h1)]at hcc;omega)
         have hcmp:((s[i].toNat:Int) != 44)=false:=by rw[h1];rfl
         clear hcc h1 h2
         by_cases hz:i=b
         ·subst hz;have hE0:wdN (s.data.toList.drop i)=0:=by rw[HE.out];omega
          have HX:=qb (HC.out.trans (by rw[qvh h8 HK.out HB.out hE0,qgf HA.out (HM.out i)]))
          have hzz:((i:Int)==(i:Int))=true:=by simp
          clear hE0
          by_cases hl:i<s.size
          ·have hls:((i:Int)==(s.size:Int))=false:=by simp;omega
           have HM2:Hid (misL s.data.toList.length i=10):=qb (by unfold misL;rw[qg,if_neg (by omega)])
           (go_wp2_with fail);refine(BLi.out _).mono ?_;rintro e w0 ⟨rfl,hw0⟩;rw[hw0];clear hw0 w0;(go_wp2_with fail);refine qhc _ _ _ _ _ rfl rfl rfl ?_;rw[HX.out];exact⟨hbl,_,by dsimp only;rw[HM2.out];rfl,PyAt.nil _,qcp _⟩
          ·have hls:((i:Int)==(s.size:Int))=true:=by simp;omega
           have HM2:Hid (misL s.data.toList.length i=11):=qb (by unfold misL;rw[qg,if_pos (by omega)])
           (go_wp2_with fail);refine(BLi.out _).mono ?_;rintro e w0 ⟨rfl,hw0⟩;rw[hw0];clear hw0 w0;(go_wp2_with fail);refine qhc _ _ _ _ _ rfl rfl rfl ?_;rw[HX.out];exact⟨hbl,_,by dsimp only;rw[HM2.out];rfl,PyAt.nil _,qcp _⟩
         ·have hzz:((i:Int)==(b:Int))=false:=by simp;omega
          have hbi':(b:Int)≤(i:Int):=by omega
          have hi':(i:Int)≤(s.size:Int):=by omega
          have hE0:wdN (s.data.toList.drop b)≠0:=by rw[HE.out];omega
          have RW:=fun W=>qms k h8 (s.extract b i) b W (by rw[ByteArray.size_extract];omega) (by omega)
          rw[qdd]at RW;have hbz:b+wdN (s.data.toList.drop b)=i:=by rw[HE.out];omega
          cases hw:wdR k (seg s.data.toList b i)with
          | bad er p=>
           rw[hw]at RW;have hne:=qzz hw;have HX:=qb (HC.out.trans (by rw[qbcv h8 HK.out HB.out hE0 (by rw[hbz];exact hw),qgf HA.out hne]))
           have n1:(er==0)=false:=by simpa using hne
           unfold wdT zer3 at RW;have RW:=qb RW;clear hw hE0 hne;(go_wp2_with fail);refine(BLi.out _).mono ?_;rintro e w0 ⟨rfl,hw0⟩;rw[hw0];clear hw0 w0;(go_wp2_with fail);refine(RW.out _).mono ?_;rintro e w1 ⟨rfl,b1⟩;(go_wp2_with fail);refine qhc _ _ _ _ _ rfl rfl rfl ?_;rw[HX.out];exact⟨hbl.trans ((b1.mono hbl.size).alloc (qbtt hbl.size b1.size) _),_,rfl,PyAt.nil _,qcp _⟩
          | ok x t st=>
           rw[hw]at RW;have hX:=qtv h8 HK.out HB.out hE0 (by rw[hbz];exact hw) rfl
           rw[hbz]at hX;rw[hX]at HC;unfold wdT at RW;dsimp only at RW;have RW:=qb RW;have S3:=qb (SK.out i (by omega))
           have hz3:=qgj s.data.toList i (by rw[qg];omega)
           rw[qg]at hz3;generalize skL s.data.toList i=z at *;clear hw hE0 hX;have hsz:s.data.toList.length=s.size:=qg s
           by_cases hze:z=s.size
           ·have hXe:(if z<s.data.toList.length∧s.data.toList[z]?≠some 44 then (10:Int) else 0)=0:=if_neg (by omega)
            rw[hXe]at HC;have hzb:((z:Int)==(s.size:Int))=true:=by simp;omega
            generalize hXX:(⟨k,x,t,st,q,z,0⟩:Cl)=X at *;have HXX:=qb hXX;clear hXX;have HG2:=qb (HC.out.trans (qvd HA.out (by rw[←HXX.out]) (by rw[←HXX.out];dsimp only;omega)))
            (go_wp2_with fail);refine(BLi.out _).mono ?_;rintro e w0 ⟨rfl,hw0⟩;rw[hw0];clear hw0 w0;(go_wp2_with fail);refine(RW.out _).mono ?_;rintro e w1 ⟨rfl,b1⟩;have n0:=qbtk w1 (.cells #[.string (qd (sgn k)),.string (qd t),.bool st] 32);have c0:=qc 0 n0 rfl;have c1:=qc 1 n0 rfl;have c2:=qc 2 n0 rfl;have hbA:Below w1.heap.size w1 ((w1.alloc (.cells #[.string (qd (sgn k)),.string (qd t),.bool st] 32)).alloc (.cells #[.string (qd (sgn k)),.string (qd t),.bool st] 32)):=((qbtn _ w1).alloc (qbtm _) _).alloc (by simp) _
            have HBW:=qb ((hbl.trans (b1.mono hbl.size)).trans (hbA.mono (qbtt hbl.size b1.size)));have HUA:=qb (qfm (A:=fun _=>True) HOW.out ((qbq b1).trans (qbq hbA)) (fun _ _=>trivial));have HNW:Hid (∀ j u,(plL X)[j]? = some u→((w1.alloc (.cells #[.string (qd (sgn k)),.string (qd t),.bool st] 32)).alloc (.cells #[.string (qd (sgn k)),.string (qd t),.bool st] 32)).cell? ((⟨w1.heap.size+1,0,none⟩:Addr).add j)=some u):=qb (by rw[←HXX.out];intro j u h;have:=qjh (w1.alloc (.cells #[.string (qd (sgn k)),.string (qd t),.bool st] 32)) #[.string (qd (sgn k)),.string (qd t),.bool st] 32 j u h;simpa using this)
            clear n0 b1 hbA;go_wp2_with (at_builtin;refine wpList_append_own _ rfl _ _ 22 rfl w.heap.size 32 i0 (.agg #[.string ⟨#[]⟩,.string ⟨#[]⟩,.bool false]) 3 40 Tryz.underlying22 hi0 hz0 hz1 hz2 rfl (by decide) _ _ _ rfl HUA.out ⟨w1.heap.size+1,0,none⟩ 1 1 (plL X) rfl rfl HNW.out (qkj X) (by unfold maxLen;omega) (by omega) HBW.out.size ?_;intro v' w3 hown' hgrow _;have HB3:=qb (HBW.out.trans (qcv HUA.out HBW.out.size hgrow));have HO3:Hid (w3.ownsRow w.heap.size 32 3 v' (acc++[X]).length ((acc++[X]).flatMap plL)):=qb (by simpa[List.flatMap_append] using hown');obtain⟨av,cv,rfl⟩:∃ a c,v'=.slice a (acc.length+1) c:=(by obtain⟨a,c,h,_⟩:=qcl hown';exact⟨a,c,h⟩);clear hown' hgrow)
            refine(S3.out _).mono ?_;rintro e w9 ⟨rfl,hw9⟩;rw[hw9];clear hw9 w9;(go_wp2_with fail);refine qhc _ _ _ _ _ rfl rfl rfl ?_;rw[HG2.out];exact⟨HB3.out,_,rfl,qbcw HO3.out,qlc HO3.out⟩
           ·have hzl:z<s.size:=by omega
            have hzl':(z:Int)<(s.size:Int):=by omega
            have hzb:((z:Int)==(s.size:Int))=false:=by simp;omega
            have hzs:s.data.toList[z]? = some s[z]:=by rw[List.getElem?_eq_getElem (by rw[qg];exact hzl)];rfl
            by_cases h44:s[z].toNat=44
            ·have hXe:(if z<s.data.toList.length∧s.data.toList[z]?≠some 44 then (10:Int) else 0)=0:=if_neg (fun h=>h.2 (by rw[hzs,UInt8.toNat_inj.1 (show s[z].toNat=(44:UInt8).toNat from h44)]))
             rw[hXe]at HC;have hcm:((s[z].toNat:Int) != 44)=false:=by rw[h44];rfl
             generalize hXX:(⟨k,x,t,st,q,z,0⟩:Cl)=X at *;have HXX:=qb hXX;clear hXX;have HG2:=qb (HC.out.trans (qbnb HA.out (by rw[←HXX.out]) (by rw[←HXX.out];dsimp only;omega)))
             have HZ:Hid (X.e=z):=qb (by rw[←HXX.out])
             (go_wp2_with fail);refine(BLi.out _).mono ?_;rintro e w0 ⟨rfl,hw0⟩;rw[hw0];clear hw0 w0;(go_wp2_with fail);refine(RW.out _).mono ?_;rintro e w1 ⟨rfl,b1⟩;have n0:=qbtk w1 (.cells #[.string (qd (sgn k)),.string (qd t),.bool st] 32);have c0:=qc 0 n0 rfl;have c1:=qc 1 n0 rfl;have c2:=qc 2 n0 rfl;have hbA:Below w1.heap.size w1 ((w1.alloc (.cells #[.string (qd (sgn k)),.string (qd t),.bool st] 32)).alloc (.cells #[.string (qd (sgn k)),.string (qd t),.bool st] 32)):=((qbtn _ w1).alloc (qbtm _) _).alloc (by simp) _
             have HBW:=qb ((hbl.trans (b1.mono hbl.size)).trans (hbA.mono (qbtt hbl.size b1.size)));have HUA:=qb (qfm (A:=fun _=>True) HOW.out ((qbq b1).trans (qbq hbA)) (fun _ _=>trivial));have HNW:Hid (∀ j u,(plL X)[j]? = some u→((w1.alloc (.cells #[.string (qd (sgn k)),.string (qd t),.bool st] 32)).alloc (.cells #[.string (qd (sgn k)),.string (qd t),.bool st] 32)).cell? ((⟨w1.heap.size+1,0,none⟩:Addr).add j)=some u):=qb (by rw[←HXX.out];intro j u h;have:=qjh (w1.alloc (.cells #[.string (qd (sgn k)),.string (qd t),.bool st] 32)) #[.string (qd (sgn k)),.string (qd t),.bool st] 32 j u h;simpa using this)
             clear n0 b1 hbA;go_wp2_with (at_builtin;refine wpList_append_own _ rfl _ _ 22 rfl w.heap.size 32 i0 (.agg #[.string ⟨#[]⟩,.string ⟨#[]⟩,.bool false]) 3 40 Tryz.underlying22 hi0 hz0 hz1 hz2 rfl (by decide) _ _ _ rfl HUA.out ⟨w1.heap.size+1,0,none⟩ 1 1 (plL X) rfl rfl HNW.out (qkj X) (by unfold maxLen;omega) (by omega) HBW.out.size ?_;intro v' w3 hown' hgrow _;have HB3:=qb (HBW.out.trans (qcv HUA.out HBW.out.size hgrow));have HO3:Hid (w3.ownsRow w.heap.size 32 3 v' (acc++[X]).length ((acc++[X]).flatMap plL)):=qb (by simpa[List.flatMap_append] using hown');obtain⟨av,cv,rfl⟩:∃ a c,v'=.slice a (acc.length+1) c:=(by obtain⟨a,c,h,_⟩:=qcl hown';exact⟨a,c,h⟩);clear hown' hgrow)
             refine(S3.out _).mono ?_;rintro e w9 ⟨rfl,hw9⟩;rw[hw9];clear hw9 w9;(go_wp2_with fail);go_roundw
             case rel=>exact⟨m,z+1,acc++[X],by simp;omega,by simp;omega,by omega,by go_num,qb (by rw[HG2.out,HZ.out]),HO3,HB3.out⟩
             case measure=>simp[intOf];omega
            ·have hXe:(if z<s.data.toList.length∧s.data.toList[z]?≠some 44 then (10:Int) else 0)=10:=if_pos ⟨by omega,fun h=>h44 (by rw[hzs]at h;simp only[Option.some.injEq]at h;rw[h];rfl)⟩
             rw[hXe]at HC;have hcm:((s[z].toNat:Int) != 44)=true:=by simp only[bne_iff_ne,ne_eq];omega
             generalize hXX:(⟨k,x,t,st,q,z,10⟩:Cl)=X at *;have HXX:=qb hXX;clear hXX;have HG2:=qb (HC.out.trans (qgf HA.out (by rw[←HXX.out];exact(by decide:(10:Int)≠0))))
             have HZ:Hid (X.e=z∧X.er=10):=qb (by rw[←HXX.out];exact⟨rfl,rfl⟩)
             (go_wp2_with fail);refine(BLi.out _).mono ?_;rintro e w0 ⟨rfl,hw0⟩;rw[hw0];clear hw0 w0;(go_wp2_with fail);refine(RW.out _).mono ?_;rintro e w1 ⟨rfl,b1⟩;have n0:=qbtk w1 (.cells #[.string (qd (sgn k)),.string (qd t),.bool st] 32);have c0:=qc 0 n0 rfl;have c1:=qc 1 n0 rfl;have c2:=qc 2 n0 rfl;have hbA:Below w1.heap.size w1 ((w1.alloc (.cells #[.string (qd (sgn k)),.string (qd t),.bool st] 32)).alloc (.cells #[.string (qd (sgn k)),.string (qd t),.bool st] 32)):=((qbtn _ w1).alloc (qbtm _) _).alloc (by simp) _
             have HBW:=qb ((hbl.trans (b1.mono hbl.size)).trans (hbA.mono (qbtt hbl.size b1.size)));have HUA:=qb (qfm (A:=fun _=>True) HOW.out ((qbq b1).trans (qbq hbA)) (fun _ _=>trivial));have HNW:Hid (∀ j u,(plL X)[j]? = some u→((w1.alloc (.cells #[.string (qd (sgn k)),.string (qd t),.bool st] 32)).alloc (.cells #[.string (qd (sgn k)),.string (qd t),.bool st] 32)).cell? ((⟨w1.heap.size+1,0,none⟩:Addr).add j)=some u):=qb (by rw[←HXX.out];intro j u h;have:=qjh (w1.alloc (.cells #[.string (qd (sgn k)),.string (qd t),.bool st] 32)) #[.string (qd (sgn k)),.string (qd t),.bool st] 32 j u h;simpa using this)
             clear n0 b1 hbA;go_wp2_with (at_builtin;refine wpList_append_own _ rfl _ _ 22 rfl w.heap.size 32 i0 (.agg #[.string ⟨#[]⟩,.string ⟨#[]⟩,.bool false]) 3 40 Tryz.underlying22 hi0 hz0 hz1 hz2 rfl (by decide) _ _ _ rfl HUA.out ⟨w1.heap.size+1,0,none⟩ 1 1 (plL X) rfl rfl HNW.out (qkj X) (by unfold maxLen;omega) (by omega) HBW.out.size ?_;intro v' w3 hown' hgrow _;have HB3:=qb (HBW.out.trans (qcv HUA.out HBW.out.size hgrow));have HO3:Hid (w3.ownsRow w.heap.size 32 3 v' (acc++[X]).length ((acc++[X]).flatMap plL)):=qb (by simpa[List.flatMap_append] using hown');obtain⟨av,cv,rfl⟩:∃ a c,v'=.slice a (acc.length+1) c:=(by obtain⟨a,c,h,_⟩:=qcl hown';exact⟨a,c,h⟩);clear hown' hgrow)
             refine(S3.out _).mono ?_;rintro e w9 ⟨rfl,hw9⟩;rw[hw9];clear hw9 w9;(go_wp2_with fail);refine qhc _ _ _ _ _ rfl rfl rfl ?_;rw[HG2.out,HZ.out.1,HZ.out.2];exact⟨HB3.out,_,rfl,PyAt.nil _,qcp _⟩
        ·have hcmp:((s[i].toNat:Int) != 44)=true:=by simp only[bne_iff_ne,ne_eq];omega
         have HCC:=qb (hcc.trans (by rw[wdN_next s i hin h1 h2]))
         clear hcc h1 h2;(go_wp2_with fail);refine(BLi.out _).mono ?_;rintro e w0 ⟨rfl,hw0⟩;rw[hw0];clear hw0 w0;(go_wp2_with fail);go_roundw
         case rel=>exact⟨i+1,by omega,by omega,by go_num,by have:=HCC.out;omega,by trivial⟩
         case measure=>simp[intOf];omega
       ·rw [h2]at BLi;have HE:Hid (wdN (s.data.toList.drop b)=i-b):=qb (by rw[qbdn s i hin (.inr h2)]at hcc;omega)
        clear hcc h2
        by_cases hz:i=b
        ·subst hz;have hE0:wdN (s.data.toList.drop i)=0:=by rw[HE.out];omega
         have HX:=qb (HC.out.trans (by rw[qvh h8 HK.out HB.out hE0,qgf HA.out (HM.out i)]))
         have hzz:((i:Int)==(i:Int))=true:=by simp
         clear hE0
         by_cases hl:i<s.size
         ·have hls:((i:Int)==(s.size:Int))=false:=by simp;omega
          have HM2:Hid (misL s.data.toList.length i=10):=qb (by unfold misL;rw[qg,if_neg (by omega)])
          (go_wp2_with fail);refine(BLi.out _).mono ?_;rintro e w0 ⟨rfl,hw0⟩;rw[hw0];clear hw0 w0;(go_wp2_with fail);refine qhc _ _ _ _ _ rfl rfl rfl ?_;rw[HX.out];exact⟨hbl,_,by dsimp only;rw[HM2.out];rfl,PyAt.nil _,qcp _⟩
         ·have hls:((i:Int)==(s.size:Int))=true:=by simp;omega
          have HM2:Hid (misL s.data.toList.length i=11):=qb (by unfold misL;rw[qg,if_pos (by omega)])
          (go_wp2_with fail);refine(BLi.out _).mono ?_;rintro e w0 ⟨rfl,hw0⟩;rw[hw0];clear hw0 w0;(go_wp2_with fail);refine qhc _ _ _ _ _ rfl rfl rfl ?_;rw[HX.out];exact⟨hbl,_,by dsimp only;rw[HM2.out];rfl,PyAt.nil _,qcp _⟩
        ·have hzz:((i:Int)==(b:Int))=false:=by simp;omega
         have hbi':(b:Int)≤(i:Int):=by omega
         have hi':(i:Int)≤(s.size:Int):=by omega
         have hE0:wdN (s.data.toList.drop b)≠0:=by rw[HE.out];omega
         have RW:=fun W=>qms k h8 (s.extract b i) b W (by rw[ByteArray.size_extract];omega) (by omega)
         rw[qdd]at RW;have hbz:b+wdN (s.data.toList.drop b)=i:=by rw[HE.out];omega
         cases hw:wdR k (seg s.data.toList b i)with
         | bad er p=>
          rw[hw]at RW;have hne:=qzz hw;have HX:=qb (HC.out.trans (by rw[qbcv h8 HK.out HB.out hE0 (by rw[hbz];exact hw),qgf HA.out hne]))
          have n1:(er==0)=false:=by simpa using hne
          unfold wdT zer3 at RW;have RW:=qb RW;clear hw hE0 hne;(go_wp2_with fail);refine(BLi.out _).mono ?_;rintro e w0 ⟨rfl,hw0⟩;rw[hw0];clear hw0 w0;(go_wp2_with fail);refine(RW.out _).mono ?_;rintro e w1 ⟨rfl,b1⟩;(go_wp2_with fail);refine qhc _ _ _ _ _ rfl rfl rfl ?_;rw[HX.out];exact⟨hbl.trans ((b1.mono hbl.size).alloc (qbtt hbl.size b1.size) _),_,rfl,PyAt.nil _,qcp _⟩
         | ok x t st=>
          rw[hw]at RW;have hX:=qtv h8 HK.out HB.out hE0 (by rw[hbz];exact hw) rfl
          rw[hbz]at hX;rw[hX]at HC;unfold wdT at RW;dsimp only at RW;have RW:=qb RW;have S3:=qb (SK.out i (by omega))
          have hz3:=qgj s.data.toList i (by rw[qg];omega)
          rw[qg]at hz3;generalize skL s.data.toList i=z at *;clear hw hE0 hX;have hsz:s.data.toList.length=s.size:=qg s
          by_cases hze:z=s.size
          ·have hXe:(if z<s.data.toList.length∧s.data.toList[z]?≠some 44 then (10:Int) else 0)=0:=if_neg (by omega)
           rw[hXe]at HC;have hzb:((z:Int)==(s.size:Int))=true:=by simp;omega
           generalize hXX:(⟨k,x,t,st,q,z,0⟩:Cl)=X at *;have HXX:=qb hXX;clear hXX;have HG2:=qb (HC.out.trans (qvd HA.out (by rw[←HXX.out]) (by rw[←HXX.out];dsimp only;omega)))
           (go_wp2_with fail);refine(BLi.out _).mono ?_;rintro e w0 ⟨rfl,hw0⟩;rw[hw0];clear hw0 w0;(go_wp2_with fail);refine(RW.out _).mono ?_;rintro e w1 ⟨rfl,b1⟩;have n0:=qbtk w1 (.cells #[.string (qd (sgn k)),.string (qd t),.bool st] 32);have c0:=qc 0 n0 rfl;have c1:=qc 1 n0 rfl;have c2:=qc 2 n0 rfl;have hbA:Below w1.heap.size w1 ((w1.alloc (.cells #[.string (qd (sgn k)),.string (qd t),.bool st] 32)).alloc (.cells #[.string (qd (sgn k)),.string (qd t),.bool st] 32)):=((qbtn _ w1).alloc (qbtm _) _).alloc (by simp) _
           have HBW:=qb ((hbl.trans (b1.mono hbl.size)).trans (hbA.mono (qbtt hbl.size b1.size)));have HUA:=qb (qfm (A:=fun _=>True) HOW.out ((qbq b1).trans (qbq hbA)) (fun _ _=>trivial));have HNW:Hid (∀ j u,(plL X)[j]? = some u→((w1.alloc (.cells #[.string (qd (sgn k)),.string (qd t),.bool st] 32)).alloc (.cells #[.string (qd (sgn k)),.string (qd t),.bool st] 32)).cell? ((⟨w1.heap.size+1,0,none⟩:Addr).add j)=some u):=qb (by rw[←HXX.out];intro j u h;have:=qjh (w1.alloc (.cells #[.string (qd (sgn k)),.string (qd t),.bool st] 32)) #[.string (qd (sgn k)),.string (qd t),.bool st] 32 j u h;simpa using this)
           clear n0 b1 hbA;go_wp2_with (at_builtin;refine wpList_append_own _ rfl _ _ 22 rfl w.heap.size 32 i0 (.agg #[.string ⟨#[]⟩,.string ⟨#[]⟩,.bool false]) 3 40 Tryz.underlying22 hi0 hz0 hz1 hz2 rfl (by decide) _ _ _ rfl HUA.out ⟨w1.heap.size+1,0,none⟩ 1 1 (plL X) rfl rfl HNW.out (qkj X) (by unfold maxLen;omega) (by omega) HBW.out.size ?_;intro v' w3 hown' hgrow _;have HB3:=qb (HBW.out.trans (qcv HUA.out HBW.out.size hgrow));have HO3:Hid (w3.ownsRow w.heap.size 32 3 v' (acc++[X]).length ((acc++[X]).flatMap plL)):=qb (by simpa[List.flatMap_append] using hown');obtain⟨av,cv,rfl⟩:∃ a c,v'=.slice a (acc.length+1) c:=(by obtain⟨a,c,h,_⟩:=qcl hown';exact⟨a,c,h⟩);clear hown' hgrow)
           refine(S3.out _).mono ?_;rintro e w9 ⟨rfl,hw9⟩;rw[hw9];clear hw9 w9;(go_wp2_with fail);refine qhc _ _ _ _ _ rfl rfl rfl ?_;rw[HG2.out];exact⟨HB3.out,_,rfl,qbcw HO3.out,qlc HO3.out⟩
          ·have hzl:z<s.size:=by omega
           have hzl':(z:Int)<(s.size:Int):=by omega
           have hzb:((z:Int)==(s.size:Int))=false:=by simp;omega
           have hzs:s.data.toList[z]? = some s[z]:=by rw[List.getElem?_eq_getElem (by rw[qg];exact hzl)];rfl
           by_cases h44:s[z].toNat=44
           ·have hXe:(if z<s.data.toList.length∧s.data.toList[z]?≠some 44 then (10:Int) else 0)=0:=if_neg (fun h=>h.2 (by rw[hzs,UInt8.toNat_inj.1 (show s[z].toNat=(44:UInt8).toNat from h44)]))
            rw[hXe]at HC;have hcm:((s[z].toNat:Int) != 44)=false:=by rw[h44];rfl
            generalize hXX:(⟨k,x,t,st,q,z,0⟩:Cl)=X at *;have HXX:=qb hXX;clear hXX;have HG2:=qb (HC.out.trans (qbnb HA.out (by rw[←HXX.out]) (by rw[←HXX.out];dsimp only;omega)))
            have HZ:Hid (X.e=z):=qb (by rw[←HXX.out])
            (go_wp2_with fail);refine(BLi.out _).mono ?_;rintro e w0 ⟨rfl,hw0⟩;rw[hw0];clear hw0 w0;(go_wp2_with fail);refine(RW.out _).mono ?_;rintro e w1 ⟨rfl,b1⟩;have n0:=qbtk w1 (.cells #[.string (qd (sgn k)),.string (qd t),.bool st] 32);have c0:=qc 0 n0 rfl;have c1:=qc 1 n0 rfl;have c2:=qc 2 n0 rfl;have hbA:Below w1.heap.size w1 ((w1.alloc (.cells #[.string (qd (sgn k)),.string (qd t),.bool st] 32)).alloc (.cells #[.string (qd (sgn k)),.string (qd t),.bool st] 32)):=((qbtn _ w1).alloc (qbtm _) _).alloc (by simp) _
            have HBW:=qb ((hbl.trans (b1.mono hbl.size)).trans (hbA.mono (qbtt hbl.size b1.size)));have HUA:=qb (qfm (A:=fun _=>True) HOW.out ((qbq b1).trans (qbq hbA)) (fun _ _=>trivial));have HNW:Hid (∀ j u,(plL X)[j]? = some u→((w1.alloc (.cells #[.string (qd (sgn k)),.string (qd t),.bool st] 32)).alloc (.cells #[.string (qd (sgn k)),.string (qd t),.bool st] 32)).cell? ((⟨w1.heap.size+1,0,none⟩:Addr).add j)=some u):=qb (by rw[←HXX.out];intro j u h;have:=qjh (w1.alloc (.cells #[.string (qd (sgn k)),.string (qd t),.bool st] 32)) #[.string (qd (sgn k)),.string (qd t),.bool st] 32 j u h;simpa using this)
            clear n0 b1 hbA;go_wp2_with (at_builtin;refine wpList_append_own _ rfl _ _ 22 rfl w.heap.size 32 i0 (.agg #[.string ⟨#[]⟩,.string ⟨#[]⟩,.bool false]) 3 40 Tryz.underlying22 hi0 hz0 hz1 hz2 rfl (by decide) _ _ _ rfl HUA.out ⟨w1.heap.size+1,0,none⟩ 1 1 (plL X) rfl rfl HNW.out (qkj X) (by unfold maxLen;omega) (by omega) HBW.out.size ?_;intro v' w3 hown' hgrow _;have HB3:=qb (HBW.out.trans (qcv HUA.out HBW.out.size hgrow));have HO3:Hid (w3.ownsRow w.heap.size 32 3 v' (acc++[X]).length ((acc++[X]).flatMap plL)):=qb (by simpa[List.flatMap_append] using hown');obtain⟨av,cv,rfl⟩:∃ a c,v'=.slice a (acc.length+1) c:=(by obtain⟨a,c,h,_⟩:=qcl hown';exact⟨a,c,h⟩);clear hown' hgrow)
            refine(S3.out _).mono ?_;rintro e w9 ⟨rfl,hw9⟩;rw[hw9];clear hw9 w9;(go_wp2_with fail);go_roundw
            case rel=>exact⟨m,z+1,acc++[X],by simp;omega,by simp;omega,by omega,by go_num,qb (by rw[HG2.out,HZ.out]),HO3,HB3.out⟩
            case measure=>simp[intOf];omega
           ·have hXe:(if z<s.data.toList.length∧s.data.toList[z]?≠some 44 then (10:Int) else 0)=10:=if_pos ⟨by omega,fun h=>h44 (by rw[hzs]at h;simp only[Option.some.injEq]at h;rw[h];rfl)⟩
            rw[hXe]at HC;have hcm:((s[z].toNat:Int) != 44)=true:=by simp only[bne_iff_ne,ne_eq];omega
            generalize hXX:(⟨k,x,t,st,q,z,10⟩:Cl)=X at *;have HXX:=qb hXX;clear hXX;have HG2:=qb (HC.out.trans (qgf HA.out (by rw[←HXX.out];exact(by decide:(10:Int)≠0))))
            have HZ:Hid (X.e=z∧X.er=10):=qb (by rw[←HXX.out];exact⟨rfl,rfl⟩)
            (go_wp2_with fail);refine(BLi.out _).mono ?_;rintro e w0 ⟨rfl,hw0⟩;rw[hw0];clear hw0 w0;(go_wp2_with fail);refine(RW.out _).mono ?_;rintro e w1 ⟨rfl,b1⟩;have n0:=qbtk w1 (.cells #[.string (qd (sgn k)),.string (qd t),.bool st] 32);have c0:=qc 0 n0 rfl;have c1:=qc 1 n0 rfl;have c2:=qc 2 n0 rfl;have hbA:Below w1.heap.size w1 ((w1.alloc (.cells #[.string (qd (sgn k)),.string (qd t),.bool st] 32)).alloc (.cells #[.string (qd (sgn k)),.string (qd t),.bool st] 32)):=((qbtn _ w1).alloc (qbtm _) _).alloc (by simp) _
            have HBW:=qb ((hbl.trans (b1.mono hbl.size)).trans (hbA.mono (qbtt hbl.size b1.size)));have HUA:=qb (qfm (A:=fun _=>True) HOW.out ((qbq b1).trans (qbq hbA)) (fun _ _=>trivial));have HNW:Hid (∀ j u,(plL X)[j]? = some u→((w1.alloc (.cells #[.string (qd (sgn k)),.string (qd t),.bool st] 32)).alloc (.cells #[.string (qd (sgn k)),.string (qd t),.bool st] 32)).cell? ((⟨w1.heap.size+1,0,none⟩:Addr).add j)=some u):=qb (by rw[←HXX.out];intro j u h;have:=qjh (w1.alloc (.cells #[.string (qd (sgn k)),.string (qd t),.bool st] 32)) #[.string (qd (sgn k)),.string (qd t),.bool st] 32 j u h;simpa using this)
            clear n0 b1 hbA;go_wp2_with (at_builtin;refine wpList_append_own _ rfl _ _ 22 rfl w.heap.size 32 i0 (.agg #[.string ⟨#[]⟩,.string ⟨#[]⟩,.bool false]) 3 40 Tryz.underlying22 hi0 hz0 hz1 hz2 rfl (by decide) _ _ _ rfl HUA.out ⟨w1.heap.size+1,0,none⟩ 1 1 (plL X) rfl rfl HNW.out (qkj X) (by unfold maxLen;omega) (by omega) HBW.out.size ?_;intro v' w3 hown' hgrow _;have HB3:=qb (HBW.out.trans (qcv HUA.out HBW.out.size hgrow));have HO3:Hid (w3.ownsRow w.heap.size 32 3 v' (acc++[X]).length ((acc++[X]).flatMap plL)):=qb (by simpa[List.flatMap_append] using hown');obtain⟨av,cv,rfl⟩:∃ a c,v'=.slice a (acc.length+1) c:=(by obtain⟨a,c,h,_⟩:=qcl hown';exact⟨a,c,h⟩);clear hown' hgrow)
            refine(S3.out _).mono ?_;rintro e w9 ⟨rfl,hw9⟩;rw[hw9];clear hw9 w9;(go_wp2_with fail);refine qhc _ _ _ _ _ rfl rfl rfl ?_;rw[HG2.out,HZ.out.1,HZ.out.2];exact⟨HB3.out,_,rfl,PyAt.nil _,qcp _⟩
      ·have hin':¬ (i:Int)<(s.size:Int):=by omega
       have HE:Hid (wdN (s.data.toList.drop b)=i-b):=qb (by rw[qdx s i (by omega),show wdN []=0 from rfl]at hcc;omega)
       clear hcc
       by_cases hz:i=b
       ·subst hz;have hE0:wdN (s.data.toList.drop i)=0:=by rw[HE.out];omega
        have HX:=qb (HC.out.trans (by rw[qvh h8 HK.out HB.out hE0,qgf HA.out (HM.out i)]))
        have hzz:((i:Int)==(i:Int))=true:=by simp
        clear hE0
        by_cases hl:i<s.size
        ·have hls:((i:Int)==(s.size:Int))=false:=by simp;omega
         have HM2:Hid (misL s.data.toList.length i=10):=qb (by unfold misL;rw[qg,if_neg (by omega)])
         (go_wp2_with fail);refine qhc _ _ _ _ _ rfl rfl rfl ?_;rw[HX.out];exact⟨hbl,_,by dsimp only;rw[HM2.out];rfl,PyAt.nil _,qcp _⟩
        ·have hls:((i:Int)==(s.size:Int))=true:=by simp;omega
         have HM2:Hid (misL s.data.toList.length i=11):=qb (by unfold misL;rw[qg,if_pos (by omega)])
         (go_wp2_with fail);refine qhc _ _ _ _ _ rfl rfl rfl ?_;rw[HX.out];exact⟨hbl,_,by dsimp only;rw[HM2.out];rfl,PyAt.nil _,qcp _⟩
       ·have hzz:((i:Int)==(b:Int))=false:=by simp;omega
        have hbi':(b:Int)≤(i:Int):=by omega
        have hi':(i:Int)≤(s.size:Int):=by omega
        have hE0:wdN (s.data.toList.drop b)≠0:=by rw[HE.out];omega
        have RW:=fun W=>qms k h8 (s.extract b i) b W (by rw[ByteArray.size_extract];omega) (by omega)
        rw[qdd]at RW;have hbz:b+wdN (s.data.toList.drop b)=i:=by rw[HE.out];omega
        cases hw:wdR k (seg s.data.toList b i)with
        | bad er p=>
         rw[hw]at RW;have hne:=qzz hw;have HX:=qb (HC.out.trans (by rw[qbcv h8 HK.out HB.out hE0 (by rw[hbz];exact hw),qgf HA.out hne]))
         have n1:(er==0)=false:=by simpa using hne
         unfold wdT zer3 at RW;have RW:=qb RW;clear hw hE0 hne;(go_wp2_with fail);refine(RW.out _).mono ?_;rintro e w1 ⟨rfl,b1⟩;(go_wp2_with fail);refine qhc _ _ _ _ _ rfl rfl rfl ?_;rw[HX.out];exact⟨hbl.trans ((b1.mono hbl.size).alloc (qbtt hbl.size b1.size) _),_,rfl,PyAt.nil _,qcp _⟩
        | ok x t st=>
         rw[hw]at RW;have hX:=qtv h8 HK.out HB.out hE0 (by rw[hbz];exact hw) rfl
         rw[hbz]at hX;rw[hX]at HC;unfold wdT at RW;dsimp only at RW;have RW:=qb RW;have S3:=qb (SK.out i (by omega))
         have hz3:=qgj s.data.toList i (by rw[qg];omega)
         rw[qg]at hz3;generalize skL s.data.toList i=z at *;clear hw hE0 hX;have hsz:s.data.toList.length=s.size:=qg s
         by_cases hze:z=s.size
         ·have hXe:(if z<s.data.toList.length∧s.data.toList[z]?≠some 44 then (10:Int) else 0)=0:=if_neg (by omega)
          rw[hXe]at HC;have hzb:((z:Int)==(s.size:Int))=true:=by simp;omega
          generalize hXX:(⟨k,x,t,st,q,z,0⟩:Cl)=X at *;have HXX:=qb hXX;clear hXX;have HG2:=qb (HC.out.trans (qvd HA.out (by rw[←HXX.out]) (by rw[←HXX.out];dsimp only;omega)))
          (go_wp2_with fail);refine(RW.out _).mono ?_;rintro e w1 ⟨rfl,b1⟩;have n0:=qbtk w1 (.cells #[.string (qd (sgn k)),.string (qd t),.bool st] 32);have c0:=qc 0 n0 rfl;have c1:=qc 1 n0 rfl;have c2:=qc 2 n0 rfl;have hbA:Below w1.heap.size w1 ((w1.alloc (.cells #[.string (qd (sgn k)),.string (qd t),.bool st] 32)).alloc (.cells #[.string (qd (sgn k)),.string (qd t),.bool st] 32)):=((qbtn _ w1).alloc (qbtm _) _).alloc (by simp) _
          have HBW:=qb ((hbl.trans (b1.mono hbl.size)).trans (hbA.mono (qbtt hbl.size b1.size)));have HUA:=qb (qfm (A:=fun _=>True) HOW.out ((qbq b1).trans (qbq hbA)) (fun _ _=>trivial));have HNW:Hid (∀ j u,(plL X)[j]? = some u→((w1.alloc (.cells #[.string (qd (sgn k)),.string (qd t),.bool st] 32)).alloc (.cells #[.string (qd (sgn k)),.string (qd t),.bool st] 32)).cell? ((⟨w1.heap.size+1,0,none⟩:Addr).add j)=some u):=qb (by rw[←HXX.out];intro j u h;have:=qjh (w1.alloc (.cells #[.string (qd (sgn k)),.string (qd t),.bool st] 32)) #[.string (qd (sgn k)),.string (qd t),.bool st] 32 j u h;simpa using this)
          clear n0 b1 hbA;go_wp2_with (at_builtin;refine wpList_append_own _ rfl _ _ 22 rfl w.heap.size 32 i0 (.agg #[.string ⟨#[]⟩,.string ⟨#[]⟩,.bool false]) 3 40 Tryz.underlying22 hi0 hz0 hz1 hz2 rfl (by decide) _ _ _ rfl HUA.out ⟨w1.heap.size+1,0,none⟩ 1 1 (plL X) rfl rfl HNW.out (qkj X) (by unfold maxLen;omega) (by omega) HBW.out.size ?_;intro v' w3 hown' hgrow _;have HB3:=qb (HBW.out.trans (qcv HUA.out HBW.out.size hgrow));have HO3:Hid (w3.ownsRow w.heap.size 32 3 v' (acc++[X]).length ((acc++[X]).flatMap plL)):=qb (by simpa[List.flatMap_append] using hown');obtain⟨av,cv,rfl⟩:∃ a c,v'=.slice a (acc.length+1) c:=(by obtain⟨a,c,h,_⟩:=qcl hown';exact⟨a,c,h⟩);clear hown' hgrow)
          refine(S3.out _).mono ?_;rintro e w9 ⟨rfl,hw9⟩;rw[hw9];clear hw9 w9;(go_wp2_with fail);refine qhc _ _ _ _ _ rfl rfl rfl ?_;rw[HG2.out];exact⟨HB3.out,_,rfl,qbcw HO3.out,qlc HO3.out⟩
         ·exfalso;have:=hz3.1;have:=hz3.2;omega
   ·have hlt:¬ (q:Int)<(s.size:Int):=by omega
    have hdr:=qdx s q (by omega)
    have h8:(opGo (s.data.toList.drop q) 8).1=8:=by rw[hdr];decide
    have hdh:qgs (s.data.toList.drop q)=0:=by rw[hdr];rfl
    rw[if_pos h8,if_pos h8,hdh,Nat.add_zero]at O1;have hX:=hC1.trans (by rw[qbfd h8,qgf HA.out (HM.out _)])
    rw[hd2 h8,hdh,qg,Nat.add_zero]at hX;rw[h8]at O1;have HN:Hid (misL s.size q≠0):=by have:=HM.out q;rw[qg]at this;exact this
    generalize misL s.size q=ML at *;have HX:=qb hX;have n1:(ML==0)=false:=by have:=HN.out;simpa using this
    replace O1:=qb O1;clear hC1 hX hd1 hd2 h8 hol hdr hdh;(go_wp2_with fail);refine(S1.out _).mono ?_;rintro e w0 ⟨rfl,hw0⟩;rw[hw0];clear hw0 w0;(go_wp2_with fail);refine(O1.out _).mono ?_;rintro e w1 ⟨rfl,b1⟩;(go_wp2_with fail);refine qhc _ _ _ _ _ rfl rfl rfl ?_;rw[HX.out];exact⟨hbl.trans (b1.mono hbl.size),_,rfl,PyAt.nil _,qcp _⟩
theorem qqs (s:QY) (w:World):Calls Tryz.prog 31 #[.string s] w (qgk (pyL s.data.toList) w):=by
 by_cases hs:s.size≤256
 ·by_cases h0:qn 6 s.data.toList=s.size
  ·exact qbbs s w hs h0
  ·exact qbht s w hs h0
 ·exact qwz s w (by omega)
end Go.Proofs.YtabmfdedbpmfmaaGreat
