/- Walks: a version without its local part. -/
import Derived.Test.YtabmfdedbpmfmaaGreatUJc
import Derived.Deep.Cut
import Derived.Lib.AppendZerosOnto
import Derived.Laws.Bits64b
import Derived.Laws.CopyOwn
import Derived.OwnWalk
import Derived.Test.YtabmfdedbpmfmaaGreatUGf
import Derived.Test.YtabmfdedbpmfmaaGreatUXb
import Derived.Test.YtabmfdedbpmfmaaGreatUGlb
import Derived.Test.YtabmfdedbpmfmaaGreatUZc
import Derived.Deep.OwnRows
import Derived.Laws.IdiomCopy
import Derived.Test.YtabmfdedbpmfmaaGreatUGp
import Derived.Test.YtabmfdedbpmfmaaGreatUQc
namespace Go.Proofs.YtabmfdedbpmfmaaGreat
open Go.RowKit Go.Shelf
open List renaming take_succ_eq_append_getElem → qbtn
set_option linter.unusedVariables false
set_option maxHeartbeats 4000000
set_option maxRecDepth 100000
theorem qnj (v v':Value) (qs rs:List Tri) (w:World) (h1:qgn w v qs) (h2:qgn w v' rs) (hl:qs.length≤9000000000000000000) :
  Calls Tryz.prog 11 #[v,v'] w fun e w'=>e=.returned (.bool (decide (qs=rs)))∧Below w.heap.size w w':=by
 obtain⟨a,c1,rfl,_⟩:=id h1;obtain⟨b,c2,rfl,_⟩:=id h2
 by_cases hlen:qs.length=rs.length
 ·have H1:=qb h1;have H2:=qb h2;have HL:=qb hlen;clear h1 h2;rw[←hlen];clear hlen;have hnn:((qs.length:Int) != (qs.length:Int))=false:=by simp
  go_enter Tryz.func11,Tryz.ntmps11
  (go_wp2_with fail);go_loopw [5] (fun x wr=>∃ i:Nat,i≤qs.length∧x=.int .i64 i∧Hid (qs.take i=rs.take i)∧Below w.heap.size w wr) (fun x _=>qs.length-(intOf x).toNat)
  case atStart=>exact⟨0,Nat.zero_le _,rfl,qb rfl,Below.refl _ _⟩
  case round=>
   obtain⟨i,hi,rfl,HT,hb⟩:=hrel
   by_cases hin:i<qs.length
   ·have hin':(i:Int)<(qs.length:Int):=by omega
    have hin2:i<rs.length:=by rw[←HL.out];exact hin
    obtain⟨_,_,he1,hA⟩:=(H1.out.below hb);obtain⟨_,_,he2,hB⟩:=(H2.out.below hb);obtain⟨g1,o1,hg1,_,p0,p1,p2⟩:=hA i hin;obtain⟨g2,o2,hg2,_,q0,q1,q2⟩:=hB i hin2;cases he1;cases he2;subst hg1;subst hg2;clear hA hB;have HN:Hid (qs[i]=rs[i]→qs.take (i+1)=rs.take (i+1)):=qb (fun h=>by rw[qbtn hin,qbtn hin2,HT.out,h])
    have HM:Hid (qs[i]≠rs[i]→decide (qs=rs)=false):=qb (fun h=>by simp only[decide_eq_false_iff_not];rintro rfl;exact h rfl)
    generalize qs[i]=X at *;generalize rs[i]=Y at *;obtain⟨X0,X1,X2⟩:=X;obtain⟨Y0,Y1,Y2⟩:=Y;dsimp only at p0 p1 p2 q0 q1 q2;have e0:=qld X0 Y0;have e1:=qld X1 Y1;have HX:Hid ((X0==Y0)=true∧(X1==Y1)=true∧X2=Y2→(X0,X1,X2)=(Y0,Y1,Y2)):=qb (fun ⟨a,b,c⟩=>by rw[beq_iff_eq]at a b;rw[a,b,c])
    have HY:Hid ((X0,X1,X2)=(Y0,Y1,Y2)→(X0==Y0)=true∧(X1==Y1)=true∧X2=Y2):=qb (fun h=>by cases h;simp)
    generalize (X0==Y0)=E0 at *;generalize (X1==Y1)=E1 at *;have hlt:wr.heap.size=wr.heap.size:=rfl;cases E0<;>cases E1<;>cases X2<;>cases Y2
    all_goals
     (go_wp2_with fail);go_quiet (fail)
     have hb':Below w.heap.size w (wr.drewN nq):=hb.trans ((qx _ _ _).mono hb.size);generalize wr.drewN nq=W9 at *;go_wp2_with fail
     first
      | (
       go_ret
       exact⟨by rw[HM.out (fun h=>by have:=HY.out h;simp at this)];rfl,hb'⟩)
      | (
       go_roundw
       case rel=>exact⟨i+1,by omega,by go_num,qb (HN.out (HX.out (by simp))),hb'⟩
       case measure=>simp[intOf];omega)
   ·have hin':¬ (i:Int)<(qs.length:Int):=by omega
    obtain rfl:i=qs.length:=by omega
    have HE:Hid (decide (qs=rs)=true):=qb (by have:=HT.out;rw[List.take_length,List.take_of_length_le (by rw[HL.out];omega)]at this;simp[this])
    (go_wp2_with fail);go_ret
    exact⟨by rw[HE.out];rfl,hb⟩
 ·have hnn:((qs.length:Int) != (rs.length:Int))=true:=by simp;omega
  have HE:Hid (decide (qs=rs)=false):=qb (by simp only[decide_eq_false_iff_not];rintro rfl;exact hlen rfl)
  have hne:¬ (qs.length:Int)=(rs.length:Int):=by omega
  clear h1 h2;go_enter Tryz.func11,Tryz.ntmps11
  (go_wp2_with fail);go_ret
  exact⟨by rw[HE.out];rfl,Below.refl _ _⟩
theorem qxk (t:QB):∀ ts:List QB,Lib.join (ts++[t]) [44]=if ts=[] then t else Lib.join ts [44]++44::t
 | []=>by simp[Lib.join,List.intercalate]
 | [u]=>by simp[Lib.join,List.intercalate]
 | u::x::r=>by
  have ih:=qxk t (x::r);rw[if_neg (by simp)]at ih ⊢
  unfold Lib.join at ih ⊢;simp only[List.cons_append,List.intercalate]at ih ⊢;rw[List.intersperse_cons_cons,List.flatten_cons,List.flatten_cons,ih,List.intersperse_cons_cons,List.flatten_cons,List.flatten_cons];simp
theorem qbkn (qs:List Tri) (q:Tri):qdv (qs++[q])=(if qs.length=0 then qdv qs else qdv qs++[44])++wrT q:=by
 unfold qdv;rw[List.map_append,List.map_singleton,qxk];cases qs with
 | nil=>simp[Lib.join,List.intercalate]
 | cons x r=>simp
theorem qbkh {qs:List Tri} (h:qgm qs) (i:Nat):qgm (qs.take i):=⟨by rw[List.length_take];have:=h.1;omega,fun q hq=>h.2 q (List.mem_of_mem_take hq)⟩
theorem qbqd (qs:List Tri) (hs:qgm qs) (i:Nat) (hi:i<qs.length) (A:QY) (hA:A=qd (qdv (qs.take i))) :
  ∃ A1 A2 A3 A4,(i≠0→Op.stringOp .add A ⟨#[44]⟩=pure (.string A1))∧(i=0→A1=A)∧Op.stringOp .add A1 (qd qs[i].1)=pure (.string A2)∧Op.stringOp .add A2 (qd qs[i].2.1)=pure (.string A3)∧Op.stringOp .add A3 ⟨#[46,42]⟩=pure (.string A4) ∧
   (qs[i].2.2=false→A3=qd (qdv (qs.take (i+1))))∧(qs[i].2.2=true→A4=qd (qdv (qs.take (i+1)))):=by
 have h1:=qbgs (qbkh hs i);have h2:=hs.2 qs[i] (List.getElem_mem hi);have hj:qdv (qs.take (i+1))=(if i=0 then qdv (qs.take i) else qdv (qs.take i)++[44])++wrT qs[i]:=by
  rw[qbtn hi,qbkn,List.length_take,Nat.min_eq_left (by omega)]
 rw[hj];clear hj;subst hA;generalize qdv (qs.take i)=P at *;generalize qs[i]=q at *;obtain⟨X0,X1,X2⟩:=q;dsimp only at *;have hB:(if i=0 then P else P++[44]).length≤P.length+1:=by split<;>simp
 refine⟨qd (if i=0 then P else P++[44]),qd ((if i=0 then P else P++[44])++X0),qd ((if i=0 then P else P++[44])++X0++X1),qd ((if i=0 then P else P++[44])++X0++X1++[46,42]),fun h=>?_,fun h=>by rw[if_pos h],?_,?_,?_,fun h=>?_,fun h=>?_⟩
 ·rw[if_neg h];exact qng _ _ _ (qmw P [44]) (by rw[qn];show _+1≤_;omega)
 ·exact qng _ _ _ (qmw _ _) (by rw[qn,qn];omega)
 ·exact qng _ _ _ (qmw _ _) (by rw[qn,qn,List.length_append];omega)
 ·exact qng _ _ _ (qmw _ [46,42]) (by rw[qn,List.length_append,List.length_append];show _+2≤_;omega)
 ·subst h;simp[wrT,qxz]
 ·subst h;simp[wrT,qxz]
theorem qwd (v:Value) (qs:List Tri) (w:World) (hv:qgn w v qs) (hs:qgm qs) :
  Calls Tryz.prog 34 #[v] w fun e w'=>e=.returned (.string (qd (qdv qs)))∧Below w.heap.size w w':=by
 obtain⟨a,c,rfl,_⟩:=id hv;have HV:=qb hv;have HS:=qb hs;have hn:=hs.1;clear hv hs;go_enter Tryz.func34,Tryz.ntmps34
 (go_wp2_with fail);go_loopw [3,4] (fun y x wr=>∃ (i:Nat) (A:QY),i≤qs.length∧x=.int .i64 i∧y=.string A∧Hid (A=qd (qdv (qs.take i)))∧Below w.heap.size w wr) (fun _ x _=>qs.length-(intOf x).toNat)
 case atStart=>exact⟨0,_,Nat.zero_le _,rfl,rfl,qb rfl,Below.refl _ _⟩
 case round=>
  obtain⟨i,A,hin,rfl,rfl,HA,hB⟩:=hrel
  by_cases hlt:i<qs.length
  ·have hlt':(i:Int)<(qs.length:Int):=by omega
   obtain⟨_,_,he,hA⟩:=(HV.out.below hB);obtain⟨g1,o1,ha,hg,p0,p1,p2⟩:=hA i hlt;cases he;subst ha;obtain⟨A1,A2,A3,A4,ad0,hA1,ad1,ad2,ad3,hf,ht⟩:=qbqd qs HS.out i hlt A HA.out;have HF:=qb hf;have HTT:=qb ht;clear hA hf ht HA;generalize qs[i]=q at *;obtain⟨X0,X1,X2⟩:=q;dsimp only at *
   by_cases h0:i=0
   ·subst h0;obtain rfl:=hA1 rfl;clear ad0;simp only[Nat.zero_mul,Nat.add_zero]at p0 p1 p2;cases X2
    all_goals
     (go_wp2_with fail);go_quiet (fail)
     have hb':Below w.heap.size w (wr.drewN nq):=hB.trans ((qx _ _ _).mono hB.size);have p2':(wr.drewN nq).cell? ⟨g1,o1+2,none⟩=_:=p2;generalize wr.drewN nq=W9 at *;(go_wp2_with fail);go_roundw
     case rel=>exact⟨1,_,by omega,by go_num,rfl,qb (by first|exact HF.out rfl|exact HTT.out rfl|exact HF.out (by simp)|exact HTT.out (by simp)),hb'⟩
     case measure=>simp[intOf];omega
   ·have ad0':=ad0 h0;have hpos:(0:Int)<(i:Int):=by omega
    clear ad0 hA1;cases X2
    all_goals
     (go_wp2_with fail);go_quiet (fail)
     have hb':Below w.heap.size w (wr.drewN nq):=hB.trans ((qx _ _ _).mono hB.size);have p2':(wr.drewN nq).cell? ⟨g1,o1+i*3+2,none⟩=_:=p2;generalize wr.drewN nq=W9 at *;(go_wp2_with fail);go_roundw
     case rel=>exact⟨i+1,_,by omega,by go_num,rfl,qb (by first|exact HF.out rfl|exact HTT.out rfl|exact HF.out (by simp)|exact HTT.out (by simp)),hb'⟩
     case measure=>simp[intOf];omega
  ·have hlt':¬ (i:Int)<(qs.length:Int):=by omega
   obtain rfl:i=qs.length:=by omega
   have HA2:Hid (A=qd (qdv qs)):=qb (by have:=HA.out;rwa [List.take_length]at this)
   (go_wp2_with fail);go_ret
   exact⟨by rw[←HA2.out];rfl,hB⟩
open List renaming getElem_mem → qbtr
open Go.RowKit renaming Below → QE
set_option maxHeartbeats 4000000
set_option maxRecDepth 100000
theorem qqb {α : Type} (P:α→Bool) (l:List α) (i:Nat) (h:i<l.length):(l.take (i+1)).any P=((l.take i).any P||P l[i]):=by
 rw[List.take_succ_eq_append_getElem h,List.any_append];simp
theorem qkb {α : Type} (P:α→Bool) (l:List α) (i:Nat) (h:i<l.length) (hp:P l[i]=true):l.any P=true:=List.any_eq_true.2 ⟨l[i],qbtr _,hp⟩
theorem qbdg (P:It→Bool) (Z:Nat) (v:Value) (its:List It) (w:World) (hv:ClsV Z w v its) (hl:its.length≤33)
  (H:∀ x∈its,∀ W,QE w.heap.size w W→(∃ A,TxC A W x)→Calls Tryz.prog 46 #[.agg (clV x.1 x.2.1 x.2.2)] W fun e W'=>e=.returned (.bool (P x))∧QE W.heap.size W W') :
  Calls Tryz.prog 101 #[v,.func (.func 46) #[] #[]] w fun e w'=>∃ z:Int,e=.returned (.int .i64 z)∧decide (0≤z)=its.any P∧QE w.heap.size w w':=by
 obtain⟨a,c,rfl,_⟩:=hv.at_;have HV:=qb hv;have HH:=qb H;clear hv H;go_enter Tryz.func101,Tryz.ntmps101
 (go_wp2_with fail);go_loopw [8] (fun x wr=>∃ i:Nat,i≤its.length∧x=.int .i64 (i:Int)∧Hid ((its.take i).any P=false)∧QE w.heap.size w wr) (fun x _=>its.length-(intOf x).toNat)
 case atStart=>exact⟨0,Nat.zero_le _,rfl,rfl,Below.refl _ _⟩
 case round=>
  obtain⟨i,hi,rfl,HN,hb⟩:=hrel
  by_cases hin:i<its.length
  ·have hin':(i:Int)<(its.length:Int):=by omega
   obtain⟨a',c',he,hA⟩:=(HV.out.below hb).at_;cases he;obtain⟨g,rfl,hr⟩:=hA i hin;have hx:=(HV.out.below hb).2 its[i] (qbtr _);have HC:=qb (HH.out its[i] (qbtr _) wr hb ⟨_,hx⟩);have HR:=qb hr;have HT:=qb (qqb P its i hin);have HF:=qb (qkb P its i hin);clear hr hA hx;go_upto_region 4 with fail
   refine wp_region_lit ?_;go_step
   go_step
   go_step
   go_step
   go_step
   go_step
   go_step
   go_step
   go_step
   go_step
   go_step
   go_step
   refine wpList_load_mid rfl 61 (.tmp 14) rfl g (i*18) rfl _ _ HR.out Tryz.underlying61 rfl qcs ?_;cases hP:P its[i]
   ·rw[hP]at HC HT;clear hP;(go_wp2_with fail);refine(HC.out).mono ?_;rintro e w2 ⟨rfl,b2⟩;have HB:=qb (hb.trans (b2.mono hb.size));clear b2;(go_wp2_with fail);go_roundw
    case rel=>exact⟨i+1,by omega,by go_num,by show _=_;rw[HT.out,HN.out];rfl,HB.out⟩
    case measure=>simp[intOf];omega
   ·rw[hP]at HC;have HF2:=qb (HF.out hP);clear hP HF;(go_wp2_with fail);refine(HC.out).mono ?_;rintro e w2 ⟨rfl,b2⟩;have HB:=qb (hb.trans (b2.mono hb.size));clear b2;(go_wp2_with fail);go_ret
    exact⟨_,rfl,by rw[HF2.out];simp,HB.out⟩
  ·have hin':¬ (i:Int)<(its.length:Int):=by omega
   obtain rfl:i=its.length:=by omega
   rw[List.take_length]at HN;(go_wp2_with fail);go_ret
   exact⟨_,rfl,by rw[HN.out];decide,hb⟩
theorem qlk (P:It→Bool) (Z:Nat) (v:Value) (its:List It) (w:World) (hv:ClsV Z w v its) (hl:its.length≤33)
  (H:∀ x∈its,∀ W,QE w.heap.size w W→(∃ A,TxC A W x)→Calls Tryz.prog 46 #[.agg (clV x.1 x.2.1 x.2.2)] W fun e W'=>e=.returned (.bool (P x))∧QE W.heap.size W W') :
  Calls Tryz.prog 78 #[v,.func (.func 46) #[] #[]] w fun e w'=>e=.returned (.bool (its.any P))∧QE w.heap.size w w':=by
 have I:=qb (qbdg P Z v its w hv hl H);obtain⟨a,c,rfl,_⟩:=hv.at_;clear hv H;go_enter Tryz.func78,Tryz.ntmps78
 (go_wp2_with fail);refine(I.out).mono ?_;rintro e w2 ⟨z,rfl,hz,b2⟩;have HZ:=qb hz;clear hz;(go_wp2_with fail);go_ret
 exact⟨by rw[←HZ.out];rfl,b2⟩
theorem qbbr (P:It→Bool) (p:Nat) (Z:Nat) (v:Value) (its:List It) (w:World) (hv:ClsV Z w v its) (hl:its.length≤33)
  (H:∀ x∈its,∀ W,QE w.heap.size w W→(∃ A,TxC A W x)→Calls Tryz.prog 79 #[.agg (clV x.1 x.2.1 x.2.2),.pointer (some ⟨p,0,none⟩)] W fun e W'=>e=.returned (.bool (P x))∧QE W.heap.size W W') :
  Calls Tryz.prog 101 #[v,.func (.func 79) #[] #[.pointer (some ⟨p,0,none⟩)]] w fun e w'=>∃ z:Int,e=.returned (.int .i64 z)∧decide (0≤z)=its.any P∧QE w.heap.size w w':=by
 obtain⟨a,c,rfl,_⟩:=hv.at_;have HV:=qb hv;have HH:=qb H;clear hv H;go_enter Tryz.func101,Tryz.ntmps101
 (go_wp2_with fail);go_loopw [8] (fun x wr=>∃ i:Nat,i≤its.length∧x=.int .i64 (i:Int)∧Hid ((its.take i).any P=false)∧QE w.heap.size w wr) (fun x _=>its.length-(intOf x).toNat)
 case atStart=>exact⟨0,Nat.zero_le _,rfl,rfl,Below.refl _ _⟩
 case round=>
  obtain⟨i,hi,rfl,HN,hb⟩:=hrel
  by_cases hin:i<its.length
  ·have hin':(i:Int)<(its.length:Int):=by omega
   obtain⟨a',c',he,hA⟩:=(HV.out.below hb).at_;cases he;obtain⟨g,rfl,hr⟩:=hA i hin;have hx:=(HV.out.below hb).2 its[i] (qbtr _);have HC:=qb (HH.out its[i] (qbtr _) wr hb ⟨_,hx⟩);have HR:=qb hr;have HT:=qb (qqb P its i hin);have HF:=qb (qkb P its i hin);clear hr hA hx;go_upto_region 4 with fail
   refine wp_region_lit ?_;go_step
   go_step
   go_step
   go_step
   go_step
   go_step
   go_step
   go_step
   go_step
   go_step
   go_step
   go_step
   refine wpList_load_mid rfl 61 (.tmp 14) rfl g (i*18) rfl _ _ HR.out Tryz.underlying61 rfl qcs ?_;cases hP:P its[i]
   ·rw[hP]at HC HT;clear hP;(go_wp2_with fail);refine(HC.out).mono ?_;rintro e w2 ⟨rfl,b2⟩;have HB:=qb (hb.trans (b2.mono hb.size));clear b2;(go_wp2_with fail);go_roundw
    case rel=>exact⟨i+1,by omega,by go_num,by show _=_;rw[HT.out,HN.out];rfl,HB.out⟩
    case measure=>simp[intOf];omega
   ·rw[hP]at HC;have HF2:=qb (HF.out hP);clear hP HF;(go_wp2_with fail);refine(HC.out).mono ?_;rintro e w2 ⟨rfl,b2⟩;have HB:=qb (hb.trans (b2.mono hb.size));clear b2;(go_wp2_with fail);go_ret
    exact⟨_,rfl,by rw[HF2.out];simp,HB.out⟩
  ·have hin':¬ (i:Int)<(its.length:Int):=by omega
   obtain rfl:i=its.length:=by omega
   rw[List.take_length]at HN;(go_wp2_with fail);go_ret
   exact⟨_,rfl,by rw[HN.out];decide,hb⟩
theorem qlj (P:It→Bool) (p:Nat) (Z:Nat) (v:Value) (its:List It) (w:World) (hv:ClsV Z w v its) (hl:its.length≤33)
  (H:∀ x∈its,∀ W,QE w.heap.size w W→(∃ A,TxC A W x)→Calls Tryz.prog 79 #[.agg (clV x.1 x.2.1 x.2.2),.pointer (some ⟨p,0,none⟩)] W fun e W'=>e=.returned (.bool (P x))∧QE W.heap.size W W') :
  Calls Tryz.prog 78 #[v,.func (.func 79) #[] #[.pointer (some ⟨p,0,none⟩)]] w fun e w'=>e=.returned (.bool (its.any P))∧QE w.heap.size w w':=by
 have I:=qb (qbbr P p Z v its w hv hl H);obtain⟨a,c,rfl,_⟩:=hv.at_;clear hv H;go_enter Tryz.func78,Tryz.ntmps78
 (go_wp2_with fail);refine(I.out).mono ?_;rintro e w2 ⟨z,rfl,hz,b2⟩;have HZ:=qb hz;clear hz;(go_wp2_with fail);go_ret
 exact⟨by rw[←HZ.out];rfl,b2⟩
set_option maxHeartbeats 4000000
set_option maxRecDepth 100000
theorem qbpz (n:Nat) (hn:n≤1048576) (w:World):Calls Tryz.prog 201 #[.int .u64 1,.int .u64 (n:Int)] w fun e w'=>e=.returned (.tuple #[.int .u64 0,.int .u64 (n:Int)])∧w'=w:=by
 have b1:bits .and .u64 1 4294967295=1:=(bits_and_u64_nat 1 4294967295 (by decide) (by decide)).trans (by decide)
 have b0:bits .and .u64 0 4294967295=0:=(bits_and_u64_nat 0 4294967295 (by decide) (by decide)).trans (by decide)
 have bn:bits .and .u64 (n:Int) 4294967295=(n:Int):=by
  refine(bits_and_u64_nat n 4294967295 (by omega) (by decide)).trans ?_
  rw[show(4294967295:Nat)=2 ^ 32-1 from rfl,Nat.and_two_pow_sub_one_eq_mod,Nat.mod_eq_of_lt (by omega)]
 have d1:(n:Int) / 4294967296=0:=by omega
 have wn:IntKind.u64.wrap (n:Int)=(n:Int):=by rw[IntKind.wrap_u64];omega
 go_enter Tryz.func201,Tryz.ntmps201
 (go_wp2_with fail);go_ret2
 exact⟨rfl,rfl⟩
theorem Mul_any (n:Nat) (hn:n≤1048576) (w:World):Calls Tryz.prog 192 #[.int .u64 1,.int .u64 (n:Int)] w fun e w'=>e=.returned (.tuple #[.int .u64 0,.int .u64 (n:Int)])∧w'=w:=by
 have M:=qb (fun W=>qbpz n hn W);go_enter Tryz.func192,Tryz.ntmps192
 (go_wp2_with fail);refine(M.out _).mono ?_;rintro e w0 ⟨rfl,hw0⟩;rw[hw0];clear hw0 w0;(go_wp2_with fail);go_ret2
 exact⟨rfl,rfl⟩
theorem info9:(Tryz.prog.info? 9).map (fun i=>(i.zero,i.size,i.bytes))=some (some (.string ⟨#[]⟩),1,16):=by kernel_rfl
theorem qbcg (w:World) (n:Nat) (ty:TypeId) (h0:0<n) (hn:n≤1048576):∃ c w',(Builtin.append_ #[37,3] ty #[.slice none 0 0,.int .i64 (n:Int)]).run Tryz.prog w=.ok (.slice (some ⟨w.heap.size,0,none⟩) n c) w'∧n≤c ∧
  w'.ownsRow w.heap.size 9 1 (.slice (some ⟨w.heap.size,0,none⟩) 0 c) 0 []∧Below w.heap.size w w':=by
 obtain ⟨i,hi,hz,hs,hb⟩:=info_parts info9;have hr:=Go.Lib.run_append_grow_zeros (P:=Tryz.prog) w 37 3 ty 9 i (.string ⟨#[]⟩) .i64 .i64 Tryz.underlying37 Tryz.underlying3 hi hz none 0 0 [] (by rw[hs];exact run_firstCells_none _ _ _ _ _) n h0 (by omega) (by omega) (by omega) (by rw[hb];omega)
  (by rw[Nat.zero_add,nextslicecap_zero h0,hb];omega)
 have hg:=grownCap_ge w (0+n) 0 9;have hm:=grownCap_le_maxLen w (0+n) 0 9 (by unfold maxLen;omega)
 rw[Nat.zero_add]at hr hg hm;refine⟨_,_,hr,hg,?_,?_⟩
 ·refine⟨rfl,.inr ⟨w.heap.size,_,_,rfl,Nat.le_refl _,World.alloc_heap_new w.drew _,Nat.zero_le _,hm,?_,by simp⟩⟩
  simp[Array.size_append,size_zeroCells,Value.cells];omega
 ·exact((Below.refl w.heap.size w).drew).alloc (Nat.le_refl _) _
theorem qnh {ops:Array Oper} {rest:List Oper} {o:Oper} {a:Act} {w:World} {Q:Exit→Act→World→Prop} (hgd:o.guard=none) (s x:Operand) (ho:o.op=.call { callee:=.builtin .append,args:=#[s,x],argTypes:=#[37,3] })
  (n:Nat) (hs:a.eval s=.slice none 0 0) (hx:a.eval x=.int .i64 (n:Int)) (h0:0<n) (hn:n≤1048576)
  (h:∀ c w',n≤c→w'.ownsRow w.heap.size 9 1 (.slice (some ⟨w.heap.size,0,none⟩) 0 c) 0 []→Below w.heap.size w w'→wpList Tryz.prog ops Q rest (a.put o.dst (.slice (some ⟨w.heap.size,0,none⟩) n c)) w'):wpList Tryz.prog ops Q (o::rest) a w:=by
 obtain⟨c,w',hr,h1,h2,h3⟩:=qbcg w n o.type h0 hn;refine wpList_plain hgd fun K hK=>?_;unfold Oper.wp;simp[execOp,ho,resolve,invoke,builtin,hs,hx,hr,Result.andThen];exact hK _ _ (h c w' h1 h2 h3)
theorem Grow_any (n:Nat) (hn:n≤1048576) (w:World):Calls Tryz.prog 191 #[.slice none 0 0,.int .i64 (n:Int)] w fun e w'=>∃ v,e=.returned v∧w'.ownsRow w.heap.size 9 1 v 0 []∧Below w.heap.size w w':=by
 have h1:¬ ((n:Int)<0):=by omega
 by_cases h0:0<n
 ·have h2:(0:Int)<(n:Int):=by omega
  go_enter Tryz.func191,Tryz.ntmps191
  go_wp2_with (at_builtin;refine qnh rfl _ _ rfl n rfl rfl h0 hn ?_;intro c w1 hc ho hb;have HO:=qb ho;have HB:=qb hb;clear ho hb)
  go_ret
  exact⟨_,rfl,HO.out,HB.out⟩
 ·have h2:¬ (0:Int)<(n:Int):=by omega
  go_enter Tryz.func191,Tryz.ntmps191
  (go_wp2_with fail);go_ret
  exact⟨_,rfl,World.ownsRow_nil _ _ _ _,Below.refl _ _⟩
set_option maxHeartbeats 4000000
set_option maxRecDepth 100000
def TxtP (W:World) (p:Addr) (ts:List QB):Prop:=∀ j u,(valT ts)[j]? = some u→W.cell? (p.add j)=some u
theorem qjr {W W':World} {b off:Nat} {ts:List QB} (h:TxtP W ⟨b,off,none⟩ ts) (hb:Below W.heap.size W W') (hlt:b<W.heap.size):TxtP W' ⟨b,off,none⟩ ts:=fun j u hj=>by
 have e:(⟨b,off,none⟩:Addr).add j=⟨b,off+j,none⟩:=by unfold Addr.add;split<;>simp_all
 rw[e,hb.cell hlt,←e];exact h j u hj
theorem qkn {ops:Array Oper} {rest:List Oper} {o:Oper} {a:Act} {w:World} {Q:Exit→Act→World→Prop} (hgd:o.guard=none) (s x:Operand) (ho:o.op=.call { callee:=.builtin .append,args:=#[s,x],argTypes:=#[37,37] })
  (base:Nat) (v:Value) (n:Nat) (xs:List Value) (hs:a.eval s=v) (hown:w.ownsRow base 9 1 v n xs) (p:Addr) (ts:List QB) (c:Nat) (hx:a.eval x=.slice (some p) ts.length c) (hp:TxtP w p ts) (hn:n+ts.length≤4194304) (qfw:base≤w.heap.size)
  (h:∀ v' w',w'.ownsRow base 9 1 v' (n+ts.length) (xs++valT ts)→w.grownBy w' v.ownBlock→wpList Tryz.prog ops Q rest (a.put o.dst v') w'):wpList Tryz.prog ops Q (o::rest) a w:=by
 obtain⟨i,hi,hz,hsz,hb⟩:=info_parts info9;refine wpList_append_own _ hgd s x 37 ho base 9 i (.string ⟨#[]⟩) 1 16 Tryz.underlying37 hi hz hsz hb rfl (by decide) v n xs hs hown p ts.length c (valT ts) hx (qvg ts) hp (qwk ts) (by unfold maxLen;omega) (by omega) qfw fun v' w' h1 h2 _=>h v' w' h1 h2
theorem qbmf (A B:List QB) (ga oa ca gb ob cb b0:Nat) (w:World) (hA:TxtP w ⟨ga,oa,none⟩ A) (hB:TxtP w ⟨gb,ob,none⟩ B) (h1:ga<w.heap.size) (h2:gb<w.heap.size)
  (c0:w.cell? ⟨b0,0,none⟩=some (.slice (some ⟨ga,oa,none⟩) A.length ca)) (c1:w.cell? ⟨b0,1,none⟩=some (.slice (some ⟨gb,ob,none⟩) B.length cb)) (hb0:b0<w.heap.size) (la:A.length≤524288) (lb:B.length≤524288) :
  Calls Tryz.prog 181 #[.slice (some ⟨b0,0,none⟩) 2 2] w fun e w'=>∃ v,e=.returned v∧w'.ownsRow w.heap.size 9 1 v (A++B).length (valT (A++B))∧Below w.heap.size w w':=by
 have HA:=qb hA;have HB:=qb hB;have GR:=fun W=>Grow_any (A.length+B.length) (by omega) W
 push_cast at GR
 replace GR:=qb GR;have hbd:(A.length:Int)+(B.length:Int)≤1048576:=by omega
 have hbd0:(0:Int)≤(A.length:Int)+(B.length:Int):=by omega
 clear hA hB;go_enter Tryz.func181,Tryz.ntmps181
 (go_wp2_with fail);go_loopw [3,11] (fun x y wr=>wr=w∧((x=.int .i64 0∧y=.int .i64 0)∨(x=.int .i64 (A.length:Int)∧y=.int .i64 1)∨(x=.int .i64 ((A.length:Int)+(B.length:Int))∧y=.int .i64 2))) (fun _ y _=>2-(intOf y).toNat)
 case atStart=>exact⟨by trivial,.inl ⟨rfl,rfl⟩⟩
 case round=>
  obtain⟨rfl,⟨rfl,rfl⟩|⟨rfl,rfl⟩|⟨rfl,rfl⟩⟩:=hrel
  ·(go_wp2_with fail);go_roundw
   case rel=>exact⟨by trivial,.inr (.inl ⟨by go_num,rfl⟩)⟩
   case measure=>simp[intOf]
  ·(go_wp2_with fail);go_roundw
   case rel=>exact⟨by trivial,.inr (.inr ⟨by go_num,rfl⟩)⟩
   case measure=>simp[intOf]
  ·(go_wp2_with fail);refine(GR.out _).mono ?_;rintro e w1 ⟨v,rfl,ho,hb⟩;have HO:=qb ho;clear ho;(go_wp2_with fail);go_loopw [6,27] (fun x y wr'=>Below wr.heap.size wr wr'∧((Hid (wr'.ownsRow wr.heap.size 9 1 x 0 [])∧y=.int .i64 0)∨(Hid (wr'.ownsRow wr.heap.size 9 1 x A.length (valT A))∧y=.int .i64 1)∨(Hid (wr'.ownsRow wr.heap.size 9 1 x (A.length+B.length) (valT A++valT B))∧y=.int .i64 2))) (fun _ y _=>2-(intOf y).toNat)
   case atStart=>exact⟨hb,.inl ⟨HO,rfl⟩⟩
   case round=>
    obtain⟨hb2,hrel2⟩:=hrel;have d0:=(hb2.cell (p:=⟨b0,0,none⟩) hb0).trans c0;have d1:=(hb2.cell (p:=⟨b0,1,none⟩) hb0).trans c1;have HA2:=qb (qjr HA.out hb2 h1);have HB2:=qb (qjr HB.out hb2 h2);obtain⟨H,rfl⟩|⟨H,rfl⟩|⟨H,rfl⟩:=hrel2
    ·go_wp2_with (at_builtin;refine qkn rfl _ _ rfl _ _ _ _ rfl H.out ⟨ga,oa,none⟩ A ca rfl HA2.out (by omega) hb2.size ?_;intro v' w5 ho' hg';have HO5:=qb ho';have HB5:=qb (hb2.trans (qcj H.out hb2.size hg'));clear ho' hg')
     go_roundw
     case rel=>exact⟨HB5.out,.inr (.inl ⟨qb (by simpa using HO5.out),rfl⟩)⟩
     case measure=>simp[intOf]
    ·go_wp2_with (at_builtin;refine qkn rfl _ _ rfl _ _ _ _ rfl H.out ⟨gb,ob,none⟩ B cb rfl HB2.out (by omega) hb2.size ?_;intro v' w5 ho' hg';have HO5:=qb ho';have HB5:=qb (hb2.trans (qcj H.out hb2.size hg'));clear ho' hg')
     go_roundw
     case rel=>exact⟨HB5.out,.inr (.inr ⟨HO5,rfl⟩)⟩
     case measure=>simp[intOf]
    ·(go_wp2_with fail);go_ret
     exact⟨_,rfl,by rw[List.length_append];simpa[valT] using H.out,hb2⟩
set_option maxHeartbeats 4000000
set_option maxRecDepth 100000
def qhr:Value:=.string ⟨#[48]⟩
def qjb (W:World) (g n k:Nat):Prop:=∃ cur:Array Value,W.heap[g]? = some (.cells cur 9 (0,0))∧cur.size=n∧∀ j,j<k→cur[j]? = some qhr
theorem qzd:∀ (vs:List Value) (cs:Array Value) (o:Nat),(qfl cs o vs).size=cs.size
 | [],_,_=>rfl
 | v::vs,cs,o=>(qzd vs _ _).trans (by simp)
theorem qqh {W:World} {g n k m:Nat} (h:qjb W g n k) (hm:k+m≤n):qjb (W.setCells g k (List.replicate m qhr)) g n (k+m):=by
 obtain⟨cur,h1,h2,h3⟩:=h;refine⟨qfl cur k (List.replicate m qhr),?_,?_,?_⟩
 ·rw[qdd];exact qcl _ W g k _ _ h1
 ·exact qzd _ _ _ |>.trans h2
 ·intro j hj;rw[qvm _ _ _ _ (by rw[List.length_replicate,h2];exact hm)]
  rw[List.length_replicate];split
  ·rw[List.getElem?_replicate,if_pos (by omega)]
  ·exact h3 j (by omega)
theorem qjb.cell {W:World} {g n k j:Nat} (h:qjb W g n k) (hj:j<k):W.cell? ⟨g,j,none⟩=some qhr:=by
 obtain⟨cur,h1,h2,h3⟩:=h;exact qc j h1 (h3 j hj)
theorem qjb.there {W:World} {g n k j:Nat} (h:qjb W g n k) (hj:j<n):(W.cell? ⟨g,j,none⟩).isSome=true∧W.frozen? ⟨g,j,none⟩=false:=by
 obtain⟨cur,h1,h2,h3⟩:=h;exact⟨Option.isSome_iff_exists.2 ⟨_,qc j h1 (Array.getElem?_eq_getElem (by omega))⟩,qf j h1⟩
theorem size9:(Tryz.prog.info? 9).map (·.size)=some 1:=by kernel_rfl
theorem qzm (w:World) (ty:TypeId) (g n k dLen dCap:Nat) (ad:Addr) (sLen sCap m:Nat) (hm:m=min sLen dLen) (hN:qjb w g n k) (hfit:k+m≤n) (hsrc:∀ j,j<m→w.cell? (ad.add j)=some qhr) :
 (Builtin.copy_ #[37,37] ty #[.slice (some ⟨g,k,none⟩) dLen dCap,.slice (some ad) sLen sCap]).run Tryz.prog w=.ok (.int .i64 (m:Int)) (w.setCells g k (List.replicate m qhr)):=by
  have:=run_copy_cells (P:=Tryz.prog) w 37 37 ty 9 g k dLen dCap ad sLen sCap (List.replicate m qhr) Tryz.underlying37 size9 (by rw[List.length_replicate];exact hm)
    (fun j v hj=>by
      obtain⟨h1,rfl⟩:=List.getElem?_eq_some_iff.1 hj;rw[List.length_replicate]at h1;rw[List.getElem_replicate];exact hsrc j h1)
    (fun j hj=>(hN.there (by rw[List.length_replicate]at hj;omega)).1) (fun j hj=>(hN.there (by rw[List.length_replicate]at hj;omega)).2)
    (fun v hv=>by rw[List.eq_of_mem_replicate hv];rfl)
  rw[List.length_replicate]at this;exact this
theorem qmm {B g k:Nat} {w0 w:World} (vs:List Value) (h:Below B w0 w) (hg:B≤g) (hs:B≤w.heap.size):Below B w0 (w.setCells g k vs):=by
 rw[qdd];exact h.trans ((qcc vs w g k).below hg hs)
theorem qbjq (b0 n:Nat) (w:World) (hn:n≤524288) (c0:w.cell? ⟨b0,0,none⟩=some qhr) (hb0:b0<w.heap.size) :
  Calls Tryz.prog 182 #[.slice (some ⟨b0,0,none⟩) 1 1,.int .i64 (n:Int)] w fun e w'=>∃ g,e=.returned (.slice (some ⟨g,0,none⟩) n n)∧g<w'.heap.size∧TxtP w' ⟨g,0,none⟩ (List.replicate n [48])∧Below w.heap.size w w':=by
 have M:=qb (fun W=>Mul_any n (by omega) W)
 have h1:¬ ((n:Int)<0):=by omega
 have h2:¬ ((9223372036854775807:Int)<(n:Int)):=by omega
 have wn:IntKind.u64.wrap (n:Int)=(n:Int):=by rw[IntKind.wrap_u64];omega
 have wi:IntKind.i64.wrap (n:Int)=(n:Int):=by rw[IntKind.wrap_i64];omega
 obtain⟨i,hi,hz,hsz,hb⟩:=info_parts info9;go_enter Tryz.func182,Tryz.ntmps182
 (go_wp2_with fail);refine(M.out _).mono ?_;rintro e w0 ⟨rfl,hw0⟩;rw[hw0];clear hw0 w0;go_upto_region 6 with fail
 refine wp_region_lit ?_;go_step
 go_step
 go_step
 go_step
 go_step
 go_step
 refine wpList_make_row _ rfl (.tmp 29) (.tmp 29) 37 rfl 9 i (.string ⟨#[]⟩) Tryz.underlying37 hi hz hsz rfl .i64 .i64 n rfl rfl (by rw[hb];omega) (by omega) ?_
 have hB:=World.alloc_heap_new w (.cells (madeCells #[.string ⟨#[]⟩] n) 9);have hN0:qjb (w.alloc (.cells (madeCells #[.string ⟨#[]⟩] n) 9)) w.heap.size n 0:=⟨_,hB,by simp[madeCells],fun j h=>by omega⟩
 have hb0':Below w.heap.size w (w.alloc (.cells (madeCells #[.string ⟨#[]⟩] n) 9)):=(Below.refl _ w).alloc (Nat.le_refl _) _;have d0:(w.alloc (.cells (madeCells #[.string ⟨#[]⟩] n) 9)).cell? ⟨b0,0,none⟩=some qhr:=(hb0'.cell hb0).trans c0;have HN0:=qb hN0;have HB0:=qb hb0';clear hB hN0 hb0';generalize w.alloc (.cells (madeCells #[.string ⟨#[]⟩] n) 9)=V at *
 by_cases hz0:n=0
 ·subst hz0;have hcp:=run_copy_none (P:=Tryz.prog) V 37 37 3 9 (some ⟨w.heap.size,0,none⟩) (some ⟨b0,0,none⟩) 0 0 1 1 Tryz.underlying37 size9 (by decide)
  unfold goInt at hcp;(go_wp2_with fail);go_loopw [8] (fun x wr=>x=.int .i64 0∧wr=V) (fun x _=>0)
  case atStart=>exact⟨rfl,rfl⟩
  case round=>
   obtain⟨rfl,rfl⟩:=hrel;(go_wp2_with fail);go_ret
   refine⟨w.heap.size,rfl,?_,?_,HB0.out⟩
   ·obtain⟨cur,h5,_⟩:=HN0.out;exact(Array.getElem?_eq_some_iff.1 h5).1
   ·intro j u hj;simp[valT]at hj
 ·have hD:Hid (∀ j,j<1→V.cell? ((⟨b0,0,none⟩:Addr).add j)=some qhr):=qb (fun j (hj:j<1)=>by
   obtain rfl:j=0:=by omega
   exact d0)
  have hcp:=qzm V 3 w.heap.size n 0 n n ⟨b0,0,none⟩ 1 1 1 (by omega) HN0.out (by omega) hD.out
  have HN1:=qb (qqh HN0.out (m:=1) (by omega))
  have HB1:=qb (qmm (k:=0) (List.replicate 1 qhr) HB0.out (Nat.le_refl _) HB0.out.size);generalize V.setCells w.heap.size 0 (List.replicate 1 qhr)=V1 at *;(go_wp2_with fail);clear hcp;go_loopw [8] (fun x wr=>∃ k,0<k∧k≤n∧x=.int .i64 (k:Int)∧Hid (qjb wr w.heap.size n k)∧Below w.heap.size w wr) (fun x _=>n-(intOf x).toNat)
  case atStart=>exact⟨1,by omega,by omega,rfl,HN1,HB1.out⟩
  case round=>
   obtain⟨k,hk0,hkn,rfl,HN,hbk⟩:=hrel
   by_cases hlt:k<n
   ·have hlt':(k:Int)<(n:Int):=by omega
    have hcp:=qzm wr.drew 3 w.heap.size n k (n-k) (n-k) ⟨w.heap.size,0,none⟩ k n (min k (n-k)) rfl HN.out (by omega) (fun j hj=>by
     have e:(⟨w.heap.size,0,none⟩:Addr).add j=⟨w.heap.size,j,none⟩:=by unfold Addr.add;split<;>simp_all
     rw[e];exact HN.out.cell (by omega))
    have HN2:=qb (qqh (W:=wr.drew) HN.out (m:=min k (n-k)) (by omega))
    have HB2:=qb (qmm (w:=wr.drew) (k:=k) (List.replicate (min k (n-k)) qhr) hbk.drew (Nat.le_refl _) hbk.size);generalize wr.drew.setCells w.heap.size k (List.replicate (min k (n-k)) qhr)=W2 at *;obtain⟨m,hm⟩:∃ m,min k (n-k)=m:=⟨_,rfl⟩;have hm0:0<m:=by omega
    have hmk:k+m≤n:=by omega
    rw[hm]at hcp HN2;have hsub:((n:Int)-(k:Int)).toNat=n-k:=by omega
    have hkn':(k:Int)≤(n:Int):=by omega
    have hk0':(0:Int)≤(k:Int):=by omega
    (go_wp2_with fail);go_region
    all_goals
     (go_wp2_with fail);go_roundw
     case rel=>exact⟨k+m,by omega,hmk,by go_num,HN2,HB2.out⟩
     case measure=>simp[intOf];omega
   ·have hlt':¬ (k:Int)<(n:Int):=by omega
    obtain rfl:k=n:=by omega
    (go_wp2_with fail);go_ret
    refine⟨w.heap.size,rfl,?_,?_,hbk⟩
    ·obtain⟨cur,h5,_⟩:=HN.out;exact(Array.getElem?_eq_some_iff.1 h5).1
    ·intro j u hj;have e:(⟨w.heap.size,0,none⟩:Addr).add j=⟨w.heap.size,j,none⟩:=by unfold Addr.add;split<;>simp_all
     rw[e];have hv:valT (List.replicate k [48])=List.replicate k qhr:=by simp[valT,qhr,qd]
     rw[hv]at hj;obtain⟨h5,rfl⟩:=List.getElem?_eq_some_iff.1 hj;rw[List.getElem_replicate];exact HN.out.cell (by simpa using h5)
set_option maxHeartbeats 4000000
set_option maxRecDepth 100000
theorem txt_at {W:World} {a:Option Addr} {n c:Nat} {ts:List QB} (h:qz W (.slice a n c) ts) (i:Nat) (hi:i<ts.length):∃ b off,a=some ⟨b,off,none⟩∧W.cell? ⟨b,off+i,none⟩=some (.string (qd ts[i])):=by
 obtain⟨b,off,h1,h2⟩:=h.some (by omega)
 exact⟨b,off,h1,h2 i hi⟩
theorem ofL_nq (a b:QB):((qd a).toList==(qd b).toList)=(a==b):=by rw[toL,toL,qj,qj]
theorem qbkg (a b:Option Addr) (c d:Nat) (xs ys:List QB) (w:World) (hx:qz w (.slice a xs.length c) xs) (hy:qz w (.slice b ys.length d) ys) (lx:xs.length≤1048576) (ly:ys.length≤1048576) :
  Calls Tryz.prog 183 #[.slice a xs.length c,.slice b ys.length d] w fun e w'=>e=.returned (.bool (xs==ys))∧Below w.heap.size w w':=by
 obtain⟨n,hn⟩:∃ n,xs.length=n:=⟨_,rfl⟩;obtain⟨m,hm⟩:∃ m,ys.length=m:=⟨_,rfl⟩;rw[hn,hm];rw[hn]at hx lx;rw[hm]at hy ly;have HNM:Hid (xs.length=n∧ys.length=m):=⟨hn,hm⟩;obtain⟨E,hE⟩:∃ E,(xs==ys)=E:=⟨_,rfl⟩;rw[hE];have HE:=qb hE;have HX:=qb hx;have HY:=qb hy;clear hE hx hy hn hm
 by_cases hnm:n=m
 ·subst hnm;have hc0:((n:Int) != (n:Int))=false:=by simp
  go_enter Tryz.func183,Tryz.ntmps183
  (go_wp2_with fail);go_loopw [13] (fun y wr=>∃ i:Nat,i≤n∧y=.int .i64 i∧Hid (xs.take i=ys.take i)∧Below w.heap.size w wr∧Hid (qz wr (.slice a n c) xs)∧Hid (qz wr (.slice b n d) ys)) (fun y _=>n-(intOf y).toNat)
  case atStart=>exact⟨0,by omega,rfl,rfl,Below.refl _ _,HX,HY⟩
  case round=>
   obtain⟨i,hi,rfl,HT,hb,HA,HB⟩:=hrel
   by_cases hlt:i<n
   ·have hlt':(i:Int)<(n:Int):=by omega
    have hix:i<xs.length:=by rw[HNM.out.1];exact hlt
    have hiy:i<ys.length:=by rw[HNM.out.2];exact hlt
    obtain⟨b1,o1,h1,q1⟩:=txt_at HA.out i hix;obtain⟨b2,o2,h2,q2⟩:=txt_at HB.out i hiy;subst h1 h2;have hne:=ofL_nq (xs[i]'hix) (ys[i]'hiy);have HGX:Hid (xs[i]? = some (xs[i]'hix)):=qb (List.getElem?_eq_getElem _);have HGY:Hid (ys[i]? = some (ys[i]'hiy)):=qb (List.getElem?_eq_getElem _);generalize xs[i]'hix=X at *;generalize ys[i]'hiy=Y at *;clear hix hiy
    by_cases he:X=Y
    ·have hv:(X==Y)=true:=by simp[he]
     rw [hv]at hne;have HT2:Hid (xs.take (i+1)=ys.take (i+1)):=qb (by
      rw[List.take_add_one,List.take_add_one,HT.out,HGX.out,HGY.out,he])
     clear hv he;(go_wp2_with fail);go_quiet (fail)
     (go_wp2_with fail);go_roundw
     case rel=>exact⟨i+1,by omega,by go_num,HT2,hb.trans (qx _ _ _),qb (HA.out.below (qx _ _ _)),qb (HB.out.below (qx _ _ _))⟩
     case measure=>simp[intOf];omega
    ·have hv:(X==Y)=false:=by simp[he]
     rw [hv]at hne;have HEF:Hid (E=false):=qb (by
      rw[←HE.out,beq_eq_false_iff_ne];intro e;have h3:=HGX.out;rw[e,HGY.out]at h3;exact he (Option.some.inj h3).symm)
     clear hv he;(go_wp2_with fail);go_quiet (fail)
     (go_wp2_with fail);go_ret
     exact⟨by rw[HEF.out];rfl,hb.trans (qx _ _ _)⟩
   ·have hlt':¬ (i:Int)<(n:Int):=by omega
    have HET:Hid (E=true):=qb (by
     rw[←HE.out,beq_iff_eq];have:=HT.out;rw[List.take_of_length_le (by rw[HNM.out.1];omega),List.take_of_length_le (by rw[HNM.out.2];omega)]at this
     exact this)
    (go_wp2_with fail);go_ret
    exact⟨by rw[HET.out];rfl,hb⟩
 ·have hc0:((n:Int) != (m:Int))=true:=by simp;omega
  have HEF:Hid (E=false):=qb (by
   rw[←HE.out,beq_eq_false_iff_ne];intro e;exact hnm (by rw[←HNM.out.1,←HNM.out.2,e]))
  go_enter Tryz.func183,Tryz.ntmps183
  (go_wp2_with fail);go_ret
  exact⟨by rw[HEF.out];rfl,Below.refl _ _⟩
set_option maxHeartbeats 4000000
set_option maxRecDepth 100000
theorem qqm (x y:PepL) (r1 r2 q1 q2:Option Addr) (c1 c2 d1 d2:Nat) (w:World) (ra:qz w (.slice r1 x.rel.length c1) x.rel) (rb:qz w (.slice r2 y.rel.length c2) y.rel) (la:qz w (.slice q1 x.loc.length d1) x.loc) (lb:qz w (.slice q2 y.loc.length d2) y.loc) (sx:SmallP x) (sy:SmallP y) (fx:FitT x) (fy:FitT y) :
  Calls Tryz.prog 176 #[.agg #[.string (qd x.ep),.slice r1 x.rel.length c1,.int .u8 x.c,.string (qd x.n),.bool x.b,.string (qd x.m),.bool x.d,.string (qd x.k),.slice q1 x.loc.length d1],.agg #[.string (qd y.ep),.slice r2 y.rel.length c2,.int .u8 y.c,.string (qd y.n),.bool y.b,.string (qd y.m),.bool y.d,.string (qd y.k),.slice q2 y.loc.length d2]] w fun e w'=>e=.returned (.int .i64 (ordP x y))∧Below w.heap.size w w':=by
 have FX:=fun w h1 h2=>qbhw x r1 q1 c1 d1 w h1 h2 sx fx;have FY:=fun w h1 h2=>qbhw y r2 q2 c2 d2 w h1 h2 sy fy;have OR:=fun va vb w (h1:qtp w va x) (h2:qtp w vb y)=>qxr va vb x y w h1 h2 sx.short sy.short;have S0:=OB.start ra rb la lb;have FX:=qb FX;have FY:=qb FY;generalize ordP x y=OO at *;have OR:=qb OR;clear ra rb la lb fx fy sx sy;go_enter Tryz.func176,Tryz.ntmps176
 (go_wp2_with fail);generalize (w.alloc (.cells #[.string (qd x.ep),.slice r1 x.rel.length c1,.int .u8 x.c,.string (qd x.n),.bool x.b,.string (qd x.m),.bool x.d,.string (qd x.k),.slice q1 x.loc.length d1] 44)).alloc (.cells #[.string (qd y.ep),.slice r2 y.rel.length c2,.int .u8 y.c,.string (qd y.n),.bool y.b,.string (qd y.m),.bool y.d,.string (qd y.k),.slice q2 y.loc.length d2] 44)=W0 at *;obtain⟨s0,s1,s2,s3,s4,s5,s6,s7,s8,s9,s10,s11,s12,s13,s14,s15,s16,s17⟩:=S0.seen;(go_wp2_with fail);refine(FX.out _ S0.ra S0.la).mono ?_;rintro e W1 ⟨rfl,b1⟩;have S1:=S0.next b1;clear S0 s0 s1 s2 s3 s4 s5 s6 s7 s8 s9 s10 s11 s12 s13 s14 s15 s16 s17 b1;obtain⟨s0,s1,s2,s3,s4,s5,s6,s7,s8,s9,s10,s11,s12,s13,s14,s15,s16,s17⟩:=S1.seen
 try dsimp only
 (go_wp2_with fail);refine(FY.out _ S1.rb S1.lb).mono ?_;rintro e W2 ⟨rfl,b2⟩;have S2:=S1.next b2;clear S1 s0 s1 s2 s3 s4 s5 s6 s7 s8 s9 s10 s11 s12 s13 s14 s15 s16 s17 b2;obtain⟨s0,s1,s2,s3,s4,s5,s6,s7,s8,s9,s10,s11,s12,s13,s14,s15,s16,s17⟩:=S2.seen
 try dsimp only
 (go_wp2_with fail);refine(OR.out _ _ _ ⟨_,_,rfl,S2.ra,S2.la⟩ ⟨_,_,rfl,S2.rb,S2.lb⟩).mono ?_;rintro e W3 ⟨rfl,b3⟩;have S3:=S2.next b3
 try dsimp only
 (go_wp2_with fail);go_ret
 exact⟨rfl,S3.bel⟩
structure VB (w:World) (x y:PepL) (r1 r2 q1 q2:Option Addr) (c1 c2 d1 d2:Nat) (t u:QY) (st su:Bool) (W:World):Prop where
 ea:W.heap[w.heap.size]? = some (.cells #[.string (qd x.ep),.slice r1 x.rel.length c1,.int .u8 x.c,.string (qd x.n),.bool x.b,.string (qd x.m),.bool x.d,.string (qd x.k),.slice q1 x.loc.length d1,.string t,.bool st] 59 (0,0))
 eb:W.heap[w.heap.size+1]? = some (.cells #[.string (qd y.ep),.slice r2 y.rel.length c2,.int .u8 y.c,.string (qd y.n),.bool y.b,.string (qd y.m),.bool y.d,.string (qd y.k),.slice q2 y.loc.length d2,.string u,.bool su] 59 (0,0))
 ra:qz W (.slice r1 x.rel.length c1) x.rel
 rb:qz W (.slice r2 y.rel.length c2) y.rel
 la:qz W (.slice q1 x.loc.length d1) x.loc
 lb:qz W (.slice q2 y.loc.length d2) y.loc
 bel:Below w.heap.size w W
theorem VB.next {w W W':World} {x y:PepL} {r1 r2 q1 q2:Option Addr} {c1 c2 d1 d2:Nat} {t u:QY} {st su:Bool} (h:VB w x y r1 r2 q1 q2 c1 c2 d1 d2 t u st su W) (hb:Below W.heap.size W W'):VB w x y r1 r2 q1 q2 c1 c2 d1 d2 t u st su W':=
 ⟨(hb.block _ (Array.getElem?_eq_some_iff.1 h.ea).1).trans h.ea,(hb.block _ (Array.getElem?_eq_some_iff.1 h.eb).1).trans h.eb,h.ra.below hb,h.rb.below hb,h.la.below hb,h.lb.below hb,h.bel.trans (hb.mono h.bel.size)⟩
theorem VB.start {w:World} {x y:PepL} {r1 r2 q1 q2:Option Addr} {c1 c2 d1 d2:Nat} (ra:qz w (.slice r1 x.rel.length c1) x.rel) (rb:qz w (.slice r2 y.rel.length c2) y.rel) (la:qz w (.slice q1 x.loc.length d1) x.loc) (lb:qz w (.slice q2 y.loc.length d2) y.loc) (t u:QY) (st su:Bool):VB w x y r1 r2 q1 q2 c1 c2 d1 d2 t u st su ((w.alloc (.cells #[.string (qd x.ep),.slice r1 x.rel.length c1,.int .u8 x.c,.string (qd x.n),.bool x.b,.string (qd x.m),.bool x.d,.string (qd x.k),.slice q1 x.loc.length d1,.string t,.bool st] 59)).alloc (.cells #[.string (qd y.ep),.slice r2 y.rel.length c2,.int .u8 y.c,.string (qd y.n),.bool y.b,.string (qd y.m),.bool y.d,.string (qd y.k),.slice q2 y.loc.length d2,.string u,.bool su] 59)):=by
 obtain⟨V,hV,h1,h2,h3,_⟩:=ql w #[.string (qd x.ep),.slice r1 x.rel.length c1,.int .u8 x.c,.string (qd x.n),.bool x.b,.string (qd x.m),.bool x.d,.string (qd x.k),.slice q1 x.loc.length d1,.string t,.bool st] #[.string (qd y.ep),.slice r2 y.rel.length c2,.int .u8 y.c,.string (qd y.n),.bool y.b,.string (qd y.m),.bool y.d,.string (qd y.k),.slice q2 y.loc.length d2,.string u,.bool su] 59 59;rw[hV];exact⟨h1,h2,ra.below h3,rb.below h3,la.below h3,lb.below h3,h3⟩
theorem qsm (x y:PepL) (r1 r2 q1 q2:Option Addr) (c1 c2 d1 d2:Nat) (t u:QY) (st su:Bool) (w:World) (ra:qz w (.slice r1 x.rel.length c1) x.rel) (rb:qz w (.slice r2 y.rel.length c2) y.rel) (la:qz w (.slice q1 x.loc.length d1) x.loc) (lb:qz w (.slice q2 y.loc.length d2) y.loc) (O:Int)
 (PU:∀ W,qz W (.slice r1 x.rel.length c1) x.rel→qz W (.slice q1 x.loc.length d1) x.loc→Calls Tryz.prog 185 #[.agg #[.string (qd x.ep),.slice r1 x.rel.length c1,.int .u8 x.c,.string (qd x.n),.bool x.b,.string (qd x.m),.bool x.d,.string (qd x.k),.slice q1 x.loc.length d1]] W fun e W'=>∃ a k,e=.returned (.agg #[.string (qd x.ep),.slice a x.rel.length k,.int .u8 x.c,.string (qd x.n),.bool x.b,.string (qd x.m),.bool x.d,.string (qd x.k),.slice none 0 0])∧qz W' (.slice a x.rel.length k) x.rel∧Below W.heap.size W W')
 (OD:∀ a k W,qz W (.slice a x.rel.length k) x.rel→qz W (.slice r2 y.rel.length c2) y.rel→qz W (.slice q2 y.loc.length d2) y.loc→Calls Tryz.prog 176 #[.agg #[.string (qd x.ep),.slice a x.rel.length k,.int .u8 x.c,.string (qd x.n),.bool x.b,.string (qd x.m),.bool x.d,.string (qd x.k),.slice none 0 0],.agg #[.string (qd y.ep),.slice r2 y.rel.length c2,.int .u8 y.c,.string (qd y.n),.bool y.b,.string (qd y.m),.bool y.d,.string (qd y.k),.slice q2 y.loc.length d2]] W fun e W'=>e=.returned (.int .i64 O)∧Below W.heap.size W W') :
 Calls Tryz.prog 175 #[.agg #[.string (qd x.ep),.slice r1 x.rel.length c1,.int .u8 x.c,.string (qd x.n),.bool x.b,.string (qd x.m),.bool x.d,.string (qd x.k),.slice q1 x.loc.length d1,.string t,.bool st],.agg #[.string (qd y.ep),.slice r2 y.rel.length c2,.int .u8 y.c,.string (qd y.n),.bool y.b,.string (qd y.m),.bool y.d,.string (qd y.k),.slice q2 y.loc.length d2,.string u,.bool su]] w fun e w'=>e=.returned (.int .i64 O)∧Below w.heap.size w w':=by
  have S0:=VB.start ra rb la lb t u st su;have PU:=qb PU;have OD:=qb OD;clear ra rb la lb;go_enter Tryz.func175,Tryz.ntmps175
  (go_wp2_with fail);generalize (w.alloc _).alloc _=W0 at *;obtain⟨s0,s1,s2,s3,s4,s5,s6,s7,s8,s9,s10,_⟩:=qh S0.ea;obtain⟨v0,v1,v2,v3,v4,v5,v6,v7,v8,v9,v10,_⟩:=qh S0.eb;have D0:=S0.next (Below.refl _ _).drew
  go_region_held3 (fun w'=>w'.cell? ⟨w.heap.size,0,none⟩=some (.string (qd x.ep))∧w'.cell? ⟨w.heap.size,1,none⟩=some (.slice r1 x.rel.length c1)∧w'.cell? ⟨w.heap.size,2,none⟩=some (.int .u8 x.c)∧w'.cell? ⟨w.heap.size,3,none⟩=some (.string (qd x.n))∧w'.cell? ⟨w.heap.size,4,none⟩=some (.bool x.b)∧w'.cell? ⟨w.heap.size,5,none⟩=some (.string (qd x.m))∧w'.cell? ⟨w.heap.size,6,none⟩=some (.bool x.d)∧w'.cell? ⟨w.heap.size,7,none⟩=some (.string (qd x.k))∧w'.cell? ⟨w.heap.size,8,none⟩=some (.slice q1 x.loc.length d1)∧w'.cell? ⟨w.heap.size+1,0,none⟩=some (.string (qd y.ep))∧w'.cell? ⟨w.heap.size+1,1,none⟩=some (.slice r2 y.rel.length c2)∧w'.cell? ⟨w.heap.size+1,2,none⟩=some (.int .u8 y.c)∧w'.cell? ⟨w.heap.size+1,3,none⟩=some (.string (qd y.n))∧w'.cell? ⟨w.heap.size+1,4,none⟩=some (.bool y.b)∧w'.cell? ⟨w.heap.size+1,5,none⟩=some (.string (qd y.m))∧w'.cell? ⟨w.heap.size+1,6,none⟩=some (.bool y.d)∧w'.cell? ⟨w.heap.size+1,7,none⟩=some (.string (qd y.k))∧w'.cell? ⟨w.heap.size+1,8,none⟩=some (.slice q2 y.loc.length d2))
    (go_keep)
    ((first
      | (have hq:=Q1;go_at_call 176;refine(OD.out _ _ _ tq Q1.rb Q1.lb).mono ?_;rintro e w6 ⟨rfl,b6⟩;have Q2:=Q1.next b6;obtain⟨g0,g1,g2,g3,g4,g5,g6,g7,g8,g9,g10,_⟩:=qh Q2.ea;obtain⟨h0,h1,h2,h3,h4,h5,h6,h7,h8,h9,h10,_⟩:=qh Q2.eb)
      | (go_at_call 185;refine(PU.out _ D0.ra D0.la).mono ?_;rintro e w5 ⟨a5,k5,rfl,tq,b5⟩;have Q1:=D0.next b5;obtain⟨e0,e1,e2,e3,e4,e5,e6,e7,e8,e9,e10,_⟩:=qh Q1.ea;obtain⟨f0,f1,f2,f3,f4,f5,f6,f7,f8,f9,f10,_⟩:=qh Q1.eb)
      | fail))
  (go_wp2_with fail);go_ret
  exact⟨rfl,Q2.bel⟩
open _root_.Array renaming getElem?_eq_some_iff → qbsp
set_option maxHeartbeats 4000000
set_option maxRecDepth 100000
theorem qrp:(Tryz.prog.info? 44).map (·.size)=some 9:=by kernel_rfl
def qbcw (x:PepL) (w:World) (e:Ending) (w':World):Prop:=
 ∃ v',e=.returned (.agg #[.string (qd x.ep),v',.int .u8 x.c,.string (qd x.n),.bool x.b,.string (qd x.m),.bool x.d,.string (qd x.k),.slice none 0 0])∧w'.ownsRow w.heap.size 9 1 v' x.rel.length (valT x.rel)∧Below w.heap.size w w'
theorem qcg {w W:World} {K o base n k:Nat} {cs:Array Value} {t:TypeId} {v0:Value} {xs:List Value} (v:Value) (h:W.heap[K]? = some (.cells cs t (0,0))) (hn:n≤K) (hb:Below n w W) (ho:W.ownsRow base 9 1 v0 k xs) (hK:K<base) :
  ∃ W',W.setCell ⟨K,o,none⟩ v=W'∧W'.heap[K]? = some (.cells (cs.setIfInBounds o v) t (0,0))∧(∀ j,j≠K→j<W.heap.size→W'.heap[j]? = W.heap[j]?)∧Below n w W'∧W'.ownsRow base 9 1 v0 k xs∧W.frozen? ⟨K,o,none⟩=false∧W'.heap.size=W.heap.size:=
 ⟨_,rfl,qw o v h,fun j hj hl=>(qsg W K o v).block j hl (fun e=>hj (by simpa using e)),hb.setCell (p:=⟨K,o,none⟩) hn v,ownsRow_setCell_below ho (a:=⟨K,o,none⟩) hK v,qf o h,by simp⟩
theorem qqn {W:World} {base:Nat} {e:TypeId} {size:Nat} {v:Value} {n:Nat} {xs:List Value} (h:W.ownsRow base e size v n xs):∃ a k c,v=.slice a k c:=by
 rcases h.2 with ⟨h,_⟩|⟨g,cap,cur,h,_⟩
 ·exact⟨_,_,_,h⟩
 ·exact⟨_,_,_,h⟩
theorem qbmb (x:PepL) (r1 q1:Option Addr) (c1 d1:Nat) (w:World) (rr:qz w (.slice r1 x.rel.length c1) x.rel) (ll:qz w (.slice q1 x.loc.length d1) x.loc) (hl:x.rel.length≤1048576) (hnil:r1=none→c1=0) :
  Calls Tryz.prog 185 #[.agg #[.string (qd x.ep),.slice r1 x.rel.length c1,.int .u8 x.c,.string (qd x.n),.bool x.b,.string (qd x.m),.bool x.d,.string (qd x.k),.slice q1 x.loc.length d1]] w (qbcw x w):=by
 have CL:=qb (fun w h=>qbqr (.slice r1 x.rel.length c1) x.rel w h hl (by rintro n c h;cases h;exact hnil rfl))
 have S0:=TB.start rr ll;have b1:Below (w.alloc (.cells #[.string (qd x.ep),.slice r1 x.rel.length c1,.int .u8 x.c,.string (qd x.n),.bool x.b,.string (qd x.m),.bool x.d,.string (qd x.k),.slice q1 x.loc.length d1] 44)).heap.size (w.alloc (.cells #[.string (qd x.ep),.slice r1 x.rel.length c1,.int .u8 x.c,.string (qd x.n),.bool x.b,.string (qd x.m),.bool x.d,.string (qd x.k),.slice q1 x.loc.length d1] 44)) ((w.alloc (.cells #[.string (qd x.ep),.slice r1 x.rel.length c1,.int .u8 x.c,.string (qd x.n),.bool x.b,.string (qd x.m),.bool x.d,.string (qd x.k),.slice q1 x.loc.length d1] 44)).alloc (.cells #[.string ⟨#[]⟩,.slice none 0 0,.int .u8 0,.string ⟨#[]⟩,.bool false,.string ⟨#[]⟩,.bool false,.string ⟨#[]⟩,.slice none 0 0] 44)):=(Below.refl _ _).alloc (Nat.le_refl _) _;have e1:=World.alloc_heap_new (w.alloc (.cells #[.string (qd x.ep),.slice r1 x.rel.length c1,.int .u8 x.c,.string (qd x.n),.bool x.b,.string (qd x.m),.bool x.d,.string (qd x.k),.slice q1 x.loc.length d1] 44)) (.cells #[.string ⟨#[]⟩,.slice none 0 0,.int .u8 0,.string ⟨#[]⟩,.bool false,.string ⟨#[]⟩,.bool false,.string ⟨#[]⟩,.slice none 0 0] 44);have S1:=S0.next b1;clear rr ll;obtain⟨s0,s1,s2,s3,s4,s5,s6,s7,s8⟩:=S1.seen;go_enter Tryz.func185,Tryz.ntmps185
 (go_wp2_with fail);generalize (w.alloc (.cells #[.string (qd x.ep),.slice r1 x.rel.length c1,.int .u8 x.c,.string (qd x.n),.bool x.b,.string (qd x.m),.bool x.d,.string (qd x.k),.slice q1 x.loc.length d1] 44)).alloc (.cells #[.string ⟨#[]⟩,.slice none 0 0,.int .u8 0,.string ⟨#[]⟩,.bool false,.string ⟨#[]⟩,.bool false,.string ⟨#[]⟩,.slice none 0 0] 44)=W0 at *;refine(CL.out _ S1.rr).mono ?_;rintro e w2 ⟨v',rfl,own2,b2⟩;obtain⟨va,vn,vc,rfl⟩:=qqn own2;have hs1:=(qbsp.1 S1.ea).1;have hs2:=(qbsp.1 e1).1;simp only[World.size_alloc]at e1 hs2;have f1:=(b2.block _ hs1).trans S1.ea;have f2:=(b2.block _ hs2).trans e1;have B2:=S1.bel.trans (b2.mono S1.bel.size);have lt2:=(qbsp.1 f2).1;have y1:=qc 1 f1 rfl;obtain⟨P1,p1,g1,k1,B3,o3,z1,n1⟩:=qcg (o:=1) (.slice va vn vc) f1 (Nat.le_refl _) B2 own2 hs1
 change P1.heap[w.heap.size]? = some (.cells #[.string (qd x.ep),.slice va vn vc,.int .u8 x.c,.string (qd x.n),.bool x.b,.string (qd x.m),.bool x.d,.string (qd x.k),.slice q1 x.loc.length d1] 44 (0,0))at g1
 have y8:=qc 8 g1 rfl;obtain⟨P2,p2,g2,k2,B4,o4,z8,n2⟩:=qcg (o:=8) (.slice none 0 0) g1 (Nat.le_refl _) B3 o3 hs1
 change P2.heap[w.heap.size]? = some (.cells #[.string (qd x.ep),.slice va vn vc,.int .u8 x.c,.string (qd x.n),.bool x.b,.string (qd x.m),.bool x.d,.string (qd x.k),.slice none 0 0] 44 (0,0))at g2
 have h0:P2.heap[w.heap.size+1]? = _:=((k2 _ (by omega) (by rw[n1];exact lt2)).trans (k1 _ (by omega) lt2)).trans f2
 have x0:=qc 0 g2 rfl;have x1:=qc 1 g2 rfl;have x2:=qc 2 g2 rfl;have x3:=qc 3 g2 rfl;have x4:=qc 4 g2 rfl;have x5:=qc 5 g2 rfl;have x6:=qc 6 g2 rfl;have x7:=qc 7 g2 rfl;have x8:=qc 8 g2 rfl;have t0:=qc 0 h0 rfl;obtain⟨Q1,q1q,h1,_,C1,u1,m1,_⟩:=qcg (o:=0) (.string (qd x.ep)) h0 (by omega) B4 o4 hs2
 change Q1.heap[w.heap.size+1]? = some (.cells #[.string (qd x.ep),.slice none 0 0,.int .u8 0,.string ⟨#[]⟩,.bool false,.string ⟨#[]⟩,.bool false,.string ⟨#[]⟩,.slice none 0 0] 44 (0,0))at h1
 have t1:=qc 1 h1 rfl;obtain⟨Q2,q2q,h2,_,C2,u2,m2,_⟩:=qcg (o:=1) (.slice va vn vc) h1 (by omega) C1 u1 hs2
 change Q2.heap[w.heap.size+1]? = some (.cells #[.string (qd x.ep),.slice va vn vc,.int .u8 0,.string ⟨#[]⟩,.bool false,.string ⟨#[]⟩,.bool false,.string ⟨#[]⟩,.slice none 0 0] 44 (0,0))at h2
 have t2:=qc 2 h2 rfl;obtain⟨Q3,q3q,h3,_,C3,u3,m3,_⟩:=qcg (o:=2) (.int .u8 x.c) h2 (by omega) C2 u2 hs2
 change Q3.heap[w.heap.size+1]? = some (.cells #[.string (qd x.ep),.slice va vn vc,.int .u8 x.c,.string ⟨#[]⟩,.bool false,.string ⟨#[]⟩,.bool false,.string ⟨#[]⟩,.slice none 0 0] 44 (0,0))at h3
 have t3:=qc 3 h3 rfl;obtain⟨Q4,q4q,h4,_,C4,u4,m4,_⟩:=qcg (o:=3) (.string (qd x.n)) h3 (by omega) C3 u3 hs2
 change Q4.heap[w.heap.size+1]? = some (.cells #[.string (qd x.ep),.slice va vn vc,.int .u8 x.c,.string (qd x.n),.bool false,.string ⟨#[]⟩,.bool false,.string ⟨#[]⟩,.slice none 0 0] 44 (0,0))at h4
 have t4:=qc 4 h4 rfl;obtain⟨Q5,q5q,h5,_,C5,u5,m5,_⟩:=qcg (o:=4) (.bool x.b) h4 (by omega) C4 u4 hs2
 change Q5.heap[w.heap.size+1]? = some (.cells #[.string (qd x.ep),.slice va vn vc,.int .u8 x.c,.string (qd x.n),.bool x.b,.string ⟨#[]⟩,.bool false,.string ⟨#[]⟩,.slice none 0 0] 44 (0,0))at h5
 have t5:=qc 5 h5 rfl;obtain⟨Q6,q6q,h6,_,C6,u6,m6,_⟩:=qcg (o:=5) (.string (qd x.m)) h5 (by omega) C5 u5 hs2
 change Q6.heap[w.heap.size+1]? = some (.cells #[.string (qd x.ep),.slice va vn vc,.int .u8 x.c,.string (qd x.n),.bool x.b,.string (qd x.m),.bool false,.string ⟨#[]⟩,.slice none 0 0] 44 (0,0))at h6
 have t6:=qc 6 h6 rfl;obtain⟨Q7,q7q,h7,_,C7,u7,m7,_⟩:=qcg (o:=6) (.bool x.d) h6 (by omega) C6 u6 hs2
 change Q7.heap[w.heap.size+1]? = some (.cells #[.string (qd x.ep),.slice va vn vc,.int .u8 x.c,.string (qd x.n),.bool x.b,.string (qd x.m),.bool x.d,.string ⟨#[]⟩,.slice none 0 0] 44 (0,0))at h7
 have t7:=qc 7 h7 rfl;obtain⟨Q8,q8q,h8,_,C8,u8,m8,_⟩:=qcg (o:=7) (.string (qd x.k)) h7 (by omega) C7 u7 hs2
 change Q8.heap[w.heap.size+1]? = some (.cells #[.string (qd x.ep),.slice va vn vc,.int .u8 x.c,.string (qd x.n),.bool x.b,.string (qd x.m),.bool x.d,.string (qd x.k),.slice none 0 0] 44 (0,0))at h8
 have t8:=qc 8 h8 rfl;obtain⟨Q9,q9q,h9,_,C9,u9,m9,_⟩:=qcg (o:=8) (.slice none 0 0) h8 (by omega) C8 u8 hs2
 change Q9.heap[w.heap.size+1]? = some (.cells #[.string (qd x.ep),.slice va vn vc,.int .u8 x.c,.string (qd x.n),.bool x.b,.string (qd x.m),.bool x.d,.string (qd x.k),.slice none 0 0] 44 (0,0))at h9
 have H9:=qb h9;clear s0 s1 s2 s3 s4 s5 s6 s7 s8 k1 k2 g1 g2 h0 h1 h2 h3 h4 h5 h6 h7 h8 h9 f1 f2 e1;have O9:=qb (qfk u9 (Nat.le_of_lt hs1));have C9:=qb C9;clear own2 o3 o4 u1 u2 u3 u4 u5 u6 u7 u8 u9 B2 B3 B4 C1 C2 C3 C4 C5 C6 C7 C8 S0 S1 b1 b2 CL;go_wp2_with fail
 (try simp only[Exit.inBlock,Exit.then])
 refine bodyPost_ret (results_cell_row rfl _ _ (w.heap.size+1) 44 _ (0,0) _ rfl H9.out Tryz.underlying44 rfl qrp) rfl ?_;exact⟨_,rfl,O9.out,C9.out⟩
end Go.Proofs.YtabmfdedbpmfmaaGreat
