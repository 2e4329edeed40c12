/- Walks: the document's Order. -/
import Derived.Test.YtabmfdedbpmfmaaGreatVYc
import Derived.BigQuiet
import Derived.Deep.QuietTactic
import Derived.Test.YtabmfdedbpmfmaaGreatVPu
namespace Go.Proofs.YtabmfdedbpmfmaaGreat
set_option linter.unusedVariables false
def clsR (x:PepL):Int:=if x.c=97 then 1 else if x.c=98 then 2 else if x.c=114 then 3 else if x.d&&!x.b then 0 else 4
def qgb (b:Bool):Int:=if b then 1 else 0
def locR:List QB→List QB→Int
 | [],[]=>0
 | [],_::_=>-1
 | _::_,[]=>1
 | s::a,t::b=>if locO s t=0 then locR a b else locO s t
def ordR (x y:PepL):Int:=orI [cmpD x.ep y.ep,padO cmpD [] x.rel y.rel 0,cmpI (clsR x) (clsR y),cmpD x.n y.n,cmpI (qgb x.b) (qgb y.b),cmpD x.m y.m,cmpI (qgb !x.d) (qgb !y.d),cmpD x.k y.k,locR x.loc y.loc]
theorem orI_two (a b a' b':Int) (h1:a=a') (h2:a=0→b=b'):orI [a,b]=orI [a',b']:=by
 subst h1;simp only[orI]
 by_cases h:a=0
 ·rw[if_pos h,if_pos h,h2 h]
 ·rw[if_neg h,if_neg h]
theorem qbfp (t:QB):cmpD [] t=cmpD [48] t∧cmpD t []=cmpD t [48]:=⟨rfl,rfl⟩
theorem rel_same (xs ys:List QB):padO cmpD [] xs ys 0=padO cmpD [48] xs ys 0:=by
 unfold padO
 congr 1
 refine List.map_congr_left fun i _=>?_;have hg:∀ zs:List QB,zs.getD i []=zs.getD i [48]∨(zs.getD i []=[]∧zs.getD i [48]=[48]):=by
  intro zs;rw[List.getD_eq_getElem?_getD,List.getD_eq_getElem?_getD];cases zs[i]? with
  | none=>exact .inr ⟨rfl,rfl⟩
  | some z=>exact .inl rfl
 rcases hg xs with h1|⟨h1,h1'⟩<;>rcases hg ys with h2|⟨h2,h2'⟩
 ·rw[h1,h2]
 ·rw[h1,h2,h2'];exact(qbfp _).2
 ·rw[h1,h1',h2];exact(qbfp _).1
 ·rw[h1,h1',h2,h2'];rfl
theorem qbfn {t:QB} (h:t≠[]):locO [] t=-1∧locO t []=1:=by
 obtain⟨c,r,rfl⟩:∃ c r,t=c::r:=List.exists_cons_of_ne_nil h;unfold locO;rw[show digB []=false from rfl];cases digB (c::r)<;>exact⟨rfl,rfl⟩
theorem qbpp (O:QB→QB→Int) (d s t:QB) (a b:List QB):padO O d (s::a) (t::b) 0=if O s t=0 then padO O d a b 0 else O s t:=by
 rw[qjp O d (s::a) (t::b) 0 (by simp)]
 have e:padO O d (s::a) (t::b) 1=padO O d a b 0:=by
  unfold padO;have l:max (s::a).length (t::b).length-1=max a.length b.length-0:=by simp only[List.length_cons];omega
  rw[l]
  congr 1
  rw[List.range'_eq_map_range,List.range'_eq_map_range,List.map_map,List.map_map];refine List.map_congr_left fun i _=>?_;show O ((s::a).getD (1+i) d) ((t::b).getD (1+i) d)=O (a.getD (0+i) d) (b.getD (0+i) d);rw[Nat.add_comm 1 i,Nat.zero_add];simp only[List.getD_cons_succ]
 show(if O s t=0 then padO O d (s::a) (t::b) 1 else O s t)=_;rw[e]
theorem qbjg:∀ a b:List QB,(∀ t∈a,t≠[])→(∀ t∈b,t≠[])→padO locO [] a b 0=locR a b
 | [],[],_,_=>qpp _ _ _ _ _ (by simp)
 | [],t::b,_,hb=>by
  rw[qjp _ _ _ _ _ (by simp)]
  show(if locO [] t=0 then _ else locO [] t)=-1;rw[(qbfn (hb t List.mem_cons_self)).1]
  rfl
 | s::a,[],ha,_=>by
  rw[qjp _ _ _ _ _ (by simp)]
  show(if locO s []=0 then _ else locO s [])=1;rw[(qbfn (ha s List.mem_cons_self)).2]
  rfl
 | s::a,t::b,ha,hb=>by
  rw[qbpp,locR,qbjg a b (fun t h=>ha t (List.mem_cons_of_mem _ h)) (fun t h=>hb t (List.mem_cons_of_mem _ h))]
theorem st1_same (x y:PepL) (hx:FitT x) (hy:FitT y):orI [cmpI (clsR x) (clsR y),cmpD x.n y.n]=stgO (st1 x) (st1 y):=by
 have nx:=hx.f5;have ny:=hy.f5;unfold stgO;refine orI_two _ _ _ _ ?_ ?_
 ·unfold clsR st1;rcases hx.f4 with h1|h1|h1|h1<;>rcases hy.f4 with h2|h2|h2|h2<;>rw[h1,h2]<;>simp<;>(repeat' split)<;>rfl
 ·intro h0;unfold clsR at h0;unfold st1;rcases hx.f4 with h1|h1|h1|h1<;>rcases hy.f4 with h2|h2|h2|h2<;>rw[h1]at nx h0 ⊢<;>rw[h2]at ny h0 ⊢
  ·have e1:x.n=[]:=qjm nx rfl;have e2:y.n=[]:=qjm ny rfl;rw[e1,e2];simp only[if_true]
   (repeat' split)<;>rfl
  all_goals first|rfl|(exfalso;simp at h0;revert h0;(repeat' split)<;>decide)
theorem st2_same (x y:PepL) (hx:FitT x) (hy:FitT y):orI [cmpI (qgb x.b) (qgb y.b),cmpD x.m y.m]=stgO (st2 x) (st2 y):=by
 have nx:=hx.f6;have ny:=hy.f6;unfold stgO st2 qgb;cases h1:x.b<;>cases h2:y.b<;>rw[h1]at nx<;>rw[h2]at ny
 ·have e1:x.m=[]:=qjm nx rfl;have e2:y.m=[]:=qjm ny rfl;rw[e1,e2]
  rfl
 all_goals rfl
theorem st3_same (x y:PepL) (hx:FitT x) (hy:FitT y):orI [cmpI (qgb !x.d) (qgb !y.d),cmpD x.k y.k]=stgO (st3 x) (st3 y):=by
 have nx:=hx.f7;have ny:=hy.f7;unfold stgO st3 qgb;cases h1:x.d<;>cases h2:y.d<;>rw[h1]at nx<;>rw[h2]at ny
 ·have e1:x.k=[]:=qjm nx rfl;have e2:y.k=[]:=qjm ny rfl;rw[e1,e2]
  rfl
 all_goals rfl
theorem qbgb (x y:PepL) (hx:FitT x) (hy:FitT y):ordR x y=ordP x y:=by
 have l1:∀ t∈x.loc,t≠[]:=fun t h=>(qbdf (List.all_eq_true.1 hx.f8 t h)).1;have l2:∀ t∈y.loc,t≠[]:=fun t h=>(qbdf (List.all_eq_true.1 hy.f8 t h)).1;unfold ordR ordP stL;rw[rel_same,←qbjg _ _ l1 l2,←st1_same x y hx hy,←st2_same x y hx hy,←st3_same x y hx hy];simp only[orI]
 (repeat' split)<;>first|rfl|omega
open Go.RowKit Go.Shelf
open Calls renaming quiet_of_same → qbts
open List renaming drop_eq_getElem_cons → qbsg, drop_eq_nil_of_le → qbsm, getElem?_eq_getElem → qbsc, getElem_mem → qbvk
set_option maxHeartbeats 8000000
set_option maxRecDepth 100000
theorem qhj (a b:Int) (w:World):Calls Tryz.prog 72 #[.int .i64 a,.int .i64 b] w fun e w'=>e=.returned (.int .i64 (cmpI a b))∧w'=w:=by
 by_cases h1:a<b
 ·have HC:Hid (cmpI a b=-1):=by show _=_;unfold cmpI;rw[if_pos h1]
  generalize cmpI a b=C at *;go_enter Tryz.func72,Tryz.ntmps72
  (go_wp2_with fail);go_ret
  exact⟨by rw[HC.out];rfl,rfl⟩
 ·by_cases h2:b<a
  ·have HC:Hid (cmpI a b=1):=by show _=_;unfold cmpI;rw[if_neg h1,if_pos h2]
   generalize cmpI a b=C at *;go_enter Tryz.func72,Tryz.ntmps72
   (go_wp2_with fail);go_ret
   exact⟨by rw[HC.out];rfl,rfl⟩
  ·have HC:Hid (cmpI a b=0):=by show _=_;unfold cmpI;rw[if_neg h1,if_neg h2]
   generalize cmpI a b=C at *;go_enter Tryz.func72,Tryz.ntmps72
   (go_wp2_with fail);go_ret
   exact⟨by rw[HC.out];rfl,rfl⟩
theorem qgm (b:Bool) (w:World):Calls Tryz.prog 74 #[.bool b] w fun e w'=>e=.returned (.int .i64 (qgb b))∧w'=w:=by
 cases b
 ·go_enter Tryz.func74,Tryz.ntmps74
  (go_wp2_with fail);go_ret
  exact⟨rfl,rfl⟩
 ·go_enter Tryz.func74,Tryz.ntmps74
  (go_wp2_with fail);go_ret
  exact⟨rfl,rfl⟩
theorem qwc (x:PepL) (r1 q1:Option Addr) (c1 d1:Nat) (w:World):Calls Tryz.prog 73 #[.agg #[.string (qd x.ep),.slice r1 x.rel.length c1,.int .u8 x.c,.string (qd x.n),.bool x.b,.string (qd x.m),.bool x.d,.string (qd x.k),.slice q1 x.loc.length d1]] w fun e w'=>e=.returned (.int .i64 (clsR x))∧Below w.heap.size w w':=by
 have HC:Hid (clsR x=if x.c=97 then 1 else if x.c=98 then 2 else if x.c=114 then 3 else if x.d&&!x.b then 0 else 4):=rfl;generalize clsR x=C at *;obtain⟨ep,rel,c,n,b,m,d,k,loc⟩:=x;dsimp only at *;have bw:=fun o=>(Below.refl _ w).alloc (Nat.le_refl _) o
 by_cases h1:c=97
 ·have hb:(c==97)=true:=by simpa using h1
  have HZ:Hid (C=1):=by show _=_;rw[HC.out,if_pos h1]
  clear h1 HC;go_enter Tryz.func73,Tryz.ntmps73
  (go_wp2_with fail);go_ret
  exact⟨by rw[HZ.out];rfl,bw _⟩
 ·have hb:(c==97)=false:=by simpa using h1
  by_cases h2:c=98
  ·have hb2:(c==98)=true:=by simpa using h2
   have HZ:Hid (C=2):=by show _=_;rw[HC.out,if_neg h1,if_pos h2]
   clear h1 h2 HC;go_enter Tryz.func73,Tryz.ntmps73
   (go_wp2_with fail);go_ret
   exact⟨by rw[HZ.out];rfl,bw _⟩
  ·have hb2:(c==98)=false:=by simpa using h2
   by_cases h3:c=114
   ·have hb3:(c==114)=true:=by simpa using h3
    have HZ:Hid (C=3):=by show _=_;rw[HC.out,if_neg h1,if_neg h2,if_pos h3]
    clear h1 h2 h3 HC;go_enter Tryz.func73,Tryz.ntmps73
    (go_wp2_with fail);go_ret
    exact⟨by rw[HZ.out];rfl,bw _⟩
   ·have hb3:(c==114)=false:=by simpa using h3
    have HZ:Hid (C=if d&&!b then 0 else 4):=by show _=_;rw[HC.out,if_neg h1,if_neg h2,if_neg h3]
    clear h1 h2 h3 HC;cases d
    ·go_enter Tryz.func73,Tryz.ntmps73
     (go_wp2_with fail);go_ret
     exact⟨by rw[HZ.out];rfl,bw _⟩
    ·cases b
     ·go_enter Tryz.func73,Tryz.ntmps73
      (go_wp2_with fail);go_ret
      exact⟨by rw[HZ.out];rfl,bw _⟩
     ·go_enter Tryz.func73,Tryz.ntmps73
      (go_wp2_with fail);go_ret
      exact⟨by rw[HZ.out];rfl,bw _⟩
theorem qbdj (r1 r2:Option Addr) (c1 c2 n1 n2:Nat) (xs ys:List QB) (l1:xs.length=n1) (l2:ys.length=n2) (w:World) (hX:qx w (.slice r1 n1 c1) xs) (hY:qx w (.slice r2 n2 c2) ys) (mx:MidT xs) (my:MidT ys) :
  Calls Tryz.prog 71 #[.slice r1 n1 c1,.slice r2 n2 c2] w fun e w'=>e=.returned (.int .i64 (padO cmpD [] xs ys 0))∧w'=w:=by
 have HX:=qb hX;have HY:=qb hY;have HL1:=qb l1;have HL2:=qb l2;have m1:n1≤1048576:=by rw[←l1];exact mx.1
 have m2:n2≤1048576:=by rw[←l2];exact my.1
 have CD:∀ s t:QB,s.length≤1048576→t.length≤1048576→∀ w,Calls Tryz.prog 70 #[.string (qd s),.string (qd t)] w fun e w'=>e=.returned (.int .i64 (cmpD s t))∧w'=w:=fun s t hs ht w=>by
  have:=qth (qd s) (qd t) w (by rw[qr];omega) (by rw[qr];omega)
  rw[qj,qj]at this;exact this
 have GX:Hid (∀ i,(xs.getD i []).length≤1048576):=fun i=>by
  by_cases h:i<xs.length
  ·rw[List.getD_eq_getElem?_getD,qbsc h];exact mx.2 _ (qbvk h)
  ·rw[List.getD_eq_getElem?_getD,List.getElem?_eq_none (by omega)];simp
 have GY:Hid (∀ i,(ys.getD i []).length≤1048576):=fun i=>by
  by_cases h:i<ys.length
  ·rw[List.getD_eq_getElem?_getD,qbsc h];exact my.2 _ (qbvk h)
  ·rw[List.getD_eq_getElem?_getD,List.getElem?_eq_none (by omega)];simp
 have HP:=qb (qjp cmpD [] xs ys);have HE:=qb (qpp cmpD [] xs ys);have CD:=qb CD;clear hX hY l1 l2 mx my;obtain⟨R,HR⟩:∃ R,Hid (R=padO cmpD [] xs ys 0):=⟨_,rfl⟩;rw[←HR.out];go_enter Tryz.func71,Tryz.ntmps71
 (go_wp2_with fail);go_loop [5] (fun i=>∃ k:Nat,k≤max n1 n2∧i=.int .i64 k∧Hid (R=padO cmpD [] xs ys k)) (fun i=>max n1 n2-(intOf i).toNat)
 case atStart=>exact⟨0,by omega,rfl,HR⟩
 case round=>
  obtain⟨k,hk,rfl,HI⟩:=hrel
  by_cases hm:k<max n1 n2
  ·have HS:=qb (HP.out k (by rw[HL1.out,HL2.out];exact hm))
   have CC:=qb (CD.out _ _ (GX.out k) (GY.out k))
   by_cases h1:k<n1
   ·have h1':(k:Int)<(n1:Int):=by omega
    have j1:k<xs.length:=by rw[HL1.out];exact h1
    obtain⟨b1,o1,rfl,e1⟩:=HX.out.some (by omega)
    have e1:=e1 k j1;have g1:xs.getD k []=xs[k]:=by rw[List.getD_eq_getElem?_getD,qbsc j1];rfl
    rw[←g1]at e1;clear g1 j1
    by_cases h2:k<n2
    ·have h2':(k:Int)<(n2:Int):=by omega
     have j2:k<ys.length:=by rw[HL2.out];exact h2
     obtain⟨b2,o2,rfl,e2⟩:=HY.out.some (by omega)
     have e2:=e2 k j2;have g2:ys.getD k []=ys[k]:=by rw[List.getD_eq_getElem?_getD,qbsc j2];rfl
     rw[←g2]at e2;clear g2 j2;generalize xs.getD k []=s at *;generalize ys.getD k []=t at *;generalize cmpD s t=O at *
     by_cases h0:O=0
     ·subst h0;have HN:Hid (R=padO cmpD [] xs ys (k+1)):=by show _=_;rw[HI.out,HS.out,if_pos rfl]
      clear HS HI;(go_wp2_with fail);refine(CC.out _).mono ?_;rintro e w' ⟨rfl,hw'⟩;rw[hw'];clear hw' w';(go_wp2_with fail);go_round
      case rel=>exact⟨k+1,by omega,by go_num,HN⟩
      case measure=>simp[intOf];omega
     ·have hb0:(O != 0)=true:=by simpa using h0
      have HN:Hid (R=O):=by show _=_;rw[HI.out,HS.out,if_neg h0]
      clear HS HI h0;(go_wp2_with fail);refine(CC.out _).mono ?_;rintro e w' ⟨rfl,hw'⟩;rw[hw'];clear hw' w';(go_wp2_with fail);go_ret
      exact⟨qbv HN.out.symm,rfl⟩
    ·have h2':¬ (k:Int)<(n2:Int):=by omega
     have g2:ys.getD k []=[]:=by rw[List.getD_eq_getElem?_getD,List.getElem?_eq_none (by rw[HL2.out];omega)];rfl
     rw[g2]at CC HS;clear g2;have CC:Hid (∀ w,Calls Tryz.prog 70 #[.string (qd (xs.getD k [])),.string ⟨#[]⟩] w fun e w'=>e=.returned (.int .i64 (cmpD (xs.getD k []) []))∧w'=w):=CC;generalize xs.getD k []=s at *;generalize cmpD s []=O at *
     by_cases h0:O=0
     ·subst h0;have HN:Hid (R=padO cmpD [] xs ys (k+1)):=by show _=_;rw[HI.out,HS.out,if_pos rfl]
      clear HS HI;(go_wp2_with fail);refine(CC.out _).mono ?_;rintro e w' ⟨rfl,hw'⟩;rw[hw'];clear hw' w';(go_wp2_with fail);go_round
      case rel=>exact⟨k+1,by omega,by go_num,HN⟩
      case measure=>simp[intOf];omega
     ·have hb0:(O != 0)=true:=by simpa using h0
      have HN:Hid (R=O):=by show _=_;rw[HI.out,HS.out,if_neg h0]
      clear HS HI h0;(go_wp2_with fail);refine(CC.out _).mono ?_;rintro e w' ⟨rfl,hw'⟩;rw[hw'];clear hw' w';(go_wp2_with fail);go_ret
      exact⟨qbv HN.out.symm,rfl⟩
   ·have h1':¬ (k:Int)<(n1:Int):=by omega
    have h2:k<n2:=by omega
    have h2':(k:Int)<(n2:Int):=by omega
    have j2:k<ys.length:=by rw[HL2.out];exact h2
    obtain⟨b2,o2,rfl,e2⟩:=HY.out.some (by omega)
    have e2:=e2 k j2;have g2:ys.getD k []=ys[k]:=by rw[List.getD_eq_getElem?_getD,qbsc j2];rfl
    rw[←g2]at e2;have g1:xs.getD k []=[]:=by rw[List.getD_eq_getElem?_getD,List.getElem?_eq_none (by rw[HL1.out];omega)];rfl
    rw[g1]at CC HS;clear g1 g2 j2;have CC:Hid (∀ w,Calls Tryz.prog 70 #[.string ⟨#[]⟩,.string (qd (ys.getD k []))] w fun e w'=>e=.returned (.int .i64 (cmpD [] (ys.getD k [])))∧w'=w):=CC;generalize ys.getD k []=t at *;generalize cmpD [] t=O at *
    by_cases h0:O=0
    ·subst h0;have HN:Hid (R=padO cmpD [] xs ys (k+1)):=by show _=_;rw[HI.out,HS.out,if_pos rfl]
     clear HS HI;(go_wp2_with fail);refine(CC.out _).mono ?_;rintro e w' ⟨rfl,hw'⟩;rw[hw'];clear hw' w';(go_wp2_with fail);go_round
     case rel=>exact⟨k+1,by omega,by go_num,HN⟩
     case measure=>simp[intOf];omega
    ·have hb0:(O != 0)=true:=by simpa using h0
     have HN:Hid (R=O):=by show _=_;rw[HI.out,HS.out,if_neg h0]
     clear HS HI h0;(go_wp2_with fail);refine(CC.out _).mono ?_;rintro e w' ⟨rfl,hw'⟩;rw[hw'];clear hw' w';(go_wp2_with fail);go_ret
     exact⟨qbv HN.out.symm,rfl⟩
  ·have HZ:Hid (R=0):=by show _=_;rw[HI.out,HE.out k (by rw[HL1.out,HL2.out];omega)]
   have h1':¬ (k:Int)<(n1:Int):=by omega
   have h2':¬ (k:Int)<(n2:Int):=by omega
   (go_wp2_with fail);go_ret
   exact⟨by rw[HZ.out];rfl,rfl⟩
theorem qbpx (a b:List QB) (i:Nat) (ha:i<a.length) (hb:i<b.length):locR (a.drop i) (b.drop i)=if locO a[i] b[i]=0 then locR (a.drop (i+1)) (b.drop (i+1)) else locO a[i] b[i]:=by
 rw[qbsg ha,qbsg hb,locR]
theorem locR_end (a b:List QB) (i:Nat) (h:a.length≤i∨b.length≤i) (ha:i≤a.length) (hb:i≤b.length):locR (a.drop i) (b.drop i)=cmpI (a.length:Int) (b.length:Int):=by
 unfold cmpI
 by_cases h1:a.length≤i
 ·rw[qbsm h1]
  by_cases h2:b.length≤i
  ·rw[qbsm h2,if_neg (by omega),if_neg (by omega)];rfl
  ·rw[qbsg (by omega),if_pos (by omega)];rfl
 ·have h2:b.length≤i:=by omega
  rw[qbsm h2,qbsg (show i<a.length by omega),if_neg (by omega),if_pos (by omega)];rfl
theorem qbns {t:QB} (h:t≠[]):digB t=decide (qn 1 t=t.length):=by
 unfold digB;have:t.isEmpty=false:=by cases t with|nil=>exact absurd rfl h|cons c r=>rfl
 rw[this,Bool.eq_iff_iff];simp
theorem qbhw (r1 r2:Option Addr) (c1 c2 n1 n2:Nat) (xs ys:List QB) (l1:xs.length=n1) (l2:ys.length=n2) (w:World) (hX:qx w (.slice r1 n1 c1) xs) (hY:qx w (.slice r2 n2 c2) ys) (mx:MidT xs) (my:MidT ys) (nx:∀ t∈xs,t≠[]) (ny:∀ t∈ys,t≠[]) :
  Calls Tryz.prog 75 #[.slice r1 n1 c1,.slice r2 n2 c2] w fun e w'=>e=.returned (.int .i64 (locR xs ys))∧Below w.heap.size w w':=by
 have HX:=qb hX;have HY:=qb hY;have HL1:=qb l1;have HL2:=qb l2;have m1:n1≤1048576:=by rw[←l1];exact mx.1
 have m2:n2≤1048576:=by rw[←l2];exact my.1
 have MX:=qb mx.2;have MY:=qb my.2;have NX:=qb nx;have NY:=qb ny;have RK:=qb (fun b w=>qgm b w);have IT:=qb (fun a b w=>qhj a b w);clear hX hY l1 l2 mx my nx ny;obtain⟨R,HR⟩:∃ R,Hid (R=locR (xs.drop 0) (ys.drop 0)):=⟨_,rfl⟩;rw[show locR xs ys=R from HR.out.symm];go_enter Tryz.func75,Tryz.ntmps75
 (go_wp2_with fail);go_loopw [5] (fun i wr=>∃ k:Nat,k≤n1∧k≤n2∧i=.int .i64 k∧Below w.heap.size w wr∧Hid (R=locR (xs.drop k) (ys.drop k))) (fun i _=>n1-(intOf i).toNat)
 case atStart=>exact⟨0,by omega,by omega,rfl,Below.refl _ _,HR⟩
 case round=>
  obtain⟨k,hk1,hk2,rfl,hB,HI⟩:=hrel
  by_cases hm:k<n1∧k<n2
  ·obtain ⟨h1,h2⟩:=hm;have h1':(k:Int)<(n1:Int):=by omega
   have h2':(k:Int)<(n2:Int):=by omega
   have j1:k<xs.length:=by rw[HL1.out];exact h1
   have j2:k<ys.length:=by rw[HL2.out];exact h2
   obtain⟨b1,o1,rfl,e1⟩:=(HX.out.below hB).some (by omega)
   obtain⟨b2,o2,rfl,e2⟩:=(HY.out.below hB).some (by omega)
   have e1:=e1 k j1;have e2:=e2 k j2;have HS:=qb (qbpx xs ys k j1 j2);have ms:=MX.out _ (qbvk j1);have mt:=MY.out _ (qbvk j2);have ds:=qbns (NX.out _ (qbvk j1));have dt:=qbns (NY.out _ (qbvk j2));generalize xs[k]=s at *;generalize ys[k]=t at *;clear j1 j2;have RS:=fun w=>qgx (qd s) 0 1 w (by rw[qr];unfold maxLen;omega)
   have RT:=fun w=>qgx (qd t) 0 1 w (by rw[qr];unfold maxLen;omega)
   rw[show runI (qd s).data.toList 0 1=(qn 1 s:Int) by have:=qdl (qd s) 0 1 (Nat.zero_le _);rw[qj]at this ⊢;simpa using this]at RS
   rw[show runI (qd t).data.toList 0 1=(qn 1 t:Int) by have:=qdl (qd t) 0 1 (Nat.zero_le _);rw[qj]at this ⊢;simpa using this]at RT
   have CD:=fun w=>qth (qd s) (qd t) w (by rw[qr];omega) (by rw[qr];omega)
   have CT:=fun w=>qzd (qd s) (qd t) w;rw[qj,qj]at CD CT;have qs:((qn 1 s:Int)==((qd s).size:Int))=digB s:=by rw[ds,qr,Bool.eq_iff_iff];simp only[beq_iff_eq,decide_eq_true_eq];omega
   have qt:((qn 1 t:Int)==((qd t).size:Int))=digB t:=by rw[dt,qr,Bool.eq_iff_iff];simp only[beq_iff_eq,decide_eq_true_eq];omega
   have HLO:Hid (locO s t=if digB s then (if digB t then cmpD s t else 1) else if digB t then -1 else Lib.compareBytes s t):=rfl;have RS:=qb RS;have RT:=qb RT;have CD:=qb CD;have CT:=qb CT;clear ds dt ms mt;generalize locO s t=O at *;generalize digB s=x at *;generalize digB t=y at *;generalize cmpD s t=cd at *;generalize Lib.compareBytes s t=ct at *;generalize (qn 1 s:Int)=rs at *;generalize (qn 1 t:Int)=rt at *;generalize qd s=sa at *;generalize qd t=ta at *;cases x
   ·cases y
    ·have HO:Hid (O=ct):=by show _=_;rw[HLO.out];rfl
     clear HLO;(go_wp2_with fail);go_quiet (first|(go_at_call 52;exact qbts (RS.out _))|fail)
     have hB1:=hB.trans (qz _ wr nq);have e1:(wr.drewN nq).cell? ⟨b1,o1+k,none⟩=some (.string sa):=e1;have e2:(wr.drewN nq).cell? ⟨b2,o2+k,none⟩=some (.string ta):=e2;generalize wr.drewN nq=W1 at *;(go_wp2_with fail);go_quiet (first|(go_at_call 52;exact qbts (RT.out _))|fail)
     have hB2:=hB1.trans (qz _ W1 nq);have e1:(W1.drewN nq).cell? ⟨b1,o1+k,none⟩=some (.string sa):=e1;have e2:(W1.drewN nq).cell? ⟨b2,o2+k,none⟩=some (.string ta):=e2;generalize W1.drewN nq=W2 at *;(go_wp2_with fail);refine(RK.out false _).mono ?_;rintro e w' ⟨rfl,hw'⟩;rw[hw'];clear hw' w';(go_wp2_with fail);refine(RK.out false _).mono ?_;rintro e w' ⟨rfl,hw'⟩;rw[hw'];clear hw' w';(go_wp2_with fail);refine(IT.out _ _ _).mono ?_;rintro e w' ⟨rfl,hw'⟩;rw[hw'];clear hw' w';(go_wp2_with fail);go_quiet (first|(go_at_call 100;exact qbts (CT.out _))|fail)
     have hB3:=hB2.trans (qz _ W2 nq);generalize W2.drewN nq=W3 at *
     by_cases h0:O=0
     ·have HN:Hid (R=locR (xs.drop (k+1)) (ys.drop (k+1))):=by show _=_;rw[HI.out,HS.out,if_pos h0]
      have hz:(ct != 0)=false:=by rw[←HO.out];simpa using h0
      clear HS HI h0 HO;(go_wp2_with fail);go_roundw
      case rel=>exact⟨k+1,by omega,by omega,by go_num,hB3,HN⟩
      case measure=>simp[intOf];omega
     ·have HN:Hid (R=ct):=by show _=_;rw[HI.out,HS.out,if_neg h0];exact HO.out
      have hz:(ct != 0)=true:=by rw[←HO.out];simpa using h0
      clear HS HI h0 HO;(go_wp2_with fail);go_ret
      exact⟨qbv HN.out.symm,hB3⟩
    ·have HNR:Hid (R=-1):=by show _=_;rw[HI.out,HS.out,HLO.out];rfl
     clear HS HI HLO;(go_wp2_with fail);go_quiet (first|(go_at_call 52;exact qbts (RS.out _))|fail)
     have hB1:=hB.trans (qz _ wr nq);have e1:(wr.drewN nq).cell? ⟨b1,o1+k,none⟩=some (.string sa):=e1;have e2:(wr.drewN nq).cell? ⟨b2,o2+k,none⟩=some (.string ta):=e2;generalize wr.drewN nq=W1 at *;(go_wp2_with fail);go_quiet (first|(go_at_call 52;exact qbts (RT.out _))|fail)
     have hB2:=hB1.trans (qz _ W1 nq);have e1:(W1.drewN nq).cell? ⟨b1,o1+k,none⟩=some (.string sa):=e1;have e2:(W1.drewN nq).cell? ⟨b2,o2+k,none⟩=some (.string ta):=e2;generalize W1.drewN nq=W2 at *;(go_wp2_with fail);refine(RK.out false _).mono ?_;rintro e w' ⟨rfl,hw'⟩;rw[hw'];clear hw' w';(go_wp2_with fail);refine(RK.out true _).mono ?_;rintro e w' ⟨rfl,hw'⟩;rw[hw'];clear hw' w';(go_wp2_with fail);refine(IT.out _ _ _).mono ?_;rintro e w' ⟨rfl,hw'⟩;rw[hw'];clear hw' w';(go_wp2_with fail);go_ret
     exact⟨qbv HNR.out.symm,hB2⟩
   ·cases y
    ·have HNR:Hid (R=1):=by show _=_;rw[HI.out,HS.out,HLO.out];rfl
     clear HS HI HLO;(go_wp2_with fail);go_quiet (first|(go_at_call 52;exact qbts (RS.out _))|fail)
     have hB1:=hB.trans (qz _ wr nq);have e1:(wr.drewN nq).cell? ⟨b1,o1+k,none⟩=some (.string sa):=e1;have e2:(wr.drewN nq).cell? ⟨b2,o2+k,none⟩=some (.string ta):=e2;generalize wr.drewN nq=W1 at *;(go_wp2_with fail);go_quiet (first|(go_at_call 52;exact qbts (RT.out _))|fail)
     have hB2:=hB1.trans (qz _ W1 nq);have e1:(W1.drewN nq).cell? ⟨b1,o1+k,none⟩=some (.string sa):=e1;have e2:(W1.drewN nq).cell? ⟨b2,o2+k,none⟩=some (.string ta):=e2;generalize W1.drewN nq=W2 at *;(go_wp2_with fail);refine(RK.out true _).mono ?_;rintro e w' ⟨rfl,hw'⟩;rw[hw'];clear hw' w';(go_wp2_with fail);refine(RK.out false _).mono ?_;rintro e w' ⟨rfl,hw'⟩;rw[hw'];clear hw' w';(go_wp2_with fail);refine(IT.out _ _ _).mono ?_;rintro e w' ⟨rfl,hw'⟩;rw[hw'];clear hw' w';(go_wp2_with fail);go_ret
     exact⟨qbv HNR.out.symm,hB2⟩
    ·have HO:Hid (O=cd):=by show _=_;rw[HLO.out];rfl
     clear HLO;(go_wp2_with fail);go_quiet (first|(go_at_call 52;exact qbts (RS.out _))|fail)
     have hB1:=hB.trans (qz _ wr nq);have e1:(wr.drewN nq).cell? ⟨b1,o1+k,none⟩=some (.string sa):=e1;have e2:(wr.drewN nq).cell? ⟨b2,o2+k,none⟩=some (.string ta):=e2;generalize wr.drewN nq=W1 at *;(go_wp2_with fail);go_quiet (first|(go_at_call 52;exact qbts (RT.out _))|fail)
     have hB2:=hB1.trans (qz _ W1 nq);have e1:(W1.drewN nq).cell? ⟨b1,o1+k,none⟩=some (.string sa):=e1;have e2:(W1.drewN nq).cell? ⟨b2,o2+k,none⟩=some (.string ta):=e2;generalize W1.drewN nq=W2 at *;(go_wp2_with fail);refine(RK.out true _).mono ?_;rintro e w' ⟨rfl,hw'⟩;rw[hw'];clear hw' w';(go_wp2_with fail);refine(RK.out true _).mono ?_;rintro e w' ⟨rfl,hw'⟩;rw[hw'];clear hw' w';(go_wp2_with fail);refine(IT.out _ _ _).mono ?_;rintro e w' ⟨rfl,hw'⟩;rw[hw'];clear hw' w';(go_wp2_with fail);go_quiet (first|(go_at_call 70;exact qbts (CD.out _))|fail)
     have hB3:=hB2.trans (qz _ W2 nq);generalize W2.drewN nq=W3 at *
     by_cases h0:O=0
     ·have HN:Hid (R=locR (xs.drop (k+1)) (ys.drop (k+1))):=by show _=_;rw[HI.out,HS.out,if_pos h0]
      have hz:(cd != 0)=false:=by rw[←HO.out];simpa using h0
      clear HS HI h0 HO;(go_wp2_with fail);go_roundw
      case rel=>exact⟨k+1,by omega,by omega,by go_num,hB3,HN⟩
      case measure=>simp[intOf];omega
     ·have HN:Hid (R=cd):=by show _=_;rw[HI.out,HS.out,if_neg h0];exact HO.out
      have hz:(cd != 0)=true:=by rw[←HO.out];simpa using h0
      clear HS HI h0 HO;(go_wp2_with fail);go_ret
      exact⟨qbv HN.out.symm,hB3⟩
  ·have HZ:Hid (R=cmpI (n1:Int) (n2:Int)):=by show _=_;rw[HI.out,locR_end xs ys k (by rw[HL1.out,HL2.out];omega) (by rw[HL1.out];omega) (by rw[HL2.out];omega),HL1.out,HL2.out]
   have RF:=qb (IT.out (n1:Int) (n2:Int));rw[←HZ.out]at RF
   by_cases h1:k<n1
   ·have h1':(k:Int)<(n1:Int):=by omega
    have h2':¬ (k:Int)<(n2:Int):=by omega
    clear hm;(go_wp2_with fail);refine(RF.out _).mono ?_;rintro e w' ⟨rfl,hw'⟩;rw[hw'];clear hw' w';(go_wp2_with fail);go_ret
    exact⟨rfl,hB⟩
   ·have h1':¬ (k:Int)<(n1:Int):=by omega
    clear hm;(go_wp2_with fail);refine(RF.out _).mono ?_;rintro e w' ⟨rfl,hw'⟩;rw[hw'];clear hw' w';(go_wp2_with fail);go_ret
    exact⟨rfl,hB⟩
set_option maxHeartbeats 8000000
set_option maxRecDepth 1000000
theorem qpq (s t:QB) (hs:s.length≤1048576) (ht:t.length≤1048576) (w:World):Calls Tryz.prog 70 #[.string (qd s),.string (qd t)] w fun e w'=>e=.returned (.int .i64 (cmpD s t))∧w'=w:=by
 have:=qth (qd s) (qd t) w (by rw[qr];omega) (by rw[qr];omega)
 rw[qj,qj]at this;exact this
theorem qwk (x y:PepL) (r1 r2 q1 q2:Option Addr) (c1 c2 d1 d2:Nat) (w:World) (ra:qx w (.slice r1 x.rel.length c1) x.rel) (rb:qx w (.slice r2 y.rel.length c2) y.rel) (la:qx w (.slice q1 x.loc.length d1) x.loc) (lb:qx w (.slice q2 y.loc.length d2) y.loc) (hx:MidP x) (hy:MidP y) (fx:fitR x=true) (fy:fitR y=true) :
 Calls Tryz.prog 40 #[.agg #[.string (qd x.ep),.slice r1 x.rel.length c1,.int .u8 x.c,.string (qd x.n),.bool x.b,.string (qd x.m),.bool x.d,.string (qd x.k),.slice q1 x.loc.length d1],.agg #[.string (qd y.ep),.slice r2 y.rel.length c2,.int .u8 y.c,.string (qd y.n),.bool y.b,.string (qd y.m),.bool y.d,.string (qd y.k),.slice q2 y.loc.length d2]] w fun e w'=>e=.returned (.int .i64 (ordR x y))∧Below w.heap.size w w':=by
  have nx:∀ t∈x.loc,t≠[]:=fun t h=>(qbdf (List.all_eq_true.1 (fit_of fx).f8 t h)).1;have ny:∀ t∈y.loc,t≠[]:=fun t h=>(qbdf (List.all_eq_true.1 (fit_of fy).f8 t h)).1;have FX:=fun w h1 h2=>qbdr x r1 q1 c1 d1 w h1 h2 hx;have FY:=fun w h1 h2=>qbdr y r2 q2 c2 d2 w h1 h2 hy;rw[fx]at FX;rw[fy]at FY;have C1:=qpq x.ep y.ep hx.e hy.e;have C2:=fun w h1 h2=>qbdj r1 r2 c1 c2 _ _ x.rel y.rel rfl rfl w h1 h2 hx.r hy.r;have C3:=qwc x r1 q1 c1 d1;have C4:=qwc y r2 q2 c2 d2;have C5:=qhj (clsR x) (clsR y);have C6:=qpq x.n y.n hx.n hy.n;have C7:=qgm x.b;have C8:=qgm y.b;have C9:=qhj (qgb x.b) (qgb y.b);have C10:=qpq x.m y.m hx.m hy.m;have C11:=qgm (!x.d);have C12:=qgm (!y.d);have C13:=qhj (qgb !x.d) (qgb !y.d);have C14:=qpq x.k y.k hx.k hy.k;have C15:=fun w h1 h2=>qbhw q1 q2 d1 d2 _ _ x.loc y.loc rfl rfl w h1 h2 hx.l hy.l nx ny;have S0:=OB.start ra rb la lb;obtain⟨L,HL,HO⟩:∃ L,L=[cmpD x.ep y.ep,padO cmpD [] x.rel y.rel 0,cmpI (clsR x) (clsR y),cmpD x.n y.n,cmpI (qgb x.b) (qgb y.b),cmpD x.m y.m,cmpI (qgb !x.d) (qgb !y.d),cmpD x.k y.k,locR x.loc y.loc]∧Hid (ordR x y=orI (L.drop 0)):=⟨_,rfl,rfl⟩;have FX:=qb FX;have FY:=qb FY;have C1:=qb C1;have C2:=qb C2;have C3:=qb C3;have C4:=qb C4;have C5:=qb C5;have C6:=qb C6;have C7:=qb C7;have C8:=qb C8
  have C9:=qb C9;have C10:=qb C10;have C11:=qb C11;have C12:=qb C12;have C13:=qb C13;have C14:=qb C14;have C15:=qb C15;generalize ordR x y=O at *;generalize cmpD x.ep y.ep=o1 at *;generalize padO cmpD [] x.rel y.rel 0=o2 at *;generalize cmpI (clsR x) (clsR y)=o3 at *;generalize cmpD x.n y.n=o4 at *;generalize cmpI (qgb x.b) (qgb y.b)=o5 at *;generalize cmpD x.m y.m=o6 at *;generalize cmpI (qgb !x.d) (qgb !y.d)=o7 at *;generalize cmpD x.k y.k=o8 at *;generalize locR x.loc y.loc=o9 at *;generalize clsR x=k1 at *;generalize clsR y=k2 at *;have HL:=qb HL;clear ra rb la lb hx hy fx fy nx ny;go_enter Tryz.func40,Tryz.ntmps40
  (go_wp2_with fail);generalize (w.alloc (.cells #[.string (qd x.ep),.slice r1 x.rel.length c1,.int .u8 x.c,.string (qd x.n),.bool x.b,.string (qd x.m),.bool x.d,.string (qd x.k),.slice q1 x.loc.length d1] 44)).alloc (.cells #[.string (qd y.ep),.slice r2 y.rel.length c2,.int .u8 y.c,.string (qd y.n),.bool y.b,.string (qd y.m),.bool y.d,.string (qd y.k),.slice q2 y.loc.length d2] 44)=W0 at *;obtain⟨s0,s1,s2,s3,s4,s5,s6,s7,s8,s9,s10,s11,s12,s13,s14,s15,s16,s17⟩:=S0.seen;(go_wp2_with fail);refine(FX.out _ S0.ra S0.la).mono ?_;rintro e W1 ⟨rfl,b1⟩;have S1:=S0.next b1;clear S0 s0 s1 s2 s3 s4 s5 s6 s7 s8 s9 s10 s11 s12 s13 s14 s15 s16 s17 b1;obtain⟨s0,s1,s2,s3,s4,s5,s6,s7,s8,s9,s10,s11,s12,s13,s14,s15,s16,s17⟩:=S1.seen
  try dsimp only
  (go_wp2_with fail);refine(FY.out _ S1.rb S1.lb).mono ?_;rintro e W2 ⟨rfl,b2⟩;have S2:=S1.next b2;clear S1 s0 s1 s2 s3 s4 s5 s6 s7 s8 s9 s10 s11 s12 s13 s14 s15 s16 s17 b2;obtain⟨s0,s1,s2,s3,s4,s5,s6,s7,s8,s9,s10,s11,s12,s13,s14,s15,s16,s17⟩:=S2.seen
  try dsimp only
  (go_wp2_with fail);have D0:=S2.drew
  try dsimp only
  go_region_held3 (fun w'=>w'.cell? ⟨w.heap.size,0,none⟩=some (.string (qd x.ep))∧w'.cell? ⟨w.heap.size,1,none⟩=some (.slice r1 x.rel.length c1)∧w'.cell? ⟨w.heap.size,2,none⟩=some (.int .u8 x.c)∧w'.cell? ⟨w.heap.size,3,none⟩=some (.string (qd x.n))∧w'.cell? ⟨w.heap.size,4,none⟩=some (.bool x.b)∧w'.cell? ⟨w.heap.size,5,none⟩=some (.string (qd x.m))∧w'.cell? ⟨w.heap.size,6,none⟩=some (.bool x.d)∧w'.cell? ⟨w.heap.size,7,none⟩=some (.string (qd x.k))∧w'.cell? ⟨w.heap.size,8,none⟩=some (.slice q1 x.loc.length d1)∧w'.cell? ⟨w.heap.size+1,0,none⟩=some (.string (qd y.ep))∧w'.cell? ⟨w.heap.size+1,1,none⟩=some (.slice r2 y.rel.length c2)∧w'.cell? ⟨w.heap.size+1,2,none⟩=some (.int .u8 y.c)∧w'.cell? ⟨w.heap.size+1,3,none⟩=some (.string (qd y.n))∧w'.cell? ⟨w.heap.size+1,4,none⟩=some (.bool y.b)∧w'.cell? ⟨w.heap.size+1,5,none⟩=some (.string (qd y.m))∧w'.cell? ⟨w.heap.size+1,6,none⟩=some (.bool y.d)∧w'.cell? ⟨w.heap.size+1,7,none⟩=some (.string (qd y.k))∧w'.cell? ⟨w.heap.size+1,8,none⟩=some (.slice q2 y.loc.length d2))
    (go_keep)
    ((first
      | (have hq:=Q14;go_at_call 75;refine(C15.out _ Q14.la Q14.lb).mono ?_;rintro e w15 ⟨rfl,b15⟩;have Q15:=Q14.next b15;obtain⟨f15_0,f15_1,f15_2,f15_3,f15_4,f15_5,f15_6,f15_7,f15_8,f15_9,f15_10,f15_11,f15_12,f15_13,f15_14,f15_15,f15_16,f15_17⟩:=Q15.seen)
      | (have hq:=Q13;go_at_call 70;refine(C14.out _).mono ?_;rintro e w14 ⟨rfl,hw14⟩;rw[hw14];clear hw14 w14;have Q14:=Q13)
      | (have hq:=Q12;go_at_call 72;refine(C13.out _).mono ?_;rintro e w13 ⟨rfl,hw13⟩;rw[hw13];clear hw13 w13;have Q13:=Q12)
      | (have hq:=Q11;go_at_call 74;refine(C12.out _).mono ?_;rintro e w12 ⟨rfl,hw12⟩;rw[hw12];clear hw12 w12;have Q12:=Q11)
      | (have hq:=Q10;go_at_call 74;refine(C11.out _).mono ?_;rintro e w11 ⟨rfl,hw11⟩;rw[hw11];clear hw11 w11;have Q11:=Q10)
      | (have hq:=Q9;go_at_call 70;refine(C10.out _).mono ?_;rintro e w10 ⟨rfl,hw10⟩;rw[hw10];clear hw10 w10;have Q10:=Q9)
      | (have hq:=Q8;go_at_call 72;refine(C9.out _).mono ?_;rintro e w9 ⟨rfl,hw9⟩;rw[hw9];clear hw9 w9;have Q9:=Q8)
      | (have hq:=Q7;go_at_call 74;refine(C8.out _).mono ?_;rintro e w8 ⟨rfl,hw8⟩;rw[hw8];clear hw8 w8;have Q8:=Q7)
      | (have hq:=Q6;go_at_call 74;refine(C7.out _).mono ?_;rintro e w7 ⟨rfl,hw7⟩;rw[hw7];clear hw7 w7;have Q7:=Q6)
      | (have hq:=Q5;go_at_call 70;refine(C6.out _).mono ?_;rintro e w6 ⟨rfl,hw6⟩;rw[hw6];clear hw6 w6;have Q6:=Q5)
      | (have hq:=Q4;go_at_call 72;refine(C5.out _).mono ?_;rintro e w5 ⟨rfl,hw5⟩;rw[hw5];clear hw5 w5;have Q5:=Q4)
      | (have hq:=Q3;go_at_call 73;refine(C4.out _).mono ?_;rintro e w4 ⟨rfl,b4⟩;have Q4:=Q3.next b4;obtain⟨f4_0,f4_1,f4_2,f4_3,f4_4,f4_5,f4_6,f4_7,f4_8,f4_9,f4_10,f4_11,f4_12,f4_13,f4_14,f4_15,f4_16,f4_17⟩:=Q4.seen)
      | (have hq:=Q2;go_at_call 73;refine(C3.out _).mono ?_;rintro e w3 ⟨rfl,b3⟩;have Q3:=Q2.next b3;obtain⟨f3_0,f3_1,f3_2,f3_3,f3_4,f3_5,f3_6,f3_7,f3_8,f3_9,f3_10,f3_11,f3_12,f3_13,f3_14,f3_15,f3_16,f3_17⟩:=Q3.seen)
      | (have hq:=Q1;go_at_call 71;refine(C2.out _ Q1.ra Q1.rb).mono ?_;rintro e w2 ⟨rfl,hw2⟩;rw[hw2];clear hw2 w2;have Q2:=Q1)
      | (go_at_call 70;refine(C1.out _).mono ?_;rintro e w1 ⟨rfl,hw1⟩;rw[hw1];clear hw1 w1;have Q1:=D0;obtain⟨f1_0,f1_1,f1_2,f1_3,f1_4,f1_5,f1_6,f1_7,f1_8,f1_9,f1_10,f1_11,f1_12,f1_13,f1_14,f1_15,f1_16,f1_17⟩:=Q1.seen)
      | fail))
  have A9:=World.alloc_heap_new w15 (.cells #[.int .i64 o1,.int .i64 o2,.int .i64 o3,.int .i64 o4,.int .i64 o5,.int .i64 o6,.int .i64 o7,.int .i64 o8,.int .i64 o9] 3);have B15:=Q15.bel.alloc Q15.bel.size (.cells #[.int .i64 o1,.int .i64 o2,.int .i64 o3,.int .i64 o4,.int .i64 o5,.int .i64 o6,.int .i64 o7,.int .i64 o8,.int .i64 o9] 3);generalize w15.alloc (.cells #[.int .i64 o1,.int .i64 o2,.int .i64 o3,.int .i64 o4,.int .i64 o5,.int .i64 o6,.int .i64 o7,.int .i64 o8,.int .i64 o9] 3)=WA at *
  have LN:Hid (L.length=9):=by
    have hl:=HL.out;show _=_;rw[hl];rfl
  have E9:Hid (∀ k (h:k<L.length),WA.cell? ⟨w15.heap.size,k,none⟩=some (.int .i64 L[k])):=by
    have hl:=HL.out;clear HL;subst hl;intro k h;have hk:k<9:=h
    match k,hk with
    | 0,_=>exact qc 0 A9 rfl
    | 1,_=>exact qc 1 A9 rfl
    | 2,_=>exact qc 2 A9 rfl
    | 3,_=>exact qc 3 A9 rfl
    | 4,_=>exact qc 4 A9 rfl
    | 5,_=>exact qc 5 A9 rfl
    | 6,_=>exact qc 6 A9 rfl
    | 7,_=>exact qc 7 A9 rfl
    | 8,_=>exact qc 8 A9 rfl
  clear A9;clear HL FX FY C1 C2 C3 C4 C5 C6 C7 C8 C9 C10 C11 C12 C13 C14 C15 Q1 Q2 Q3 Q4 Q5 Q6 Q7 Q8 Q9 Q10 Q11 Q12 Q13 Q14 Q15 D0 S2 s0 s1 s2 s3 s4 s5 s6 s7 s8 s9 s10 s11 s12 s13 s14 s15 s16 s17 f1_0 f1_1 f1_2 f1_3 f1_4 f1_5 f1_6 f1_7 f1_8 f1_9 f1_10 f1_11 f1_12 f1_13 f1_14 f1_15 f1_16 f1_17 f3_0 f3_1 f3_2 f3_3 f3_4 f3_5 f3_6 f3_7 f3_8 f3_9 f3_10 f3_11 f3_12 f3_13 f3_14 f3_15 f3_16 f3_17 f4_0 f4_1 f4_2 f4_3 f4_4 f4_5 f4_6 f4_7 f4_8 f4_9 f4_10 f4_11 f4_12 f4_13 f4_14 f4_15 f4_16 f4_17 f15_0 f15_1 f15_2 f15_3 f15_4 f15_5 f15_6 f15_7 f15_8 f15_9 f15_10 f15_11 f15_12 f15_13 f15_14 f15_15 f15_16 f15_17
  try dsimp only
  go_wp2_with fail
  try dsimp only
  go_loop [6] (fun i=>∃ k:Nat,k≤9∧i=.int .i64 k∧Hid (O=orI (L.drop k))) (fun i=>9-(intOf i).toNat)
  case atStart=>exact⟨0,by omega,rfl,HO⟩
  case round=>
    obtain⟨k,hk,rfl,HI⟩:=hrel
    by_cases hm:k<9
    · have hm':(k:Int)<9:=by omega
      have hj:k<L.length:=by rw[LN.out];exact hm
      have e1:=E9.out k hj;have HS:=qb (qbhr L k hj);generalize L[k]=o at *;clear hj
      by_cases h0:o=0
      · subst h0
        have HN:Hid (O=orI (L.drop (k+1))):=by show _=_;rw[HI.out,HS.out,if_pos rfl]
        clear HS HI;(go_wp2_with fail);go_round
        case rel=>exact⟨k+1,by omega,by go_num,HN⟩
        case measure=>simp[intOf];omega
      · have hb0:(o != 0)=true:=by simpa using h0
        have HN:Hid (O=o):=by show _=_;rw[HI.out,HS.out,if_neg h0]
        clear HS HI h0;(go_wp2_with fail);go_ret
        exact⟨qbv HN.out.symm,B15⟩
    · have hm':¬ (k:Int)<9:=by omega
      have HZ:Hid (O=0):=by show _=_;rw[HI.out,qbmz L k (by rw[LN.out];omega)]
      (go_wp2_with fail);go_ret
      exact⟨by rw[HZ.out];rfl,B15⟩
end Go.Proofs.YtabmfdedbpmfmaaGreat
