/- Plain laws of orders: PEP 440's order of versions and of tex -/
import Derived.Test.YtabmfdedbpmfmaaGreatUPj
import Derived.StillTailTactics
import Derived.Deep.QuietTactic
import Derived.BigQuiet
namespace Go.Proofs.YtabmfdedbpmfmaaGreat
open Go.RowKit Go.Shelf
set_option linter.unusedVariables false
set_option maxHeartbeats 1000000
def orI:List Int→Int
 | []=>0
 | x::r=>if x=0 then orI r else x
def locO (a b:QB):Int:=if digB a then (if digB b then cmpD a b else 1) else if digB b then -1 else Lib.compareBytes a b
def padO (O:QB→QB→Int) (d:QB) (xs ys:List QB) (k:Nat):Int:=
 orI ((List.range' k (max xs.length ys.length-k)).map fun i=>O (xs.getD i d) (ys.getD i d))
theorem qqg (O:QB→QB→Int) (d:QB) (xs ys:List QB) (k:Nat) (h:max xs.length ys.length≤k):padO O d xs ys k=0:=by
 unfold padO;rw[show max xs.length ys.length-k=0 by omega]
 rfl
theorem qjj (O:QB→QB→Int) (d:QB) (xs ys:List QB) (k:Nat) (h:k<max xs.length ys.length):padO O d xs ys k=if O (xs.getD k d) (ys.getD k d)=0 then padO O d xs ys (k+1) else O (xs.getD k d) (ys.getD k d):=by
 unfold padO;rw[show max xs.length ys.length-k=(max xs.length ys.length-(k+1))+1 by omega,List.range'_succ]
 rfl
theorem qvs (a b:QY) (w:World) (ha:a.size≤9223372036854775806) (hb:b.size≤9223372036854775806) :
  Calls Tryz.prog 111 #[.string a,.string b] w fun e w'=>e=.returned (.int .i64 (locO a.data.toList b.data.toList))∧w'=w:=by
 have hO:locO a.data.toList b.data.toList=if digB a.data.toList then (if digB b.data.toList then cmpD a.data.toList b.data.toList else 1) else if digB b.data.toList then -1 else Lib.compareBytes a.data.toList b.data.toList:=rfl;have D1:=qb (fun w=>qhb a w (by unfold maxLen;omega))
 have D2:=qb (fun w=>qhb b w (by unfold maxLen;omega))
 generalize locO a.data.toList b.data.toList=O at *;generalize digB a.data.toList=x at *;generalize digB b.data.toList=y at *;have HO:=qb hO;clear hO;cases x<;>cases y
 ·go_enter Tryz.func111,Tryz.ntmps111
  (go_wp2_with fail);refine(D1.out _).mono ?_;rintro e w' ⟨rfl,rfl⟩;(go_wp2_with fail);refine(D2.out _).mono ?_;rintro e w' ⟨rfl,rfl⟩;(go_wp2_with fail);refine(qml _ _ _).mono ?_;rintro e w' ⟨rfl,rfl⟩;(go_wp2_with fail);go_ret
  exact⟨qbv (by rw[HO.out];rfl),rfl⟩
 ·go_enter Tryz.func111,Tryz.ntmps111
  (go_wp2_with fail);refine(D1.out _).mono ?_;rintro e w' ⟨rfl,rfl⟩;(go_wp2_with fail);refine(D2.out _).mono ?_;rintro e w' ⟨rfl,rfl⟩;(go_wp2_with fail);go_ret
  exact⟨qbv (by rw[HO.out];rfl),rfl⟩
 ·go_enter Tryz.func111,Tryz.ntmps111
  (go_wp2_with fail);refine(D1.out _).mono ?_;rintro e w' ⟨rfl,rfl⟩;(go_wp2_with fail);refine(D2.out _).mono ?_;rintro e w' ⟨rfl,rfl⟩;(go_wp2_with fail);go_ret
  exact⟨qbv (by rw[HO.out];rfl),rfl⟩
 ·go_enter Tryz.func111,Tryz.ntmps111
  (go_wp2_with fail);refine(D1.out _).mono ?_;rintro e w' ⟨rfl,rfl⟩;(go_wp2_with fail);refine(D2.out _).mono ?_;rintro e w' ⟨rfl,rfl⟩;(go_wp2_with fail);refine(qsq _ _ _ ha hb).mono ?_;rintro e w' ⟨rfl,rfl⟩;(go_wp2_with fail);go_ret
  exact⟨qbv (by rw[HO.out];rfl),rfl⟩
theorem qlc (v:Value) (xs:List QB) (i:Nat) (d:QY) (w:World) (h:qz w v xs) (hl:xs.length≤9223372036854775806) :
  Calls Tryz.prog 130 #[v,.int .i64 (i:Int),.string d] w fun e w'=>e=.returned (.string (qd (xs.getD i d.data.toList)))∧w'=w:=by
 obtain⟨a1,c1,rfl,_⟩:=id h
 by_cases hi:i<xs.length
 ·obtain⟨b1,o1,rfl,hc1⟩:=h.some (by omega)
  have p1:=hc1 i hi;have hd:decide ((i:Int)<(xs.length:Int))=true:=by simp;omega
  have HG:Hid (xs.getD i d.data.toList=xs[i]):=by show _=_;rw[List.getD_eq_getElem?_getD,List.getElem?_eq_getElem hi];rfl
  rw[HG.out];clear hc1 h HG;generalize xs[i]=x at *;go_enter Tryz.func130,Tryz.ntmps130
  (go_wp2_with fail);go_ret
  exact⟨rfl,rfl⟩
 ·have hd:decide ((i:Int)<(xs.length:Int))=false:=by simp;omega
  have hd3:¬ ((i:Int)<(xs.length:Int)):=by omega
  have HG:Hid (xs.getD i d.data.toList=d.data.toList):=by show _=_;rw[List.getD_eq_getElem?_getD,List.getElem?_eq_none (by omega)];rfl
  rw[HG.out];have HD:Hid (qd d.data.toList=d):=qcw d;rw[HD.out];clear HG HD h;go_enter Tryz.func130,Tryz.ntmps130
  (go_wp2_with fail);go_ret
  exact⟨rfl,rfl⟩
theorem qkt {ts:List QB} (h:qrv ts) (i:Nat) (d:QB) (hd:d.length≤9223372036854775806):(ts.getD i d).length≤9223372036854775806:=by
 rw[List.getD_eq_getElem?_getD]
 by_cases hi:i<ts.length
 ·rw[List.getElem?_eq_getElem hi];exact h.2 _ (List.getElem_mem _)
 ·rw[List.getElem?_eq_none (by omega)];exact hd
theorem qtc (va vb:Value) (xs ys:List QB) (d:QY) (w:World) (ha:qz w va xs) (hb:qz w vb ys) (sx:qrv xs) (sy:qrv ys) (hd:d.size≤9223372036854775806) :
  Calls Tryz.prog 107 #[va,vb,.string d,.func (.func 106) #[] #[]] w fun e w'=>e=.returned (.int .i64 (padO cmpD d.data.toList xs ys 0))∧w'=w:=by
 obtain ⟨a1,c1,rfl,_⟩:=id ha;obtain⟨a2,c2,rfl,_⟩:=id hb;have PA:=qb (fun i:Nat=>qlc _ xs i d w ha sx.1);have PB:=qb (fun i:Nat=>qlc _ ys i d w hb sy.1);have CC:Hid (∀ i:Nat,Calls Tryz.prog 106 #[.string (qd (xs.getD i d.data.toList)),.string (qd (ys.getD i d.data.toList))] w fun e w'=>e=.returned (.int .i64 (cmpD (xs.getD i d.data.toList) (ys.getD i d.data.toList)))∧w'=w):=by
  intro i;have:=qsq (qd (xs.getD i d.data.toList)) (qd (ys.getD i d.data.toList)) w (by rw[qn];exact qkt sx i _ (by rw[qg];exact hd)) (by rw[qn];exact qkt sy i _ (by rw[qg];exact hd))
  rwa [qj,qj]at this
 have lx:=sx.1;have ly:=sy.1;have HS:=qb (fun k h=>qjj cmpD d.data.toList xs ys k h);have HE:=qb (fun k h=>qqg cmpD d.data.toList xs ys k h)
 by_cases hle:xs.length<ys.length
 ·have hM:max xs.length ys.length=ys.length:=by omega
  have g1:(xs.length:Int)<(ys.length:Int):=by omega
  have g2:¬ (ys.length:Int)≤(xs.length:Int):=by omega
  have g3:¬ (ys.length:Int)<(xs.length:Int):=by omega
  rw[hM]at HS HE;clear ha hb sx sy hM;go_enter Tryz.func107,Tryz.ntmps107
  (go_wp2_with fail);go_loop [16] (fun i=>∃ k:Nat,k≤ys.length∧i=.int .i64 k∧Hid (padO cmpD d.data.toList xs ys 0=padO cmpD d.data.toList xs ys k)) (fun i=>ys.length-(intOf i).toNat)
  case atStart=>exact⟨0,by omega,rfl,rfl⟩
  case round=>
   obtain⟨k,hk,rfl,HR⟩:=hrel
   by_cases h1:k<ys.length
   ·have hd1:decide ((k:Int)<(ys.length:Int))=true:=by simp;omega
    have pa:=qb (PA.out k);have pb:=qb (PB.out k);have cc:=qb (CC.out k);have hX:=HS.out k h1;generalize cmpD (xs.getD k d.data.toList) (ys.getD k d.data.toList)=O at *;generalize qd (xs.getD k d.data.toList)=x at *;generalize qd (ys.getD k d.data.toList)=y at *
    by_cases h0:O=0
    ·subst h0;rw[if_pos rfl]at hX;have HX:=qb hX;clear hX;(go_wp2_with fail);refine pa.out.mono ?_;rintro e w' ⟨rfl,hw'⟩;rw[hw'];clear hw' w';(go_wp2_with fail);refine pb.out.mono ?_;rintro e w' ⟨rfl,hw'⟩;rw[hw'];clear hw' w';(go_wp2_with fail);refine cc.out.mono ?_;rintro e w' ⟨rfl,hw'⟩;rw[hw'];clear hw' w';(go_wp2_with fail);go_round
     case rel=>exact⟨k+1,by omega,by go_num,by show _=_;rw[HR.out,HX.out]⟩
     case measure=>simp[intOf];omega
    ·rw[if_neg h0]at hX;have hb0:(O != 0)=true:=by simpa using h0
     have HX:=qb hX;clear hX h0;(go_wp2_with fail);refine pa.out.mono ?_;rintro e w' ⟨rfl,hw'⟩;rw[hw'];clear hw' w';(go_wp2_with fail);refine pb.out.mono ?_;rintro e w' ⟨rfl,hw'⟩;rw[hw'];clear hw' w';(go_wp2_with fail);refine cc.out.mono ?_;rintro e w' ⟨rfl,hw'⟩;rw[hw'];clear hw' w';(go_wp2_with fail);go_ret
     exact⟨qbv (by rw[HR.out,HX.out]),rfl⟩
   ·have hd1:decide ((k:Int)<(ys.length:Int))=false:=by simp;omega
    have hd3:¬ ((k:Int)<(ys.length:Int)):=by omega
    have HX:=qb (HE.out k (by omega))
    (go_wp2_with fail);go_ret
    exact⟨qbv (by rw[HR.out,HX.out]),rfl⟩
 ·have hM:max xs.length ys.length=xs.length:=by omega
  have g1:¬ (xs.length:Int)<(ys.length:Int):=by omega
  have g2:(ys.length:Int)≤(xs.length:Int):=by omega
  rw[hM]at HS HE;clear ha hb sx sy hM;go_enter Tryz.func107,Tryz.ntmps107
  (go_wp2_with fail);go_loop [16] (fun i=>∃ k:Nat,k≤xs.length∧i=.int .i64 k∧Hid (padO cmpD d.data.toList xs ys 0=padO cmpD d.data.toList xs ys k)) (fun i=>xs.length-(intOf i).toNat)
  case atStart=>exact⟨0,by omega,rfl,rfl⟩
  case round=>
   obtain⟨k,hk,rfl,HR⟩:=hrel
   by_cases h1:k<xs.length
   ·have hd1:decide ((k:Int)<(xs.length:Int))=true:=by simp;omega
    have pa:=qb (PA.out k);have pb:=qb (PB.out k);have cc:=qb (CC.out k);have hX:=HS.out k h1;generalize cmpD (xs.getD k d.data.toList) (ys.getD k d.data.toList)=O at *;generalize qd (xs.getD k d.data.toList)=x at *;generalize qd (ys.getD k d.data.toList)=y at *
    by_cases h0:O=0
    ·subst h0;rw[if_pos rfl]at hX;have HX:=qb hX;clear hX;(go_wp2_with fail);refine pa.out.mono ?_;rintro e w' ⟨rfl,hw'⟩;rw[hw'];clear hw' w';(go_wp2_with fail);refine pb.out.mono ?_;rintro e w' ⟨rfl,hw'⟩;rw[hw'];clear hw' w';(go_wp2_with fail);refine cc.out.mono ?_;rintro e w' ⟨rfl,hw'⟩;rw[hw'];clear hw' w';(go_wp2_with fail);go_round
     case rel=>exact⟨k+1,by omega,by go_num,by show _=_;rw[HR.out,HX.out]⟩
     case measure=>simp[intOf];omega
    ·rw[if_neg h0]at hX;have hb0:(O != 0)=true:=by simpa using h0
     have HX:=qb hX;clear hX h0;(go_wp2_with fail);refine pa.out.mono ?_;rintro e w' ⟨rfl,hw'⟩;rw[hw'];clear hw' w';(go_wp2_with fail);refine pb.out.mono ?_;rintro e w' ⟨rfl,hw'⟩;rw[hw'];clear hw' w';(go_wp2_with fail);refine cc.out.mono ?_;rintro e w' ⟨rfl,hw'⟩;rw[hw'];clear hw' w';(go_wp2_with fail);go_ret
     exact⟨qbv (by rw[HR.out,HX.out]),rfl⟩
   ·have hd1:decide ((k:Int)<(xs.length:Int))=false:=by simp;omega
    have hd3:¬ ((k:Int)<(xs.length:Int)):=by omega
    have HX:=qb (HE.out k (by omega))
    (go_wp2_with fail);go_ret
    exact⟨qbv (by rw[HR.out,HX.out]),rfl⟩
theorem qtt (va vb:Value) (xs ys:List QB) (d:QY) (w:World) (ha:qz w va xs) (hb:qz w vb ys) (sx:qrv xs) (sy:qrv ys) (hd:d.size≤9223372036854775806) :
  Calls Tryz.prog 107 #[va,vb,.string d,.func (.func 111) #[] #[]] w fun e w'=>e=.returned (.int .i64 (padO locO d.data.toList xs ys 0))∧w'=w:=by
 obtain ⟨a1,c1,rfl,_⟩:=id ha;obtain⟨a2,c2,rfl,_⟩:=id hb;have PA:=qb (fun i:Nat=>qlc _ xs i d w ha sx.1);have PB:=qb (fun i:Nat=>qlc _ ys i d w hb sy.1);have CC:Hid (∀ i:Nat,Calls Tryz.prog 111 #[.string (qd (xs.getD i d.data.toList)),.string (qd (ys.getD i d.data.toList))] w fun e w'=>e=.returned (.int .i64 (locO (xs.getD i d.data.toList) (ys.getD i d.data.toList)))∧w'=w):=by
  intro i;have:=qvs (qd (xs.getD i d.data.toList)) (qd (ys.getD i d.data.toList)) w (by rw[qn];exact qkt sx i _ (by rw[qg];exact hd)) (by rw[qn];exact qkt sy i _ (by rw[qg];exact hd))
  rwa [qj,qj]at this
 have lx:=sx.1;have ly:=sy.1;have HS:=qb (fun k h=>qjj locO d.data.toList xs ys k h);have HE:=qb (fun k h=>qqg locO d.data.toList xs ys k h)
 by_cases hle:xs.length<ys.length
 ·have hM:max xs.length ys.length=ys.length:=by omega
  have g1:(xs.length:Int)<(ys.length:Int):=by omega
  have g2:¬ (ys.length:Int)≤(xs.length:Int):=by omega
  have g3:¬ (ys.length:Int)<(xs.length:Int):=by omega
  rw[hM]at HS HE;clear ha hb sx sy hM;go_enter Tryz.func107,Tryz.ntmps107
  (go_wp2_with fail);go_loop [16] (fun i=>∃ k:Nat,k≤ys.length∧i=.int .i64 k∧Hid (padO locO d.data.toList xs ys 0=padO locO d.data.toList xs ys k)) (fun i=>ys.length-(intOf i).toNat)
  case atStart=>exact⟨0,by omega,rfl,rfl⟩
  case round=>
   obtain⟨k,hk,rfl,HR⟩:=hrel
   by_cases h1:k<ys.length
   ·have hd1:decide ((k:Int)<(ys.length:Int))=true:=by simp;omega
    have pa:=qb (PA.out k);have pb:=qb (PB.out k);have cc:=qb (CC.out k);have hX:=HS.out k h1;generalize locO (xs.getD k d.data.toList) (ys.getD k d.data.toList)=O at *;generalize qd (xs.getD k d.data.toList)=x at *;generalize qd (ys.getD k d.data.toList)=y at *
    by_cases h0:O=0
    ·subst h0;rw[if_pos rfl]at hX;have HX:=qb hX;clear hX;(go_wp2_with fail);refine pa.out.mono ?_;rintro e w' ⟨rfl,hw'⟩;rw[hw'];clear hw' w';(go_wp2_with fail);refine pb.out.mono ?_;rintro e w' ⟨rfl,hw'⟩;rw[hw'];clear hw' w';(go_wp2_with fail);refine cc.out.mono ?_;rintro e w' ⟨rfl,hw'⟩;rw[hw'];clear hw' w';(go_wp2_with fail);go_round
     case rel=>exact⟨k+1,by omega,by go_num,by show _=_;rw[HR.out,HX.out]⟩
     case measure=>simp[intOf];omega
    ·rw[if_neg h0]at hX;have hb0:(O != 0)=true:=by simpa using h0
     have HX:=qb hX;clear hX h0;(go_wp2_with fail);refine pa.out.mono ?_;rintro e w' ⟨rfl,hw'⟩;rw[hw'];clear hw' w';(go_wp2_with fail);refine pb.out.mono ?_;rintro e w' ⟨rfl,hw'⟩;rw[hw'];clear hw' w';(go_wp2_with fail);refine cc.out.mono ?_;rintro e w' ⟨rfl,hw'⟩;rw[hw'];clear hw' w';(go_wp2_with fail);go_ret
     exact⟨qbv (by rw[HR.out,HX.out]),rfl⟩
   ·have hd1:decide ((k:Int)<(ys.length:Int))=false:=by simp;omega
    have hd3:¬ ((k:Int)<(ys.length:Int)):=by omega
    have HX:=qb (HE.out k (by omega))
    (go_wp2_with fail);go_ret
    exact⟨qbv (by rw[HR.out,HX.out]),rfl⟩
 ·have hM:max xs.length ys.length=xs.length:=by omega
  have g1:¬ (xs.length:Int)<(ys.length:Int):=by omega
  have g2:(ys.length:Int)≤(xs.length:Int):=by omega
  rw[hM]at HS HE;clear ha hb sx sy hM;go_enter Tryz.func107,Tryz.ntmps107
  (go_wp2_with fail);go_loop [16] (fun i=>∃ k:Nat,k≤xs.length∧i=.int .i64 k∧Hid (padO locO d.data.toList xs ys 0=padO locO d.data.toList xs ys k)) (fun i=>xs.length-(intOf i).toNat)
  case atStart=>exact⟨0,by omega,rfl,rfl⟩
  case round=>
   obtain⟨k,hk,rfl,HR⟩:=hrel
   by_cases h1:k<xs.length
   ·have hd1:decide ((k:Int)<(xs.length:Int))=true:=by simp;omega
    have pa:=qb (PA.out k);have pb:=qb (PB.out k);have cc:=qb (CC.out k);have hX:=HS.out k h1;generalize locO (xs.getD k d.data.toList) (ys.getD k d.data.toList)=O at *;generalize qd (xs.getD k d.data.toList)=x at *;generalize qd (ys.getD k d.data.toList)=y at *
    by_cases h0:O=0
    ·subst h0;rw[if_pos rfl]at hX;have HX:=qb hX;clear hX;(go_wp2_with fail);refine pa.out.mono ?_;rintro e w' ⟨rfl,hw'⟩;rw[hw'];clear hw' w';(go_wp2_with fail);refine pb.out.mono ?_;rintro e w' ⟨rfl,hw'⟩;rw[hw'];clear hw' w';(go_wp2_with fail);refine cc.out.mono ?_;rintro e w' ⟨rfl,hw'⟩;rw[hw'];clear hw' w';(go_wp2_with fail);go_round
     case rel=>exact⟨k+1,by omega,by go_num,by show _=_;rw[HR.out,HX.out]⟩
     case measure=>simp[intOf];omega
    ·rw[if_neg h0]at hX;have hb0:(O != 0)=true:=by simpa using h0
     have HX:=qb hX;clear hX h0;(go_wp2_with fail);refine pa.out.mono ?_;rintro e w' ⟨rfl,hw'⟩;rw[hw'];clear hw' w';(go_wp2_with fail);refine pb.out.mono ?_;rintro e w' ⟨rfl,hw'⟩;rw[hw'];clear hw' w';(go_wp2_with fail);refine cc.out.mono ?_;rintro e w' ⟨rfl,hw'⟩;rw[hw'];clear hw' w';(go_wp2_with fail);go_ret
     exact⟨qbv (by rw[HR.out,HX.out]),rfl⟩
   ·have hd1:decide ((k:Int)<(xs.length:Int))=false:=by simp;omega
    have hd3:¬ ((k:Int)<(xs.length:Int)):=by omega
    have HX:=qb (HE.out k (by omega))
    (go_wp2_with fail);go_ret
    exact⟨qbv (by rw[HR.out,HX.out]),rfl⟩
set_option maxHeartbeats 1000000
set_option maxRecDepth 100000
theorem qbdp (xs:List Int) (k:Nat) (h:k<xs.length):orI (xs.drop k)=if xs[k]=0 then orI (xs.drop (k+1)) else xs[k]:=by
 rw[List.drop_eq_getElem_cons h]
 rfl
theorem qbmw (xs:List Int) (k:Nat) (h:xs.length≤k):orI (xs.drop k)=0:=by
 rw[List.drop_eq_nil_of_le h]
 rfl
theorem Or_any (B:Nat) (xs:List Int) (n:Nat) (hn:xs.length=n) (w:World) (h:∀ i (h:i<xs.length),w.cell? ⟨B,i,none⟩=some (.int .i64 xs[i])) (hl:n≤64) :
  Calls Tryz.prog 105 #[.slice (some ⟨B,0,none⟩) n n] w fun e w'=>e=.returned (.int .i64 (orI xs))∧w'=w:=by
 have HC:=qb h;have HN:=qb hn;clear h hn;go_enter Tryz.func105,Tryz.ntmps105
 (go_wp2_with fail);go_loop [8] (fun i=>∃ k:Nat,k≤n∧i=.int .i64 k∧Hid (orI xs=orI (xs.drop k))) (fun i=>n-(intOf i).toNat)
 case atStart=>exact⟨0,by omega,rfl,rfl⟩
 case round=>
  obtain⟨k,hk,rfl,HR⟩:=hrel
  by_cases h1:k<n
  ·have hd1:decide ((k:Int)<(n:Int))=true:=by simp;omega
   have hk':k<xs.length:=by rw[HN.out];exact h1
   have p1:=HC.out k hk';have hX:=qbdp xs k hk';generalize xs[k]=O at *
   by_cases h0:O=0
   ·subst h0;rw[if_pos rfl]at hX;have HX:=qb hX;clear hX hk';(go_wp2_with fail);go_round
    case rel=>exact⟨k+1,by omega,by go_num,by show _=_;rw[HR.out,HX.out]⟩
    case measure=>simp[intOf];omega
   ·rw[if_neg h0]at hX;have hb0:(O != 0)=true:=by simpa using h0
    have HX:=qb hX;clear hX h0 hk';(go_wp2_with fail);go_ret
    exact⟨qbv (by rw[HR.out,HX.out]),rfl⟩
  ·have hd1:decide ((k:Int)<(n:Int))=false:=by simp;omega
   have hd3:¬ ((k:Int)<(n:Int)):=by omega
   have HX:=qb (qbmw xs k (by rw[HN.out];omega))
   (go_wp2_with fail);go_ret
   exact⟨qbv (by rw[HR.out,HX.out]),rfl⟩
def cmpI (a b:Int):Int:=if a<b then -1 else if b<a then 1 else 0
theorem qjh (a:Int) (w:World):Calls Tryz.prog 148 #[.int .u8 a] w fun e w'=>e=.returned (.bool false)∧w'=w:=by
 go_enter Tryz.func148,Tryz.ntmps148
 (go_wp2_with fail);go_ret
 exact⟨by simp,rfl⟩
theorem cmpB_any (a b:Int) (w:World):Calls Tryz.prog 132 #[.int .u8 a,.int .u8 b] w fun e w'=>e=.returned (.int .i64 (cmpI a b))∧w'=w:=by
 by_cases h1:a<b
 ·have HO:Hid (cmpI a b=-1):=by show _=_;unfold cmpI;rw[if_pos h1]
  have hd:decide (a<b)=true:=by simp;omega
  go_enter Tryz.func132,Tryz.ntmps132
  (go_wp2_with fail);refine(qjh _ _).mono ?_;rintro e w' ⟨rfl,rfl⟩;(go_wp2_with fail);refine(qjh _ _).mono ?_;rintro e w' ⟨rfl,rfl⟩;(go_wp2_with fail);go_ret
  exact⟨qbv HO.out.symm,rfl⟩
 ·by_cases h2:b<a
  ·have HO:Hid (cmpI a b=1):=by show _=_;unfold cmpI;rw[if_neg h1,if_pos h2]
   have hd:decide (a<b)=false:=by simp;omega
   have hd2:decide (b<a)=true:=by simp;omega
   go_enter Tryz.func132,Tryz.ntmps132
   (go_wp2_with fail);refine(qjh _ _).mono ?_;rintro e w' ⟨rfl,rfl⟩;(go_wp2_with fail);refine(qjh _ _).mono ?_;rintro e w' ⟨rfl,rfl⟩;(go_wp2_with fail);go_ret
   exact⟨qbv HO.out.symm,rfl⟩
  ·have HO:Hid (cmpI a b=0):=by show _=_;unfold cmpI;rw[if_neg h1,if_neg h2]
   have hd:decide (a<b)=false:=by simp;omega
   have hd2:decide (b<a)=false:=by simp;omega
   go_enter Tryz.func132,Tryz.ntmps132
   (go_wp2_with fail);refine(qjh _ _).mono ?_;rintro e w' ⟨rfl,rfl⟩;(go_wp2_with fail);refine(qjh _ _).mono ?_;rintro e w' ⟨rfl,rfl⟩;(go_wp2_with fail);go_ret
   exact⟨qbv HO.out.symm,rfl⟩
def stgO (x y:Int×QB):Int:=orI [cmpI x.1 y.1,cmpD x.2 y.2]
theorem qjs (a b:Int) (m n:QY) (w:World) (hm:m.size≤9223372036854775806) (hn:n.size≤9223372036854775806) :
  Calls Tryz.prog 110 #[.agg #[.int .u8 a,.string m],.agg #[.int .u8 b,.string n]] w fun e w'=>e=.returned (.int .i64 (stgO (a,m.data.toList) (b,n.data.toList)))∧Below w.heap.size w w':=by
 have C1:=qb (fun w=>cmpB_any a b w);have C2:=qb (fun w=>qsq m n w hm hn);have HO:Hid (stgO (a,m.data.toList) (b,n.data.toList)=orI [cmpI a b,cmpD m.data.toList n.data.toList]):=rfl;generalize stgO (a,m.data.toList) (b,n.data.toList)=O at *;generalize cmpI a b=o1 at *;generalize cmpD m.data.toList n.data.toList=o2 at *;go_enter Tryz.func110,Tryz.ntmps110
 (go_wp2_with fail);refine wp_region_still_tail 10 (by kernel_rfl) (by kernel_rfl) ?_
 change wpStill _ _ (World.drew _) _ _ _
 simp only[List.take_succ_cons,List.take_zero,List.drop_succ_cons,List.drop_zero]
 still_step
 still_step
 still_step
 still_step
 still_call (C1.out _)
 still_step
 still_step
 still_step
 still_step
 still_call (C2.out _)
 refine wpStill_nil ?_;(go_wp2_with fail);refine(Or_any _ [o1,o2] 2 rfl _ (by
  intro i hi
  match i,hi with
  | 0,_=>go_simp
  | 1,_=>go_simp) (by omega)).mono ?_
 rintro e w' ⟨rfl,rfl⟩;(go_wp2_with fail);go_ret
 exact⟨qbv HO.out.symm,((((Below.refl _ w).alloc (Nat.le_refl _) _).alloc (by simp) _).alloc (by simp;omega) _).drew⟩
open Below renaming refl → qbsv
open Nat renaming le_refl → qbst
set_option maxHeartbeats 4000000
set_option maxRecDepth 100000
def stg1 (c:Int) (n:QY) (b d:Bool):Int×QY:=if c=0 then (if d&&!b then (0,⟨#[]⟩) else (255,⟨#[]⟩)) else (c,n)
def stg2 (b:Bool) (m:QY):Int×QY:=if b then (1,m) else (0,⟨#[]⟩)
def stg3 (d:Bool) (k:QY):Int×QY:=if d then (1,k) else (255,⟨#[]⟩)
theorem qjn {W:World} {o:Obj} {B:Nat} (h:W.heap.size=B):(W.alloc o).heap[B]? = some o:=h▸World.alloc_heap_new W o
def qhm (W:World) (B:Nat) (x y z:Int×QY):Prop:=W.heap[B]? = some (.cells #[.int .u8 x.1,.string x.2,.int .u8 y.1,.string y.2,.int .u8 z.1,.string z.2] 135 (0,0))
theorem qtg (e:QY) (vr:Value) (c:Int) (n:QY) (b:Bool) (m:QY) (d:Bool) (k:QY) (vl:Value) (op:∃ a i c,vr=.slice a i c) (ob:∃ a i c,vl=.slice a i c) (w:World) :
  Calls Tryz.prog 109 #[pepV e vr c n b m d k vl] w fun r w'=>∃ B,r=.returned (.slice (some ⟨B,0,none⟩) 3 3)∧w.heap.size≤B∧qhm w' B (stg1 c n b d) (stg2 b m) (stg3 d k)∧Below w.heap.size w w':=by
 obtain⟨a1,i1,c1,rfl⟩:=op;obtain⟨a2,i2,c2,rfl⟩:=ob;unfold pepV
 by_cases hc:c=0
 ·have hcb:(c != 0)=false:=by simp[hc]
  have HC:=qb hc;clear hc;cases b<;>cases d
  ·have X1:Hid (stg1 c n false false=(255,⟨#[]⟩)):=by show _=_;unfold stg1;rw[if_pos HC.out];rfl
   have X2:Hid (stg2 false m=(0,⟨#[]⟩)):=rfl;have X3:Hid (stg3 false k=(255,⟨#[]⟩)):=rfl;go_enter Tryz.func109,Tryz.ntmps109
   (go_wp2_with fail);go_ret
   rw[X1.out,X2.out,X3.out];refine⟨w.heap.size+1+1+1+1,rfl,by omega,qjn (by simp),?_⟩
   ·exact(((((qbsv w.heap.size w).alloc (qbst _) _).alloc (by simp) _).alloc (by simp;omega) _).alloc (by simp;omega) _).alloc (by simp;omega) _
  ·have X1:Hid (stg1 c n false true=(0,⟨#[]⟩)):=by show _=_;unfold stg1;rw[if_pos HC.out];rfl
   have X2:Hid (stg2 false m=(0,⟨#[]⟩)):=rfl;have X3:Hid (stg3 true k=(1,k)):=rfl;go_enter Tryz.func109,Tryz.ntmps109
   (go_wp2_with fail);go_ret
   rw[X1.out,X2.out,X3.out];refine⟨w.heap.size+1+1+1+1,rfl,by omega,qjn (by simp),?_⟩
   ·exact(((((qbsv w.heap.size w).alloc (qbst _) _).alloc (by simp) _).alloc (by simp;omega) _).alloc (by simp;omega) _).alloc (by simp;omega) _
  ·have X1:Hid (stg1 c n true false=(255,⟨#[]⟩)):=by show _=_;unfold stg1;rw[if_pos HC.out];rfl
   have X2:Hid (stg2 true m=(1,m)):=rfl;have X3:Hid (stg3 false k=(255,⟨#[]⟩)):=rfl;go_enter Tryz.func109,Tryz.ntmps109
   (go_wp2_with fail);go_ret
   rw[X1.out,X2.out,X3.out];refine⟨w.heap.size+1+1+1+1,rfl,by omega,qjn (by simp),?_⟩
   ·exact(((((qbsv w.heap.size w).alloc (qbst _) _).alloc (by simp) _).alloc (by simp;omega) _).alloc (by simp;omega) _).alloc (by simp;omega) _
  ·have X1:Hid (stg1 c n true true=(255,⟨#[]⟩)):=by show _=_;unfold stg1;rw[if_pos HC.out];rfl
   have X2:Hid (stg2 true m=(1,m)):=rfl;have X3:Hid (stg3 true k=(1,k)):=rfl;go_enter Tryz.func109,Tryz.ntmps109
   (go_wp2_with fail);go_ret
   rw[X1.out,X2.out,X3.out];refine⟨w.heap.size+1+1+1+1,rfl,by omega,qjn (by simp),?_⟩
   ·exact(((((qbsv w.heap.size w).alloc (qbst _) _).alloc (by simp) _).alloc (by simp;omega) _).alloc (by simp;omega) _).alloc (by simp;omega) _
 ·have hcb:(c != 0)=true:=by simpa using hc
  have HC:=qb hc;clear hc;cases b<;>cases d
  ·have X1:Hid (stg1 c n false false=(c,n)):=by show _=_;unfold stg1;rw[if_neg HC.out]
   have X2:Hid (stg2 false m=(0,⟨#[]⟩)):=rfl;have X3:Hid (stg3 false k=(255,⟨#[]⟩)):=rfl;go_enter Tryz.func109,Tryz.ntmps109
   (go_wp2_with fail);go_ret
   rw[X1.out,X2.out,X3.out];refine⟨w.heap.size+1+1+1+1,rfl,by omega,qjn (by simp),?_⟩
   ·exact(((((qbsv w.heap.size w).alloc (qbst _) _).alloc (by simp) _).alloc (by simp;omega) _).alloc (by simp;omega) _).alloc (by simp;omega) _
  ·have X1:Hid (stg1 c n false true=(c,n)):=by show _=_;unfold stg1;rw[if_neg HC.out]
   have X2:Hid (stg2 false m=(0,⟨#[]⟩)):=rfl;have X3:Hid (stg3 true k=(1,k)):=rfl;go_enter Tryz.func109,Tryz.ntmps109
   (go_wp2_with fail);go_ret
   rw[X1.out,X2.out,X3.out];refine⟨w.heap.size+1+1+1+1,rfl,by omega,qjn (by simp),?_⟩
   ·exact(((((qbsv w.heap.size w).alloc (qbst _) _).alloc (by simp) _).alloc (by simp;omega) _).alloc (by simp;omega) _).alloc (by simp;omega) _
  ·have X1:Hid (stg1 c n true false=(c,n)):=by show _=_;unfold stg1;rw[if_neg HC.out]
   have X2:Hid (stg2 true m=(1,m)):=rfl;have X3:Hid (stg3 false k=(255,⟨#[]⟩)):=rfl;go_enter Tryz.func109,Tryz.ntmps109
   (go_wp2_with fail);go_ret
   rw[X1.out,X2.out,X3.out];refine⟨w.heap.size+1+1+1+1,rfl,by omega,qjn (by simp),?_⟩
   ·exact(((((qbsv w.heap.size w).alloc (qbst _) _).alloc (by simp) _).alloc (by simp;omega) _).alloc (by simp;omega) _).alloc (by simp;omega) _
  ·have X1:Hid (stg1 c n true true=(c,n)):=by show _=_;unfold stg1;rw[if_neg HC.out]
   have X2:Hid (stg2 true m=(1,m)):=rfl;have X3:Hid (stg3 true k=(1,k)):=rfl;go_enter Tryz.func109,Tryz.ntmps109
   (go_wp2_with fail);go_ret
   rw[X1.out,X2.out,X3.out];refine⟨w.heap.size+1+1+1+1,rfl,by omega,qjn (by simp),?_⟩
   ·exact(((((qbsv w.heap.size w).alloc (qbst _) _).alloc (by simp) _).alloc (by simp;omega) _).alloc (by simp;omega) _).alloc (by simp;omega) _
set_option maxHeartbeats 1000000
set_option maxRecDepth 100000
theorem fin53 {R:Ending→World→Prop} (tmps:Array Value) (W:World) (B:Nat) (x:Int) (y:QY) (h:tmps.getD 6 undef=.pointer (some ⟨B,0,none⟩)) (e1:W.heap[B]? = some (.cells #[.int .u8 x,.string y] 135 (0,0)))
  (hR:R (.returned (.agg #[.int .u8 x,.string y])) W):bodyPost Tryz.prog Tryz.f131 R .ret { tmps:=tmps,defers:=[] } W:=by
 have s0:=qc 0 e1 rfl;have s1:=qc 1 e1 rfl;rw[Array.getD_eq_getD_getElem?]at h;refine⟨rfl,_,?_,hR⟩;simp[results,Tryz.results131,go_sem,h,s0,s1]
 try rfl
theorem qhm.lt {W:World} {B:Nat} {x y z:Int×QY} (h:qhm W B x y z):B<W.heap.size:=(Array.getElem?_eq_some_iff.1 h).1
theorem qhm.below {W W':World} {B:Nat} {x y z:Int×QY} (h:qhm W B x y z) (hb:Below W.heap.size W W'):qhm W' B x y z:=(hb.block B h.lt).trans h
theorem qhm.seen {W:World} {B:Nat} {x y z:Int×QY} (k:qhm W B x y z) :
  W.cell? ⟨B,0,none⟩=some (.int .u8 x.1)∧W.cell? ⟨B,1,none⟩=some (.string x.2)∧W.cell? ⟨B,2,none⟩=some (.int .u8 y.1)∧W.cell? ⟨B,3,none⟩=some (.string y.2)∧W.cell? ⟨B,4,none⟩=some (.int .u8 z.1)∧W.cell? ⟨B,5,none⟩=some (.string z.2):=
 ⟨qc 0 k rfl,qc 1 k rfl,qc 2 k rfl,qc 3 k rfl,qc 4 k rfl,qc 5 k rfl⟩
theorem qfr (B:Nat) (x y z:Int×QY) (dc:Int) (dn:QY) (w:World) (h:qhm w B x y z) :
  Calls Tryz.prog 131 #[.slice (some ⟨B,0,none⟩) 3 3,.int .i64 0,.agg #[.int .u8 dc,.string dn]] w fun r w'=>r=.returned (.agg #[.int .u8 x.1,.string x.2])∧Below w.heap.size w w':=by
 have hB:=h.lt;have q:=fun o1 o2:Obj=>((h.below ((qbsv _ _).alloc (qbst _) o1)).below ((qbsv _ _).alloc (qbst _) o2)).seen;obtain⟨x1,x2⟩:=x;obtain⟨y1,y2⟩:=y;obtain⟨z1,z2⟩:=z;simp only at q ⊢;clear h;go_enter Tryz.func131,Tryz.ntmps131
 (go_wp2_with fail);refine fin53 _ _ (w.heap.size+1) x1 x2 rfl (qjn (by simp)) ?_
 exact⟨rfl,((qbsv w.heap.size w).alloc (qbst _) _).alloc (by simp) _⟩
theorem qhh (B:Nat) (x y z:Int×QY) (dc:Int) (dn:QY) (w:World) (h:qhm w B x y z) :
  Calls Tryz.prog 131 #[.slice (some ⟨B,0,none⟩) 3 3,.int .i64 1,.agg #[.int .u8 dc,.string dn]] w fun r w'=>r=.returned (.agg #[.int .u8 y.1,.string y.2])∧Below w.heap.size w w':=by
 have hB:=h.lt;have q:=fun o1 o2:Obj=>((h.below ((qbsv _ _).alloc (qbst _) o1)).below ((qbsv _ _).alloc (qbst _) o2)).seen;obtain⟨x1,x2⟩:=x;obtain⟨y1,y2⟩:=y;obtain⟨z1,z2⟩:=z;simp only at q ⊢;clear h;go_enter Tryz.func131,Tryz.ntmps131
 (go_wp2_with fail);refine fin53 _ _ (w.heap.size+1) y1 y2 rfl (qjn (by simp)) ?_
 exact⟨rfl,((qbsv w.heap.size w).alloc (qbst _) _).alloc (by simp) _⟩
theorem qlg (B:Nat) (x y z:Int×QY) (dc:Int) (dn:QY) (w:World) (h:qhm w B x y z) :
  Calls Tryz.prog 131 #[.slice (some ⟨B,0,none⟩) 3 3,.int .i64 2,.agg #[.int .u8 dc,.string dn]] w fun r w'=>r=.returned (.agg #[.int .u8 z.1,.string z.2])∧Below w.heap.size w w':=by
 have hB:=h.lt;have q:=fun o1 o2:Obj=>((h.below ((qbsv _ _).alloc (qbst _) o1)).below ((qbsv _ _).alloc (qbst _) o2)).seen;obtain⟨x1,x2⟩:=x;obtain⟨y1,y2⟩:=y;obtain⟨z1,z2⟩:=z;simp only at q ⊢;clear h;go_enter Tryz.func131,Tryz.ntmps131
 (go_wp2_with fail);refine fin53 _ _ (w.heap.size+1) z1 z2 rfl (qjn (by simp)) ?_
 exact⟨rfl,((qbsv w.heap.size w).alloc (qbst _) _).alloc (by simp) _⟩
set_option maxHeartbeats 4000000
set_option maxRecDepth 100000
structure ST (w:World) (B C:Nat) (x y z x' y' z':Int×QY) (dc:Int) (dn:QY) (W:World):Prop where
 below:Below w.heap.size w W
 a:qhm W B x y z
 b:qhm W C x' y' z'
 box:W.heap[w.heap.size]? = some (.cells #[.int .u8 dc,.string dn] 135 (0,0))
theorem ST.go {w:World} {B C:Nat} {x y z x' y' z':Int×QY} {dc:Int} {dn:QY} {W W':World} (h:ST w B C x y z x' y' z' dc dn W) (hb:Below W.heap.size W W'):ST w B C x y z x' y' z' dc dn W':=
 ⟨h.below.trans (hb.mono h.below.size),h.a.below hb,h.b.below hb,(hb.block _ (Array.getElem?_eq_some_iff.1 h.box).1).trans h.box⟩
theorem ST.seen {w:World} {B C:Nat} {x y z x' y' z':Int×QY} {dc:Int} {dn:QY} {W:World} (h:ST w B C x y z x' y' z' dc dn W):W.cell? ⟨w.heap.size,0,none⟩=some (.int .u8 dc)∧W.cell? ⟨w.heap.size,1,none⟩=some (.string dn):=
 ⟨qc 0 h.box rfl,qc 1 h.box rfl⟩
theorem ST.drew {w:World} {B C:Nat} {x y z x' y' z':Int×QY} {dc:Int} {dn:QY} {W:World} (h:ST w B C x y z x' y' z' dc dn W):ST w B C x y z x' y' z' dc dn W.drew:=h.go (Below.refl _ _).drew
def stsO (x y z x' y' z':Int×QY):Int:=orI [stgO (x.1,x.2.data.toList) (x'.1,x'.2.data.toList),stgO (y.1,y.2.data.toList) (y'.1,y'.2.data.toList),stgO (z.1,z.2.data.toList) (z'.1,z'.2.data.toList)]
theorem qts (B C:Nat) (x y z x' y' z':Int×QY) (dc:Int) (dn:QY) (w:World) (ha:qhm w B x y z) (hb:qhm w C x' y' z')
 (s1:x.2.size≤9223372036854775806) (s2:y.2.size≤9223372036854775806) (s3:z.2.size≤9223372036854775806) (t1:x'.2.size≤9223372036854775806) (t2:y'.2.size≤9223372036854775806) (t3:z'.2.size≤9223372036854775806) :
 Calls Tryz.prog 108 #[.slice (some ⟨B,0,none⟩) 3 3,.slice (some ⟨C,0,none⟩) 3 3,.agg #[.int .u8 dc,.string dn],.func (.func 110) #[] #[]] w fun r w'=>r=.returned (.int .i64 (stsO x y z x' y' z'))∧Below w.heap.size w w':=by
  have S0:ST w B C x y z x' y' z' dc dn (w.alloc (.cells #[.int .u8 dc,.string dn] 135)):=by
    have bb:=(Below.refl w.heap.size w).alloc (Nat.le_refl _) (.cells #[.int .u8 dc,.string dn] 135);exact⟨bb,ha.below bb,hb.below bb,World.alloc_heap_new w _⟩
  have K0:=qb (fun W=>qjs x.1 x'.1 x.2 x'.2 W s1 t1);have K1:=qb (fun W=>qjs y.1 y'.1 y.2 y'.2 W s2 t2);have K2:=qb (fun W=>qjs z.1 z'.1 z.2 z'.2 W s3 t3);have HO:Hid (stsO x y z x' y' z'=orI [stgO (x.1,x.2.data.toList) (x'.1,x'.2.data.toList),stgO (y.1,y.2.data.toList) (y'.1,y'.2.data.toList),stgO (z.1,z.2.data.toList) (z'.1,z'.2.data.toList)]):=rfl;generalize stsO x y z x' y' z'=O at *;generalize stgO (x.1,x.2.data.toList) (x'.1,x'.2.data.toList)=o0 at *;generalize stgO (y.1,y.2.data.toList) (y'.1,y'.2.data.toList)=o1 at *;generalize stgO (z.1,z.2.data.toList) (z'.1,z'.2.data.toList)=o2 at *;clear ha hb s1 s2 s3 t1 t2 t3
  by_cases c0:o0=0
  · have k0 : (o0 != 0)=false:=by simpa using c0
    by_cases c1:o1=0
    · have k1:(o1 != 0)=false:=by simpa using c1
      by_cases c2:o2=0
      · have k2:(o2 != 0)=false:=by simpa using c2
        have HV:Hid (O=0):=by show _=_;rw[HO.out];simp[orI,c0,c1,c2]
        clear c0 c1 c2;go_enter Tryz.func108,Tryz.ntmps108
        (go_wp2_with fail);refine wp_loop_rounds 4 ?_;rw[rounds_succ];(go_wp2_with fail);generalize w.alloc (.cells #[.int .u8 dc,.string dn] 135)=W0 at *;have D0:=S0.drew;obtain⟨e0,f0⟩:=S0.seen
        go_region_held3 (fun w'=>w'.cell? ⟨w.heap.size,0,none⟩=some (.int .u8 dc)∧w'.cell? ⟨w.heap.size,1,none⟩=some (.string dn))
          (go_keep)
          ((first
            | (go_at_call 131;refine(qfr C x' y' z' dc dn _ P0.b).mono ?_;rintro e v0 ⟨rfl,b⟩;have Q0:=P0.go b;obtain⟨m0,n0⟩:=Q0.seen)
            | (go_at_call 131;refine(qfr B x y z dc dn _ D0.a).mono ?_;rintro e u0 ⟨rfl,b⟩;have P0:=D0.go b;obtain⟨g0,h0⟩:=P0.seen)
            | (go_at_call 110;refine(K0.out _).mono ?_;rintro e W1 ⟨rfl,b⟩;have S1:=Q0.go b;obtain⟨r0,t0⟩:=S1.seen)
            | fail))
        (go_wp2_with fail);rw[rounds_succ];(go_wp2_with fail);have D1:=S1.drew;obtain⟨e1,f1⟩:=S1.seen
        go_region_held3 (fun w'=>w'.cell? ⟨w.heap.size,0,none⟩=some (.int .u8 dc)∧w'.cell? ⟨w.heap.size,1,none⟩=some (.string dn))
          (go_keep)
          ((first
            | (go_at_call 131;refine(qhh C x' y' z' dc dn _ P1.b).mono ?_;rintro e v1 ⟨rfl,b⟩;have Q1:=P1.go b;obtain⟨m1,n1⟩:=Q1.seen)
            | (go_at_call 131;refine(qhh B x y z dc dn _ D1.a).mono ?_;rintro e u1 ⟨rfl,b⟩;have P1:=D1.go b;obtain⟨g1,h1⟩:=P1.seen)
            | (go_at_call 110;refine(K1.out _).mono ?_;rintro e W2 ⟨rfl,b⟩;have S2:=Q1.go b;obtain⟨r1,t1⟩:=S2.seen)
            | fail))
        (go_wp2_with fail);rw[rounds_succ];(go_wp2_with fail);have D2:=S2.drew;obtain⟨e2,f2⟩:=S2.seen
        go_region_held3 (fun w'=>w'.cell? ⟨w.heap.size,0,none⟩=some (.int .u8 dc)∧w'.cell? ⟨w.heap.size,1,none⟩=some (.string dn))
          (go_keep)
          ((first
            | (go_at_call 131;refine(qlg C x' y' z' dc dn _ P2.b).mono ?_;rintro e v2 ⟨rfl,b⟩;have Q2:=P2.go b;obtain⟨m2,n2⟩:=Q2.seen)
            | (go_at_call 131;refine(qlg B x y z dc dn _ D2.a).mono ?_;rintro e u2 ⟨rfl,b⟩;have P2:=D2.go b;obtain⟨g2,h2⟩:=P2.seen)
            | (go_at_call 110;refine(K2.out _).mono ?_;rintro e W3 ⟨rfl,b⟩;have S3:=Q2.go b;obtain⟨r2,t2⟩:=S3.seen)
            | fail))
        (go_wp2_with fail);rw[rounds_succ];(go_wp2_with fail);go_ret
        exact⟨qbv HV.out.symm,S3.below⟩
      · have k2:(o2 != 0)=true:=by simpa using c2
        have HV:Hid (O=o2):=by show _=_;rw[HO.out];simp[orI,c0,c1,c2]
        clear c0 c1 c2;go_enter Tryz.func108,Tryz.ntmps108
        (go_wp2_with fail);refine wp_loop_rounds 4 ?_;rw[rounds_succ];(go_wp2_with fail);generalize w.alloc (.cells #[.int .u8 dc,.string dn] 135)=W0 at *;have D0:=S0.drew;obtain⟨e0,f0⟩:=S0.seen
        go_region_held3 (fun w'=>w'.cell? ⟨w.heap.size,0,none⟩=some (.int .u8 dc)∧w'.cell? ⟨w.heap.size,1,none⟩=some (.string dn))
          (go_keep)
          ((first
            | (go_at_call 131;refine(qfr C x' y' z' dc dn _ P0.b).mono ?_;rintro e v0 ⟨rfl,b⟩;have Q0:=P0.go b;obtain⟨m0,n0⟩:=Q0.seen)
            | (go_at_call 131;refine(qfr B x y z dc dn _ D0.a).mono ?_;rintro e u0 ⟨rfl,b⟩;have P0:=D0.go b;obtain⟨g0,h0⟩:=P0.seen)
            | (go_at_call 110;refine(K0.out _).mono ?_;rintro e W1 ⟨rfl,b⟩;have S1:=Q0.go b;obtain⟨r0,t0⟩:=S1.seen)
            | fail))
        (go_wp2_with fail);rw[rounds_succ];(go_wp2_with fail);have D1:=S1.drew;obtain⟨e1,f1⟩:=S1.seen
        go_region_held3 (fun w'=>w'.cell? ⟨w.heap.size,0,none⟩=some (.int .u8 dc)∧w'.cell? ⟨w.heap.size,1,none⟩=some (.string dn))
          (go_keep)
          ((first
            | (go_at_call 131;refine(qhh C x' y' z' dc dn _ P1.b).mono ?_;rintro e v1 ⟨rfl,b⟩;have Q1:=P1.go b;obtain⟨m1,n1⟩:=Q1.seen)
            | (go_at_call 131;refine(qhh B x y z dc dn _ D1.a).mono ?_;rintro e u1 ⟨rfl,b⟩;have P1:=D1.go b;obtain⟨g1,h1⟩:=P1.seen)
            | (go_at_call 110;refine(K1.out _).mono ?_;rintro e W2 ⟨rfl,b⟩;have S2:=Q1.go b;obtain⟨r1,t1⟩:=S2.seen)
            | fail))
        (go_wp2_with fail);rw[rounds_succ];(go_wp2_with fail);have D2:=S2.drew;obtain⟨e2,f2⟩:=S2.seen
        go_region_held3 (fun w'=>w'.cell? ⟨w.heap.size,0,none⟩=some (.int .u8 dc)∧w'.cell? ⟨w.heap.size,1,none⟩=some (.string dn))
          (go_keep)
          ((first
            | (go_at_call 131;refine(qlg C x' y' z' dc dn _ P2.b).mono ?_;rintro e v2 ⟨rfl,b⟩;have Q2:=P2.go b;obtain⟨m2,n2⟩:=Q2.seen)
            | (go_at_call 131;refine(qlg B x y z dc dn _ D2.a).mono ?_;rintro e u2 ⟨rfl,b⟩;have P2:=D2.go b;obtain⟨g2,h2⟩:=P2.seen)
            | (go_at_call 110;refine(K2.out _).mono ?_;rintro e W3 ⟨rfl,b⟩;have S3:=Q2.go b;obtain⟨r2,t2⟩:=S3.seen)
            | fail))
        (go_wp2_with fail);go_ret
        exact⟨qbv HV.out.symm,S3.below⟩
    · have k1:(o1 != 0)=true:=by simpa using c1
      have HV:Hid (O=o1):=by show _=_;rw[HO.out];simp[orI,c0,c1]
      clear c0 c1;go_enter Tryz.func108,Tryz.ntmps108
      (go_wp2_with fail);refine wp_loop_rounds 4 ?_;rw[rounds_succ];(go_wp2_with fail);generalize w.alloc (.cells #[.int .u8 dc,.string dn] 135)=W0 at *;have D0:=S0.drew;obtain⟨e0,f0⟩:=S0.seen
      go_region_held3 (fun w'=>w'.cell? ⟨w.heap.size,0,none⟩=some (.int .u8 dc)∧w'.cell? ⟨w.heap.size,1,none⟩=some (.string dn))
        (go_keep)
        ((first
          | (go_at_call 131;refine(qfr C x' y' z' dc dn _ P0.b).mono ?_;rintro e v0 ⟨rfl,b⟩;have Q0:=P0.go b;obtain⟨m0,n0⟩:=Q0.seen)
          | (go_at_call 131;refine(qfr B x y z dc dn _ D0.a).mono ?_;rintro e u0 ⟨rfl,b⟩;have P0:=D0.go b;obtain⟨g0,h0⟩:=P0.seen)
          | (go_at_call 110;refine(K0.out _).mono ?_;rintro e W1 ⟨rfl,b⟩;have S1:=Q0.go b;obtain⟨r0,t0⟩:=S1.seen)
          | fail))
      (go_wp2_with fail);rw[rounds_succ];(go_wp2_with fail);have D1:=S1.drew;obtain⟨e1,f1⟩:=S1.seen
      go_region_held3 (fun w'=>w'.cell? ⟨w.heap.size,0,none⟩=some (.int .u8 dc)∧w'.cell? ⟨w.heap.size,1,none⟩=some (.string dn))
        (go_keep)
        ((first
          | (go_at_call 131;refine(qhh C x' y' z' dc dn _ P1.b).mono ?_;rintro e v1 ⟨rfl,b⟩;have Q1:=P1.go b;obtain⟨m1,n1⟩:=Q1.seen)
          | (go_at_call 131;refine(qhh B x y z dc dn _ D1.a).mono ?_;rintro e u1 ⟨rfl,b⟩;have P1:=D1.go b;obtain⟨g1,h1⟩:=P1.seen)
          | (go_at_call 110;refine(K1.out _).mono ?_;rintro e W2 ⟨rfl,b⟩;have S2:=Q1.go b;obtain⟨r1,t1⟩:=S2.seen)
          | fail))
      (go_wp2_with fail);go_ret
      exact⟨qbv HV.out.symm,S2.below⟩
  · have k0:(o0 != 0)=true:=by simpa using c0
    have HV:Hid (O=o0):=by show _=_;rw[HO.out];simp[orI,c0]
    clear c0;go_enter Tryz.func108,Tryz.ntmps108
    (go_wp2_with fail);refine wp_loop_rounds 4 ?_;rw[rounds_succ];(go_wp2_with fail);generalize w.alloc (.cells #[.int .u8 dc,.string dn] 135)=W0 at *;have D0:=S0.drew;obtain⟨e0,f0⟩:=S0.seen
    go_region_held3 (fun w'=>w'.cell? ⟨w.heap.size,0,none⟩=some (.int .u8 dc)∧w'.cell? ⟨w.heap.size,1,none⟩=some (.string dn))
      (go_keep)
      ((first
        | (go_at_call 131;refine(qfr C x' y' z' dc dn _ P0.b).mono ?_;rintro e v0 ⟨rfl,b⟩;have Q0:=P0.go b;obtain⟨m0,n0⟩:=Q0.seen)
        | (go_at_call 131;refine(qfr B x y z dc dn _ D0.a).mono ?_;rintro e u0 ⟨rfl,b⟩;have P0:=D0.go b;obtain⟨g0,h0⟩:=P0.seen)
        | (go_at_call 110;refine(K0.out _).mono ?_;rintro e W1 ⟨rfl,b⟩;have S1:=Q0.go b;obtain⟨r0,t0⟩:=S1.seen)
        | fail))
    (go_wp2_with fail);go_ret
    exact⟨qbv HV.out.symm,S1.below⟩
structure Cmp3 {α : Type} (f:α→α→Int):Prop where
 rng:∀ a b,f a b=-1∨f a b=0∨f a b=1
 anti:∀ a b,f b a=- f a b
 trans:∀ a b c,f a b≤0→f b c≤0→f a c≤0
 eqv:∀ a b c,f a b=0→f a c=f b c
namespace Cmp3
variable {α β : Type} {f g:α→α→Int}
theorem self (h:Cmp3 f) (a:α):f a a=0:=by have:=h.anti a a;omega
theorem lt_le (h:Cmp3 f) {a b c:α} (h1:f a b<0) (h2:f b c≤0):f a c<0:=by
 have h3:=h.trans a b c (by omega) h2
 by_cases e:f a c=0
 ·have e1:=h.eqv a c b e;have e2:=h.anti b c;omega
 ·omega
theorem le_lt (h:Cmp3 f) {a b c:α} (h1:f a b≤0) (h2:f b c<0):f a c<0:=by
 have h3:=h.trans a b c h1 (by omega)
 by_cases e:f a c=0
 ·have e0:=h.anti a c;have e1:=h.eqv c a b (by omega)
  have e2:=h.anti b c;omega
 ·omega
theorem pull (h:Cmp3 f) (p:β→α):Cmp3 (fun x y=>f (p x) (p y)):=
 ⟨fun a b=>h.rng _ _,fun a b=>h.anti _ _,fun a b c=>h.trans _ _ _,fun a b c=>h.eqv _ _ _⟩
theorem lex (hf:Cmp3 f) (hg:Cmp3 g):Cmp3 (fun x y=>if f x y=0 then g x y else f x y):=by
 refine⟨fun a b=>?_,fun a b=>?_,fun a b c h1 h2=>?_,fun a b c h=>?_⟩
 ·skip
  split
  ·exact hg.rng a b
  ·exact hf.rng a b
 ·have:=hf.anti a b;have:=hg.anti a b
  by_cases h:f a b=0
  ·rw[if_pos h,if_pos (by omega)];omega
  ·rw[if_neg h,if_neg (by omega)];omega
 ·skip
  have f1:f a b≤0:=by split at h1<;>omega
  have f2:f b c≤0:=by split at h2<;>omega
  have f3:=hf.trans a b c f1 f2
  by_cases h:f a c=0
  ·rw [if_pos h];have e1:f a b=0:=by
    by_cases e:f a b=0
    ·exact e
    ·have:=hf.lt_le (a:=a) (b:=b) (c:=c) (by omega) f2;omega
   have e2:f b c=0:=by
    by_cases e:f b c=0
    ·exact e
    ·have:=hf.le_lt (a:=a) (b:=b) (c:=c) f1 (by omega);omega
   rw[if_pos e1]at h1;rw[if_pos e2]at h2;exact hg.trans a b c h1 h2
  ·rw[if_neg h];exact f3
 ·skip
  have e1:f a b=0:=by split at h<;>omega
  rw[if_pos e1]at h;rw[hf.eqv a b c e1,hg.eqv a b c h]
end Cmp3
theorem qxq:Cmp3 cmpN:=by
 refine⟨fun a b=>?_,fun a b=>?_,fun a b c h1 h2=>?_,fun a b c h=>?_⟩
 ·unfold cmpN;(repeat' split)<;>simp
 ·unfold cmpN;(repeat' split)<;>omega
 ·unfold cmpN at *;(repeat' split at h1)<;>(repeat' split at h2)<;>(repeat' split)<;>omega
 ·unfold cmpN at *;(repeat' split at h)<;>(repeat' split)<;>omega
def lexG {α : Type} (f:α→α→Int):List α→List α→Int
 | [],[]=>0
 | [],_::_=>-1
 | _::_,[]=>1
 | x::a,y::b=>if f x y=0 then lexG f a b else f x y
theorem qbqt {α : Type} {f:α→α→Int} (h:Cmp3 f):Cmp3 (lexG f):=by
 refine⟨fun a=>?_,fun a=>?_,fun a=>?_,fun a=>?_⟩
 ·induction a with
  | nil=>intro b;cases b<;>simp[lexG]
  | cons x a ih=>
   intro b;cases b with
   | nil=>simp[lexG]
   | cons y b=>
    rw[lexG];split
    ·exact ih b
    ·exact h.rng x y
 ·induction a with
  | nil=>intro b;cases b<;>simp[lexG]
  | cons x a ih=>
   intro b;cases b with
   | nil=>simp[lexG]
   | cons y b=>
    have e:=h.anti x y;rw[lexG,lexG]
    by_cases h0:f x y=0
    ·rw[if_pos h0,if_pos (by omega)];exact ih b
    ·rw[if_neg h0,if_neg (by omega)];exact e
 ·induction a with
  | nil=>intro b c h1 h2;cases c<;>cases b<;>simp[lexG]at *
  | cons x a ih=>
   intro b c h1 h2;cases b with
   | nil=>simp[lexG]at h1
   | cons y b=>
    cases c with
    | nil=>simp[lexG]at h2
    | cons z c=>
     rw[lexG]at h1 h2 ⊢;have f1:f x y≤0:=by split at h1<;>omega
     have f2:f y z≤0:=by split at h2<;>omega
     have f3:=h.trans x y z f1 f2
     by_cases h0:f x z=0
     ·rw [if_pos h0];have e1:f x y=0:=by
       by_cases e:f x y=0
       ·exact e
       ·have:=h.lt_le (a:=x) (b:=y) (c:=z) (by omega) f2;omega
      have e2:f y z=0:=by
       by_cases e:f y z=0
       ·exact e
       ·have:=h.le_lt (a:=x) (b:=y) (c:=z) f1 (by omega);omega
      rw[if_pos e1]at h1;rw[if_pos e2]at h2;exact ih b c h1 h2
     ·rw[if_neg h0];exact f3
 ·induction a with
  | nil=>intro b c h1;cases b<;>simp[lexG]at *
  | cons x a ih=>
   intro b c h1;cases b with
   | nil=>simp[lexG]at h1
   | cons y b=>
    rw[lexG]at h1;have e1:f x y=0:=by split at h1<;>omega
    rw[if_pos e1]at h1;cases c with
    | nil=>simp[lexG]
    | cons z c=>rw[lexG,lexG,h.eqv x y z e1,ih b c h1]
theorem qbff:∀ a b:QB,Lib.compareBytes a b=lexG (fun x y:UInt8=>cmpN x.toNat y.toNat) a b
 | [],[]=>rfl
 | [],_::_=>rfl
 | _::_,[]=>rfl
 | x::a,y::b=>by
  rw[lexG,Lib.compareBytes,qbff a b];have e:∀ u v:UInt8,(u<v)↔u.toNat<v.toNat:=fun u v=>UInt8.lt_iff_toNat_lt;unfold cmpN
  by_cases h1:x<y
  ·have h1':=(e x y).1 h1;simp[h1,h1']
  ·have h1':¬ x.toNat<y.toNat:=fun h=>h1 ((e x y).2 h)
   by_cases h2:y<x
   ·have h2':=(e y x).1 h2;simp[h1,h1',h2,h2']
   ·have h2':¬ y.toNat<x.toNat:=fun h=>h2 ((e y x).2 h);simp[h1,h1',h2,h2']
theorem qbjc:Cmp3 Lib.compareBytes:=by
 have:=qbqt (qxq.pull (fun x:UInt8=>x.toNat));have e:Lib.compareBytes=lexG (fun x y:UInt8=>cmpN x.toNat y.toNat):=funext fun a=>funext fun b=>qbff a b;rw[e];exact this
theorem qbpx:Cmp3 cmpD:=by
 have:=Cmp3.lex (qxq.pull (fun l:QB=>(qr l).length)) (qbjc.pull qr);have e:cmpD=fun x y=>if cmpN (qr x).length (qr y).length=0 then Lib.compareBytes (qr x) (qr y) else cmpN (qr x).length (qr y).length:=funext fun a=>funext fun b=>by
  unfold cmpD cmpN
  (repeat' split)<;>first|rfl|omega
 rw[e];exact this
structure PepL where
 ep:QB
 rel:List QB
 c:Int
 n:QB
 b:Bool
 m:QB
 d:Bool
 k:QB
 loc:List QB
def st1 (x:PepL):Int×QB:=if x.c=0 then (if x.d&&!x.b then (0,[]) else (255,[])) else (x.c,x.n)
def st2 (x:PepL):Int×QB:=if x.b then (1,x.m) else (0,[])
def st3 (x:PepL):Int×QB:=if x.d then (1,x.k) else (255,[])
def stL (x y:PepL):Int:=orI [stgO (st1 x) (st1 y),stgO (st2 x) (st2 y),stgO (st3 x) (st3 y)]
def ordP (x y:PepL):Int:=orI [cmpD x.ep y.ep,padO cmpD [48] x.rel y.rel 0,stL x y,padO locO [] x.loc y.loc 0]
def rowL (u:QB) (xs:List (Nat×Nat)):List QB:=xs.map fun x=>qbt (seg u x.1 x.2)
def qm (u:QB):PepL:=⟨epoT u (vp1 u),rowL u (vrel u),preC u (vp3 u),stN u (vp3 u) qbq,posB u (vp4 u),posN u (vp4 u),(qbl u (vp5 u) qbk).isSome,stN u (vp5 u) qbk,rowL u (qff u)⟩
def okP (l:QB):Bool:=decide (l.length≤64)&&decide ((verX (qk l)).1=0)
def cmpT (a b:QB):Int:=if okP a then (if okP b then ordP (qm (qk a)) (qm (qk b)) else 1) else if okP b then -1 else 0
end Go.Proofs.YtabmfdedbpmfmaaGreat
