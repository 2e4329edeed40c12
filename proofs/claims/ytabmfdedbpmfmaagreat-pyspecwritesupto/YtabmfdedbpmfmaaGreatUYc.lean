/- Walks: the document's Parse in two shapes, its Normal. -/
import Derived.Test.YtabmfdedbpmfmaaGreatUQc
import Derived.Deep.RegionWith
import Derived.ProofKit
import Derived.OpenShut
import Derived.ShutString
import Derived.ChangeOld
import Derived.Below
import Derived.SizedLaws
import Derived.SliceStrings
import Derived.Deep.Fields
import Derived.Test.YtabmfdedbpmfmaaGreatUXo
namespace Go.Proofs.YtabmfdedbpmfmaaGreat
open Go.RowKit Go.Shelf
open List renaming getElem_mem → qbtr
set_option linter.unusedVariables false
set_option maxHeartbeats 4000000
set_option maxRecDepth 100000
def MidT (ts:List QB):Prop:=ts.length≤1048576∧∀ t∈ts,t.length≤1048576
structure MidP (x:PepL):Prop where
 e:x.ep.length≤1048576
 n:x.n.length≤1048576
 m:x.m.length≤1048576
 k:x.k.length≤1048576
 r:MidT x.rel
 l:MidT x.loc
def fitR (x:PepL):Bool:=qbg x.ep&&(!x.rel.isEmpty&&(letB x.c&&(x.rel.all qbg&&(x.loc.all locB&&(numB x.n (x.c != 0)&&(numB x.m x.b&&numB x.k x.d))))))
theorem qhp (P:QB→Bool) (ts:List QB) (k:Nat) (h:k<ts.length) (h1:(ts.take k).all P=true) (h2:P ts[k]=true):(ts.take (k+1)).all P=true:=by
 rw[List.take_succ_eq_append_getElem h,List.all_append,h1];simpa using h2
theorem qjz (P:QB→Bool) (ts:List QB) (k:Nat) (h:k<ts.length) (h2:P ts[k]=false):ts.all P=false:=by
 rw[List.all_eq_false];exact⟨ts[k],qbtr h,by simp[h2]⟩
theorem RFit_ep (ep:QB) (rel:List QB) (n:QB) (b:Bool) (m:QB) (d:Bool) (k:QB) (loc:List QB) (r1 q1:Option Addr) (c1 d1:Nat) (c:Int) (w:World) (hx:ep.length≤1048576) (h1:qbg ep=false) :
  Calls Tryz.prog 69 #[.agg #[.string (qd ep),.slice r1 rel.length c1,.int .u8 c,.string (qd n),.bool b,.string (qd m),.bool d,.string (qd k),.slice q1 loc.length d1]] w fun e w'=>e=.returned (.bool false)∧Below w.heap.size w w':=by
 have N1:=fun w=>qcp ep w (by omega)
 rw[h1]at N1;have N1:=qb N1;have b0:=(Below.refl w.heap.size w).alloc (Nat.le_refl _) (.cells #[.string (qd ep),.slice r1 rel.length c1,.int .u8 c,.string (qd n),.bool b,.string (qd m),.bool d,.string (qd k),.slice q1 loc.length d1] 44);go_enter Tryz.func69,Tryz.ntmps69
 (go_wp2_with fail);refine(N1.out _).mono ?_;rintro e w' ⟨rfl,hw'⟩;rw[hw'];clear hw' w';(go_wp2_with fail);go_ret
 exact⟨rfl,(Below.refl _ w).alloc (Nat.le_refl _) _⟩
theorem RFit_rel (ep:QB) (rel:List QB) (n:QB) (b:Bool) (m:QB) (d:Bool) (k:QB) (loc:List QB) (r1 q1:Option Addr) (c1 d1:Nat) (c:Int) (w:World) (hx:ep.length≤1048576) (h1:qbg ep=true) (h2:rel=[]) :
  Calls Tryz.prog 69 #[.agg #[.string (qd ep),.slice r1 rel.length c1,.int .u8 c,.string (qd n),.bool b,.string (qd m),.bool d,.string (qd k),.slice q1 loc.length d1]] w fun e w'=>e=.returned (.bool false)∧Below w.heap.size w w':=by
 have N1:=fun w=>qcp ep w (by omega)
 rw[h1]at N1;have hz:((rel.length:Int)==0)=true:=by rw[h2];rfl
 have N1:=qb N1;have b0:=(Below.refl w.heap.size w).alloc (Nat.le_refl _) (.cells #[.string (qd ep),.slice r1 rel.length c1,.int .u8 c,.string (qd n),.bool b,.string (qd m),.bool d,.string (qd k),.slice q1 loc.length d1] 44);go_enter Tryz.func69,Tryz.ntmps69
 (go_wp2_with fail);refine(N1.out _).mono ?_;rintro e w' ⟨rfl,hw'⟩;rw[hw'];clear hw' w';(go_wp2_with fail);go_ret
 exact⟨rfl,(Below.refl _ w).alloc (Nat.le_refl _) _⟩
theorem RFit_let (ep:QB) (rel:List QB) (n:QB) (b:Bool) (m:QB) (d:Bool) (k:QB) (loc:List QB) (r1 q1:Option Addr) (c1 d1:Nat) (c:Int) (w:World) (hx:ep.length≤1048576) (h1:qbg ep=true) (h2:rel≠[]) (h3:letB c=false) :
  Calls Tryz.prog 69 #[.agg #[.string (qd ep),.slice r1 rel.length c1,.int .u8 c,.string (qd n),.bool b,.string (qd m),.bool d,.string (qd k),.slice q1 loc.length d1]] w fun e w'=>e=.returned (.bool false)∧Below w.heap.size w w':=by
 have N1:=fun w=>qcp ep w (by omega)
 rw[h1]at N1;have hp:0<rel.length:=List.length_pos_iff.2 h2;have hz:((rel.length:Int)==0)=false:=by simp;omega
 obtain ⟨g0,g1,g2,g3⟩:(c != 0)=true∧(c != 97)=true∧(c != 98)=true∧(c != 114)=true:=by
  unfold letB at h3;simp at h3;simp;omega
 have N1:=qb N1;have b0:=(Below.refl w.heap.size w).alloc (Nat.le_refl _) (.cells #[.string (qd ep),.slice r1 rel.length c1,.int .u8 c,.string (qd n),.bool b,.string (qd m),.bool d,.string (qd k),.slice q1 loc.length d1] 44);go_enter Tryz.func69,Tryz.ntmps69
 (go_wp2_with fail);refine(N1.out _).mono ?_;rintro e w' ⟨rfl,hw'⟩;rw[hw'];clear hw' w';(go_wp2_with fail);go_ret
 exact⟨rfl,(Below.refl _ w).alloc (Nat.le_refl _) _⟩
theorem RFit_0 (ep:QB) (rel:List QB) (n:QB) (b:Bool) (m:QB) (d:Bool) (k:QB) (loc:List QB) (r1 q1:Option Addr) (c1 d1:Nat) (w:World) (rr:qz w (.slice r1 rel.length c1) rel) (ll:qz w (.slice q1 loc.length d1) loc) (hx:MidP ⟨ep,rel,0,n,b,m,d,k,loc⟩) (h1:qbg ep=true) (h2:rel≠[]) :
  Calls Tryz.prog 69 #[.agg #[.string (qd ep),.slice r1 rel.length c1,.int .u8 0,.string (qd n),.bool b,.string (qd m),.bool d,.string (qd k),.slice q1 loc.length d1]] w fun e w'=>e=.returned (.bool (rel.all qbg&&(loc.all locB&&(numB n false&&(numB m b&&numB k d)))))∧Below w.heap.size w w':=by
 have N1:=fun w=>qcp ep w (by have h:ep.length≤1048576:=hx.e;omega)
 rw[h1]at N1;have N1:=qb N1;have A1:=qb (fun w=>qdb n false w (by have h:n.length≤1048576:=hx.n;omega))
 have A2:=qb (fun w=>qdb m b w (by have h:m.length≤1048576:=hx.m;omega))
 have A3:=qb (fun w=>qdb k d w (by have h:k.length≤1048576:=hx.k;omega))
 have HR:Hid (∀ t∈rel,t.length≤1048576):=hx.r.2;have HL:Hid (∀ t∈loc,t.length≤1048576):=hx.l.2;have lr:rel.length≤1048576:=hx.r.1;have lo:loc.length≤1048576:=hx.l.1;have S0:TB w ⟨ep,rel,0,n,b,m,d,k,loc⟩ r1 q1 c1 d1 (w.alloc (.cells #[.string (qd ep),.slice r1 rel.length c1,.int .u8 0,.string (qd n),.bool b,.string (qd m),.bool d,.string (qd k),.slice q1 loc.length d1] 44)):=TB.start (x:=⟨ep,rel,0,n,b,m,d,k,loc⟩) rr ll;have hp:0<rel.length:=List.length_pos_iff.2 h2;have hz:((rel.length:Int)==0)=false:=by simp;omega
 have HF:=qb (qjz qbg rel);have HE:Hid ((rel.take rel.length).all qbg=true→rel.all qbg=true):=by show _→_;rw[List.take_length];exact id
 have HG:=qb (qjz locB loc);have HH:Hid ((loc.take loc.length).all locB=true→loc.all locB=true):=by show _→_;rw[List.take_length];exact id
 generalize numB n false=z1 at *;generalize numB m b=z2 at *;generalize numB k d=z3 at *;generalize rel.all qbg=z4 at *;generalize loc.all locB=z5 at *;clear hx h1 h2 rr ll;obtain⟨s0,s1,s2,s3,s4,s5,s6,s7,s8⟩:=S0.seen;dsimp only at s0 s1 s2 s3 s4 s5 s6 s7 s8;go_enter Tryz.func69,Tryz.ntmps69
 (go_wp2_with fail);generalize w.alloc (.cells #[.string (qd ep),.slice r1 rel.length c1,.int .u8 0,.string (qd n),.bool b,.string (qd m),.bool d,.string (qd k),.slice q1 loc.length d1] 44)=W0 at *;refine(N1.out _).mono ?_;rintro e w' ⟨rfl,hw'⟩;rw[hw'];clear hw' w';(go_wp2_with fail);go_loop [3] (fun i=>∃ k:Nat,k≤rel.length∧i=.int .i64 k∧Hid ((rel.take k).all qbg=true)) (fun i=>rel.length-(intOf i).toNat)
 case atStart=>exact⟨0,by omega,rfl,rfl⟩
 case round=>
  obtain⟨i,hi,rfl,HK⟩:=hrel
  by_cases hlt:i<rel.length
  ·have hlt':(i:Int)<(rel.length:Int):=by omega
   obtain⟨b1,o1,rfl,hc1⟩:=S0.rr.some (by show 0<rel.length;omega)
   have p1:=hc1 i hlt;clear hc1;have C:=fun w=>qcp rel[i] w (by have:=HR.out _ (qbtr hlt);omega)
   have HN:=qb (qhp qbg rel i hlt HK.out);have HM:=qb (HF.out i hlt);dsimp only at p1;generalize rel[i]=t at *;generalize qbg t=y at *;have C:=qb C;cases y
   ·obtain rfl:=HM.out rfl;(go_wp2_with fail);refine(C.out _).mono ?_;rintro e w' ⟨rfl,hw'⟩;rw[hw'];clear hw' w';(go_wp2_with fail);go_ret
    exact⟨rfl,S0.bel⟩
   ·have hn:=qb (HN.out rfl);(go_wp2_with fail);refine(C.out _).mono ?_;rintro e w' ⟨rfl,hw'⟩;rw[hw'];clear hw' w';(go_wp2_with fail);go_round
    case rel=>exact⟨i+1,by omega,by go_num,hn⟩
    case measure=>simp[intOf];omega
  ·obtain rfl:i=rel.length:=by omega
   have hlt':¬ (rel.length:Int)<(rel.length:Int):=by omega
   obtain rfl:=HE.out HK.out;have H0:=qb S0;clear S0 s0 s1 s2 s3 s4 s5 s6 s7 s8;have s1:=H0.out.seen.2.1;dsimp only at s1;(go_wp2_with fail);clear s1;go_loopw [4] (fun i wr=>∃ j:Nat,j≤loc.length∧i=.int .i64 j∧Hid ((loc.take j).all locB=true)∧Hid (TB w ⟨ep,rel,0,n,b,m,d,k,loc⟩ r1 q1 c1 d1 wr)) (fun i _=>loc.length-(intOf i).toNat)
   case atStart=>exact⟨0,by omega,rfl,rfl,H0⟩
   case round=>
    obtain⟨j,hj,rfl,HJ,HS⟩:=hrel;obtain⟨s0,s1,s2,s3,s4,s5,s6,s7,s8⟩:=HS.out.seen;dsimp only at s0 s1 s2 s3 s4 s5 s6 s7 s8
    by_cases hlj:j<loc.length
    ·have hlj':(j:Int)<(loc.length:Int):=by omega
     obtain⟨b1,o1,rfl,hc1⟩:=HS.out.ll.some (by show 0<loc.length;omega)
     have p1:=hc1 j hlj;clear hc1;have C:=fun w=>qmr loc[j] w (by have:=HL.out _ (qbtr hlj);omega)
     have HN:=qb (qhp locB loc j hlj HJ.out);have HM:=qb (HG.out j hlj);dsimp only at p1;generalize loc[j]=t at *;generalize locB t=y at *;have C:=qb C;cases y
     ·obtain rfl:=HM.out rfl;(go_wp2_with fail);refine(C.out _).mono ?_;rintro e w2 ⟨rfl,b2⟩;(go_wp2_with fail);go_ret
      exact⟨rfl,(HS.out.next b2).bel⟩
     ·have hn:=qb (HN.out rfl);(go_wp2_with fail);refine(C.out _).mono ?_;rintro e w2 ⟨rfl,b2⟩;(go_wp2_with fail);go_roundw
      case rel=>exact⟨j+1,by omega,by go_num,hn,HS.out.next b2⟩
      case measure=>simp[intOf];omega
    ·obtain rfl:j=loc.length:=by omega
     have hlj':¬ (loc.length:Int)<(loc.length:Int):=by omega
     obtain rfl:=HH.out HJ.out;cases z1
     ·(go_wp2_with fail);refine(A1.out _).mono ?_;rintro e w' ⟨rfl,hw'⟩;rw[hw'];clear hw' w';(go_wp2_with fail);go_ret
      exact⟨rfl,HS.out.bel⟩
     ·cases z2
      ·(go_wp2_with fail);refine(A1.out _).mono ?_;rintro e w' ⟨rfl,hw'⟩;rw[hw'];clear hw' w';(go_wp2_with fail);refine(A2.out _).mono ?_;rintro e w' ⟨rfl,hw'⟩;rw[hw'];clear hw' w';(go_wp2_with fail);go_ret
       exact⟨rfl,HS.out.bel⟩
      ·(go_wp2_with fail);refine(A1.out _).mono ?_;rintro e w' ⟨rfl,hw'⟩;rw[hw'];clear hw' w';(go_wp2_with fail);refine(A2.out _).mono ?_;rintro e w' ⟨rfl,hw'⟩;rw[hw'];clear hw' w';(go_wp2_with fail);refine(A3.out _).mono ?_;rintro e w' ⟨rfl,hw'⟩;rw[hw'];clear hw' w';(go_wp2_with fail);go_ret
       exact⟨qbz (by simp),HS.out.bel⟩
theorem RFit_97 (ep:QB) (rel:List QB) (n:QB) (b:Bool) (m:QB) (d:Bool) (k:QB) (loc:List QB) (r1 q1:Option Addr) (c1 d1:Nat) (w:World) (rr:qz w (.slice r1 rel.length c1) rel) (ll:qz w (.slice q1 loc.length d1) loc) (hx:MidP ⟨ep,rel,97,n,b,m,d,k,loc⟩) (h1:qbg ep=true) (h2:rel≠[]) :
  Calls Tryz.prog 69 #[.agg #[.string (qd ep),.slice r1 rel.length c1,.int .u8 97,.string (qd n),.bool b,.string (qd m),.bool d,.string (qd k),.slice q1 loc.length d1]] w fun e w'=>e=.returned (.bool (rel.all qbg&&(loc.all locB&&(numB n true&&(numB m b&&numB k d)))))∧Below w.heap.size w w':=by
 have N1:=fun w=>qcp ep w (by have h:ep.length≤1048576:=hx.e;omega)
 rw[h1]at N1;have N1:=qb N1;have A1:=qb (fun w=>qdb n true w (by have h:n.length≤1048576:=hx.n;omega))
 have A2:=qb (fun w=>qdb m b w (by have h:m.length≤1048576:=hx.m;omega))
 have A3:=qb (fun w=>qdb k d w (by have h:k.length≤1048576:=hx.k;omega))
 have HR:Hid (∀ t∈rel,t.length≤1048576):=hx.r.2;have HL:Hid (∀ t∈loc,t.length≤1048576):=hx.l.2;have lr:rel.length≤1048576:=hx.r.1;have lo:loc.length≤1048576:=hx.l.1;have S0:TB w ⟨ep,rel,97,n,b,m,d,k,loc⟩ r1 q1 c1 d1 (w.alloc (.cells #[.string (qd ep),.slice r1 rel.length c1,.int .u8 97,.string (qd n),.bool b,.string (qd m),.bool d,.string (qd k),.slice q1 loc.length d1] 44)):=TB.start (x:=⟨ep,rel,97,n,b,m,d,k,loc⟩) rr ll;have hp:0<rel.length:=List.length_pos_iff.2 h2;have hz:((rel.length:Int)==0)=false:=by simp;omega
 have HF:=qb (qjz qbg rel);have HE:Hid ((rel.take rel.length).all qbg=true→rel.all qbg=true):=by show _→_;rw[List.take_length];exact id
 have HG:=qb (qjz locB loc);have HH:Hid ((loc.take loc.length).all locB=true→loc.all locB=true):=by show _→_;rw[List.take_length];exact id
 generalize numB n true=z1 at *;generalize numB m b=z2 at *;generalize numB k d=z3 at *;generalize rel.all qbg=z4 at *;generalize loc.all locB=z5 at *;clear hx h1 h2 rr ll;obtain⟨s0,s1,s2,s3,s4,s5,s6,s7,s8⟩:=S0.seen;dsimp only at s0 s1 s2 s3 s4 s5 s6 s7 s8;go_enter Tryz.func69,Tryz.ntmps69
 (go_wp2_with fail);generalize w.alloc (.cells #[.string (qd ep),.slice r1 rel.length c1,.int .u8 97,.string (qd n),.bool b,.string (qd m),.bool d,.string (qd k),.slice q1 loc.length d1] 44)=W0 at *;refine(N1.out _).mono ?_;rintro e w' ⟨rfl,hw'⟩;rw[hw'];clear hw' w';(go_wp2_with fail);go_loop [3] (fun i=>∃ k:Nat,k≤rel.length∧i=.int .i64 k∧Hid ((rel.take k).all qbg=true)) (fun i=>rel.length-(intOf i).toNat)
 case atStart=>exact⟨0,by omega,rfl,rfl⟩
 case round=>
  obtain⟨i,hi,rfl,HK⟩:=hrel
  by_cases hlt:i<rel.length
  ·have hlt':(i:Int)<(rel.length:Int):=by omega
   obtain⟨b1,o1,rfl,hc1⟩:=S0.rr.some (by show 0<rel.length;omega)
   have p1:=hc1 i hlt;clear hc1;have C:=fun w=>qcp rel[i] w (by have:=HR.out _ (qbtr hlt);omega)
   have HN:=qb (qhp qbg rel i hlt HK.out);have HM:=qb (HF.out i hlt);dsimp only at p1;generalize rel[i]=t at *;generalize qbg t=y at *;have C:=qb C;cases y
   ·obtain rfl:=HM.out rfl;(go_wp2_with fail);refine(C.out _).mono ?_;rintro e w' ⟨rfl,hw'⟩;rw[hw'];clear hw' w';(go_wp2_with fail);go_ret
    exact⟨rfl,S0.bel⟩
   ·have hn:=qb (HN.out rfl);(go_wp2_with fail);refine(C.out _).mono ?_;rintro e w' ⟨rfl,hw'⟩;rw[hw'];clear hw' w';(go_wp2_with fail);go_round
    case rel=>exact⟨i+1,by omega,by go_num,hn⟩
    case measure=>simp[intOf];omega
  ·obtain rfl:i=rel.length:=by omega
   have hlt':¬ (rel.length:Int)<(rel.length:Int):=by omega
   obtain rfl:=HE.out HK.out;have H0:=qb S0;clear S0 s0 s1 s2 s3 s4 s5 s6 s7 s8;have s1:=H0.out.seen.2.1;dsimp only at s1;(go_wp2_with fail);clear s1;go_loopw [4] (fun i wr=>∃ j:Nat,j≤loc.length∧i=.int .i64 j∧Hid ((loc.take j).all locB=true)∧Hid (TB w ⟨ep,rel,97,n,b,m,d,k,loc⟩ r1 q1 c1 d1 wr)) (fun i _=>loc.length-(intOf i).toNat)
   case atStart=>exact⟨0,by omega,rfl,rfl,H0⟩
   case round=>
    obtain⟨j,hj,rfl,HJ,HS⟩:=hrel;obtain⟨s0,s1,s2,s3,s4,s5,s6,s7,s8⟩:=HS.out.seen;dsimp only at s0 s1 s2 s3 s4 s5 s6 s7 s8
    by_cases hlj:j<loc.length
    ·have hlj':(j:Int)<(loc.length:Int):=by omega
     obtain⟨b1,o1,rfl,hc1⟩:=HS.out.ll.some (by show 0<loc.length;omega)
     have p1:=hc1 j hlj;clear hc1;have C:=fun w=>qmr loc[j] w (by have:=HL.out _ (qbtr hlj);omega)
     have HN:=qb (qhp locB loc j hlj HJ.out);have HM:=qb (HG.out j hlj);dsimp only at p1;generalize loc[j]=t at *;generalize locB t=y at *;have C:=qb C;cases y
     ·obtain rfl:=HM.out rfl;(go_wp2_with fail);refine(C.out _).mono ?_;rintro e w2 ⟨rfl,b2⟩;(go_wp2_with fail);go_ret
      exact⟨rfl,(HS.out.next b2).bel⟩
     ·have hn:=qb (HN.out rfl);(go_wp2_with fail);refine(C.out _).mono ?_;rintro e w2 ⟨rfl,b2⟩;(go_wp2_with fail);go_roundw
      case rel=>exact⟨j+1,by omega,by go_num,hn,HS.out.next b2⟩
      case measure=>simp[intOf];omega
    ·obtain rfl:j=loc.length:=by omega
     have hlj':¬ (loc.length:Int)<(loc.length:Int):=by omega
     obtain rfl:=HH.out HJ.out;cases z1
     ·(go_wp2_with fail);refine(A1.out _).mono ?_;rintro e w' ⟨rfl,hw'⟩;rw[hw'];clear hw' w';(go_wp2_with fail);go_ret
      exact⟨rfl,HS.out.bel⟩
     ·cases z2
      ·(go_wp2_with fail);refine(A1.out _).mono ?_;rintro e w' ⟨rfl,hw'⟩;rw[hw'];clear hw' w';(go_wp2_with fail);refine(A2.out _).mono ?_;rintro e w' ⟨rfl,hw'⟩;rw[hw'];clear hw' w';(go_wp2_with fail);go_ret
       exact⟨rfl,HS.out.bel⟩
      ·(go_wp2_with fail);refine(A1.out _).mono ?_;rintro e w' ⟨rfl,hw'⟩;rw[hw'];clear hw' w';(go_wp2_with fail);refine(A2.out _).mono ?_;rintro e w' ⟨rfl,hw'⟩;rw[hw'];clear hw' w';(go_wp2_with fail);refine(A3.out _).mono ?_;rintro e w' ⟨rfl,hw'⟩;rw[hw'];clear hw' w';(go_wp2_with fail);go_ret
       exact⟨qbz (by simp),HS.out.bel⟩
theorem RFit_98 (ep:QB) (rel:List QB) (n:QB) (b:Bool) (m:QB) (d:Bool) (k:QB) (loc:List QB) (r1 q1:Option Addr) (c1 d1:Nat) (w:World) (rr:qz w (.slice r1 rel.length c1) rel) (ll:qz w (.slice q1 loc.length d1) loc) (hx:MidP ⟨ep,rel,98,n,b,m,d,k,loc⟩) (h1:qbg ep=true) (h2:rel≠[]) :
  Calls Tryz.prog 69 #[.agg #[.string (qd ep),.slice r1 rel.length c1,.int .u8 98,.string (qd n),.bool b,.string (qd m),.bool d,.string (qd k),.slice q1 loc.length d1]] w fun e w'=>e=.returned (.bool (rel.all qbg&&(loc.all locB&&(numB n true&&(numB m b&&numB k d)))))∧Below w.heap.size w w':=by
 have N1:=fun w=>qcp ep w (by have h:ep.length≤1048576:=hx.e;omega)
 rw[h1]at N1;have N1:=qb N1;have A1:=qb (fun w=>qdb n true w (by have h:n.length≤1048576:=hx.n;omega))
 have A2:=qb (fun w=>qdb m b w (by have h:m.length≤1048576:=hx.m;omega))
 have A3:=qb (fun w=>qdb k d w (by have h:k.length≤1048576:=hx.k;omega))
 have HR:Hid (∀ t∈rel,t.length≤1048576):=hx.r.2;have HL:Hid (∀ t∈loc,t.length≤1048576):=hx.l.2;have lr:rel.length≤1048576:=hx.r.1;have lo:loc.length≤1048576:=hx.l.1;have S0:TB w ⟨ep,rel,98,n,b,m,d,k,loc⟩ r1 q1 c1 d1 (w.alloc (.cells #[.string (qd ep),.slice r1 rel.length c1,.int .u8 98,.string (qd n),.bool b,.string (qd m),.bool d,.string (qd k),.slice q1 loc.length d1] 44)):=TB.start (x:=⟨ep,rel,98,n,b,m,d,k,loc⟩) rr ll;have hp:0<rel.length:=List.length_pos_iff.2 h2;have hz:((rel.length:Int)==0)=false:=by simp;omega
 have HF:=qb (qjz qbg rel);have HE:Hid ((rel.take rel.length).all qbg=true→rel.all qbg=true):=by show _→_;rw[List.take_length];exact id
 have HG:=qb (qjz locB loc);have HH:Hid ((loc.take loc.length).all locB=true→loc.all locB=true):=by show _→_;rw[List.take_length];exact id
 generalize numB n true=z1 at *;generalize numB m b=z2 at *;generalize numB k d=z3 at *;generalize rel.all qbg=z4 at *;generalize loc.all locB=z5 at *;clear hx h1 h2 rr ll;obtain⟨s0,s1,s2,s3,s4,s5,s6,s7,s8⟩:=S0.seen;dsimp only at s0 s1 s2 s3 s4 s5 s6 s7 s8;go_enter Tryz.func69,Tryz.ntmps69
 (go_wp2_with fail);generalize w.alloc (.cells #[.string (qd ep),.slice r1 rel.length c1,.int .u8 98,.string (qd n),.bool b,.string (qd m),.bool d,.string (qd k),.slice q1 loc.length d1] 44)=W0 at *;refine(N1.out _).mono ?_;rintro e w' ⟨rfl,hw'⟩;rw[hw'];clear hw' w';(go_wp2_with fail);go_loop [3] (fun i=>∃ k:Nat,k≤rel.length∧i=.int .i64 k∧Hid ((rel.take k).all qbg=true)) (fun i=>rel.length-(intOf i).toNat)
 case atStart=>exact⟨0,by omega,rfl,rfl⟩
 case round=>
  obtain⟨i,hi,rfl,HK⟩:=hrel
  by_cases hlt:i<rel.length
  ·have hlt':(i:Int)<(rel.length:Int):=by omega
   obtain⟨b1,o1,rfl,hc1⟩:=S0.rr.some (by show 0<rel.length;omega)
   have p1:=hc1 i hlt;clear hc1;have C:=fun w=>qcp rel[i] w (by have:=HR.out _ (qbtr hlt);omega)
   have HN:=qb (qhp qbg rel i hlt HK.out);have HM:=qb (HF.out i hlt);dsimp only at p1;generalize rel[i]=t at *;generalize qbg t=y at *;have C:=qb C;cases y
   ·obtain rfl:=HM.out rfl;(go_wp2_with fail);refine(C.out _).mono ?_;rintro e w' ⟨rfl,hw'⟩;rw[hw'];clear hw' w';(go_wp2_with fail);go_ret
    exact⟨rfl,S0.bel⟩
   ·have hn:=qb (HN.out rfl);(go_wp2_with fail);refine(C.out _).mono ?_;rintro e w' ⟨rfl,hw'⟩;rw[hw'];clear hw' w';(go_wp2_with fail);go_round
    case rel=>exact⟨i+1,by omega,by go_num,hn⟩
    case measure=>simp[intOf];omega
  ·obtain rfl:i=rel.length:=by omega
   have hlt':¬ (rel.length:Int)<(rel.length:Int):=by omega
   obtain rfl:=HE.out HK.out;have H0:=qb S0;clear S0 s0 s1 s2 s3 s4 s5 s6 s7 s8;have s1:=H0.out.seen.2.1;dsimp only at s1;(go_wp2_with fail);clear s1;go_loopw [4] (fun i wr=>∃ j:Nat,j≤loc.length∧i=.int .i64 j∧Hid ((loc.take j).all locB=true)∧Hid (TB w ⟨ep,rel,98,n,b,m,d,k,loc⟩ r1 q1 c1 d1 wr)) (fun i _=>loc.length-(intOf i).toNat)
   case atStart=>exact⟨0,by omega,rfl,rfl,H0⟩
   case round=>
    obtain⟨j,hj,rfl,HJ,HS⟩:=hrel;obtain⟨s0,s1,s2,s3,s4,s5,s6,s7,s8⟩:=HS.out.seen;dsimp only at s0 s1 s2 s3 s4 s5 s6 s7 s8
    by_cases hlj:j<loc.length
    ·have hlj':(j:Int)<(loc.length:Int):=by omega
     obtain⟨b1,o1,rfl,hc1⟩:=HS.out.ll.some (by show 0<loc.length;omega)
     have p1:=hc1 j hlj;clear hc1;have C:=fun w=>qmr loc[j] w (by have:=HL.out _ (qbtr hlj);omega)
     have HN:=qb (qhp locB loc j hlj HJ.out);have HM:=qb (HG.out j hlj);dsimp only at p1;generalize loc[j]=t at *;generalize locB t=y at *;have C:=qb C;cases y
     ·obtain rfl:=HM.out rfl;(go_wp2_with fail);refine(C.out _).mono ?_;rintro e w2 ⟨rfl,b2⟩;(go_wp2_with fail);go_ret
      exact⟨rfl,(HS.out.next b2).bel⟩
     ·have hn:=qb (HN.out rfl);(go_wp2_with fail);refine(C.out _).mono ?_;rintro e w2 ⟨rfl,b2⟩;(go_wp2_with fail);go_roundw
      case rel=>exact⟨j+1,by omega,by go_num,hn,HS.out.next b2⟩
      case measure=>simp[intOf];omega
    ·obtain rfl:j=loc.length:=by omega
     have hlj':¬ (loc.length:Int)<(loc.length:Int):=by omega
     obtain rfl:=HH.out HJ.out;cases z1
     ·(go_wp2_with fail);refine(A1.out _).mono ?_;rintro e w' ⟨rfl,hw'⟩;rw[hw'];clear hw' w';(go_wp2_with fail);go_ret
      exact⟨rfl,HS.out.bel⟩
     ·cases z2
      ·(go_wp2_with fail);refine(A1.out _).mono ?_;rintro e w' ⟨rfl,hw'⟩;rw[hw'];clear hw' w';(go_wp2_with fail);refine(A2.out _).mono ?_;rintro e w' ⟨rfl,hw'⟩;rw[hw'];clear hw' w';(go_wp2_with fail);go_ret
       exact⟨rfl,HS.out.bel⟩
      ·(go_wp2_with fail);refine(A1.out _).mono ?_;rintro e w' ⟨rfl,hw'⟩;rw[hw'];clear hw' w';(go_wp2_with fail);refine(A2.out _).mono ?_;rintro e w' ⟨rfl,hw'⟩;rw[hw'];clear hw' w';(go_wp2_with fail);refine(A3.out _).mono ?_;rintro e w' ⟨rfl,hw'⟩;rw[hw'];clear hw' w';(go_wp2_with fail);go_ret
       exact⟨qbz (by simp),HS.out.bel⟩
theorem RFit_114 (ep:QB) (rel:List QB) (n:QB) (b:Bool) (m:QB) (d:Bool) (k:QB) (loc:List QB) (r1 q1:Option Addr) (c1 d1:Nat) (w:World) (rr:qz w (.slice r1 rel.length c1) rel) (ll:qz w (.slice q1 loc.length d1) loc) (hx:MidP ⟨ep,rel,114,n,b,m,d,k,loc⟩) (h1:qbg ep=true) (h2:rel≠[]) :
  Calls Tryz.prog 69 #[.agg #[.string (qd ep),.slice r1 rel.length c1,.int .u8 114,.string (qd n),.bool b,.string (qd m),.bool d,.string (qd k),.slice q1 loc.length d1]] w fun e w'=>e=.returned (.bool (rel.all qbg&&(loc.all locB&&(numB n true&&(numB m b&&numB k d)))))∧Below w.heap.size w w':=by
 have N1:=fun w=>qcp ep w (by have h:ep.length≤1048576:=hx.e;omega)
 rw[h1]at N1;have N1:=qb N1;have A1:=qb (fun w=>qdb n true w (by have h:n.length≤1048576:=hx.n;omega))
 have A2:=qb (fun w=>qdb m b w (by have h:m.length≤1048576:=hx.m;omega))
 have A3:=qb (fun w=>qdb k d w (by have h:k.length≤1048576:=hx.k;omega))
 have HR:Hid (∀ t∈rel,t.length≤1048576):=hx.r.2;have HL:Hid (∀ t∈loc,t.length≤1048576):=hx.l.2;have lr:rel.length≤1048576:=hx.r.1;have lo:loc.length≤1048576:=hx.l.1;have S0:TB w ⟨ep,rel,114,n,b,m,d,k,loc⟩ r1 q1 c1 d1 (w.alloc (.cells #[.string (qd ep),.slice r1 rel.length c1,.int .u8 114,.string (qd n),.bool b,.string (qd m),.bool d,.string (qd k),.slice q1 loc.length d1] 44)):=TB.start (x:=⟨ep,rel,114,n,b,m,d,k,loc⟩) rr ll;have hp:0<rel.length:=List.length_pos_iff.2 h2;have hz:((rel.length:Int)==0)=false:=by simp;omega
 have HF:=qb (qjz qbg rel);have HE:Hid ((rel.take rel.length).all qbg=true→rel.all qbg=true):=by show _→_;rw[List.take_length];exact id
 have HG:=qb (qjz locB loc);have HH:Hid ((loc.take loc.length).all locB=true→loc.all locB=true):=by show _→_;rw[List.take_length];exact id
 generalize numB n true=z1 at *;generalize numB m b=z2 at *;generalize numB k d=z3 at *;generalize rel.all qbg=z4 at *;generalize loc.all locB=z5 at *;clear hx h1 h2 rr ll;obtain⟨s0,s1,s2,s3,s4,s5,s6,s7,s8⟩:=S0.seen;dsimp only at s0 s1 s2 s3 s4 s5 s6 s7 s8;go_enter Tryz.func69,Tryz.ntmps69
 (go_wp2_with fail);generalize w.alloc (.cells #[.string (qd ep),.slice r1 rel.length c1,.int .u8 114,.string (qd n),.bool b,.string (qd m),.bool d,.string (qd k),.slice q1 loc.length d1] 44)=W0 at *;refine(N1.out _).mono ?_;rintro e w' ⟨rfl,hw'⟩;rw[hw'];clear hw' w';(go_wp2_with fail);go_loop [3] (fun i=>∃ k:Nat,k≤rel.length∧i=.int .i64 k∧Hid ((rel.take k).all qbg=true)) (fun i=>rel.length-(intOf i).toNat)
 case atStart=>exact⟨0,by omega,rfl,rfl⟩
 case round=>
  obtain⟨i,hi,rfl,HK⟩:=hrel
  by_cases hlt:i<rel.length
  ·have hlt':(i:Int)<(rel.length:Int):=by omega
   obtain⟨b1,o1,rfl,hc1⟩:=S0.rr.some (by show 0<rel.length;omega)
   have p1:=hc1 i hlt;clear hc1;have C:=fun w=>qcp rel[i] w (by have:=HR.out _ (qbtr hlt);omega)
   have HN:=qb (qhp qbg rel i hlt HK.out);have HM:=qb (HF.out i hlt);dsimp only at p1;generalize rel[i]=t at *;generalize qbg t=y at *;have C:=qb C;cases y
   ·obtain rfl:=HM.out rfl;(go_wp2_with fail);refine(C.out _).mono ?_;rintro e w' ⟨rfl,hw'⟩;rw[hw'];clear hw' w';(go_wp2_with fail);go_ret
    exact⟨rfl,S0.bel⟩
   ·have hn:=qb (HN.out rfl);(go_wp2_with fail);refine(C.out _).mono ?_;rintro e w' ⟨rfl,hw'⟩;rw[hw'];clear hw' w';(go_wp2_with fail);go_round
    case rel=>exact⟨i+1,by omega,by go_num,hn⟩
    case measure=>simp[intOf];omega
  ·obtain rfl:i=rel.length:=by omega
   have hlt':¬ (rel.length:Int)<(rel.length:Int):=by omega
   obtain rfl:=HE.out HK.out;have H0:=qb S0;clear S0 s0 s1 s2 s3 s4 s5 s6 s7 s8;have s1:=H0.out.seen.2.1;dsimp only at s1;(go_wp2_with fail);clear s1;go_loopw [4] (fun i wr=>∃ j:Nat,j≤loc.length∧i=.int .i64 j∧Hid ((loc.take j).all locB=true)∧Hid (TB w ⟨ep,rel,114,n,b,m,d,k,loc⟩ r1 q1 c1 d1 wr)) (fun i _=>loc.length-(intOf i).toNat)
   case atStart=>exact⟨0,by omega,rfl,rfl,H0⟩
   case round=>
    obtain⟨j,hj,rfl,HJ,HS⟩:=hrel;obtain⟨s0,s1,s2,s3,s4,s5,s6,s7,s8⟩:=HS.out.seen;dsimp only at s0 s1 s2 s3 s4 s5 s6 s7 s8
    by_cases hlj:j<loc.length
    ·have hlj':(j:Int)<(loc.length:Int):=by omega
     obtain⟨b1,o1,rfl,hc1⟩:=HS.out.ll.some (by show 0<loc.length;omega)
     have p1:=hc1 j hlj;clear hc1;have C:=fun w=>qmr loc[j] w (by have:=HL.out _ (qbtr hlj);omega)
     have HN:=qb (qhp locB loc j hlj HJ.out);have HM:=qb (HG.out j hlj);dsimp only at p1;generalize loc[j]=t at *;generalize locB t=y at *;have C:=qb C;cases y
     ·obtain rfl:=HM.out rfl;(go_wp2_with fail);refine(C.out _).mono ?_;rintro e w2 ⟨rfl,b2⟩;(go_wp2_with fail);go_ret
      exact⟨rfl,(HS.out.next b2).bel⟩
     ·have hn:=qb (HN.out rfl);(go_wp2_with fail);refine(C.out _).mono ?_;rintro e w2 ⟨rfl,b2⟩;(go_wp2_with fail);go_roundw
      case rel=>exact⟨j+1,by omega,by go_num,hn,HS.out.next b2⟩
      case measure=>simp[intOf];omega
    ·obtain rfl:j=loc.length:=by omega
     have hlj':¬ (loc.length:Int)<(loc.length:Int):=by omega
     obtain rfl:=HH.out HJ.out;cases z1
     ·(go_wp2_with fail);refine(A1.out _).mono ?_;rintro e w' ⟨rfl,hw'⟩;rw[hw'];clear hw' w';(go_wp2_with fail);go_ret
      exact⟨rfl,HS.out.bel⟩
     ·cases z2
      ·(go_wp2_with fail);refine(A1.out _).mono ?_;rintro e w' ⟨rfl,hw'⟩;rw[hw'];clear hw' w';(go_wp2_with fail);refine(A2.out _).mono ?_;rintro e w' ⟨rfl,hw'⟩;rw[hw'];clear hw' w';(go_wp2_with fail);go_ret
       exact⟨rfl,HS.out.bel⟩
      ·(go_wp2_with fail);refine(A1.out _).mono ?_;rintro e w' ⟨rfl,hw'⟩;rw[hw'];clear hw' w';(go_wp2_with fail);refine(A2.out _).mono ?_;rintro e w' ⟨rfl,hw'⟩;rw[hw'];clear hw' w';(go_wp2_with fail);refine(A3.out _).mono ?_;rintro e w' ⟨rfl,hw'⟩;rw[hw'];clear hw' w';(go_wp2_with fail);go_ret
       exact⟨qbz (by simp),HS.out.bel⟩
theorem qbhc (x:PepL) (r1 q1:Option Addr) (c1 d1:Nat) (w:World) (rr:qz w (.slice r1 x.rel.length c1) x.rel) (ll:qz w (.slice q1 x.loc.length d1) x.loc) (hx:MidP x) :
  Calls Tryz.prog 69 #[.agg #[.string (qd x.ep),.slice r1 x.rel.length c1,.int .u8 x.c,.string (qd x.n),.bool x.b,.string (qd x.m),.bool x.d,.string (qd x.k),.slice q1 x.loc.length d1]] w fun e w'=>e=.returned (.bool (fitR x))∧Below w.heap.size w w':=by
 obtain⟨ep,rel,c,n,b,m,d,k,loc⟩:=x;cases h1:qbg ep
 ·rw[show fitR ⟨ep,rel,c,n,b,m,d,k,loc⟩=false by simp[fitR,h1]]
  exact RFit_ep ep rel n b m d k loc r1 q1 c1 d1 c w hx.e h1
 ·by_cases h2:rel=[]
  ·rw[show fitR ⟨ep,rel,c,n,b,m,d,k,loc⟩=false by simp[fitR,h2]]
   exact RFit_rel ep rel n b m d k loc r1 q1 c1 d1 c w hx.e h1 h2
  ·have h2':rel.isEmpty=false:=by simpa using h2
   cases h3:letB c
   ·rw[show fitR ⟨ep,rel,c,n,b,m,d,k,loc⟩=false by simp[fitR,h3]]
    exact RFit_let ep rel n b m d k loc r1 q1 c1 d1 c w hx.e h1 h2 h3
   ·have h4:c=0∨c=97∨c=98∨c=114:=by
     unfold letB at h3;simp at h3;omega
    rcases h4 with rfl|rfl|rfl|rfl
    ·rw[show fitR ⟨ep,rel,0,n,b,m,d,k,loc⟩=(rel.all qbg&&(loc.all locB&&(numB n false&&(numB m b&&numB k d)))) by unfold fitR;dsimp only;rw[h1,h2',h3];rfl]
     exact RFit_0 ep rel n b m d k loc r1 q1 c1 d1 w rr ll hx h1 h2
    ·rw[show fitR ⟨ep,rel,97,n,b,m,d,k,loc⟩=(rel.all qbg&&(loc.all locB&&(numB n true&&(numB m b&&numB k d)))) by unfold fitR;dsimp only;rw[h1,h2',h3];rfl]
     exact RFit_97 ep rel n b m d k loc r1 q1 c1 d1 w rr ll hx h1 h2
    ·rw[show fitR ⟨ep,rel,98,n,b,m,d,k,loc⟩=(rel.all qbg&&(loc.all locB&&(numB n true&&(numB m b&&numB k d)))) by unfold fitR;dsimp only;rw[h1,h2',h3];rfl]
     exact RFit_98 ep rel n b m d k loc r1 q1 c1 d1 w rr ll hx h1 h2
    ·rw[show fitR ⟨ep,rel,114,n,b,m,d,k,loc⟩=(rel.all qbg&&(loc.all locB&&(numB n true&&(numB m b&&numB k d)))) by unfold fitR;dsimp only;rw[h1,h2',h3];rfl]
     exact RFit_114 ep rel n b m d k loc r1 q1 c1 d1 w rr ll hx h1 h2
open Bool renaming and_eq_true → qbsn
theorem qnr (k:Int):∀ t:QB,(∀ c∈t,isC (c.toNat:Int) k=true)→qp k t=t.length
 | [],_=>rfl
 | c::t,h=>by
  rw[qp,if_pos (h c List.mem_cons_self),qnr k t (fun c hc=>h c (List.mem_cons_of_mem _ hc))]
  rfl
theorem qvb (k:Int):∀ t:QB,qp k t=t.length→∀ c∈t,isC (c.toNat:Int) k=true
 | [],_,c,h=>by cases h
 | d::t,h,c,hc=>by
  have hd:isC (d.toNat:Int) k=true:=by
   cases hh:isC (d.toNat:Int) k
   ·rw[qp,hh]at h;simp at h
   ·rfl
  rw[qp,if_pos hd]at h;rcases List.mem_cons.1 hc with rfl|hc
  ·exact hd
  ·exact qvb k t (by simpa using h) c hc
theorem qqq (k:Int):∀ m:QB,qp k (m.take (qp k m))=(m.take (qp k m)).length
 | []=>rfl
 | c::r=>by
  rw[qp];split
  ·rename_i h;rw[List.take_succ_cons,qp,if_pos h,qqq k r]
   rfl
  ·rfl
theorem qbdt:∀ (l:QB) (c:UInt8),c∈qr l→c=48∨c∈l
 | [],c,h=>.inl (by simpa[qr] using h)
 | d::r,c,h=>by
  rw[qr]at h;split at h
  ·rcases qbdt r c h with h|h
   ·exact .inl h
   ·exact .inr (List.mem_cons_of_mem _ h)
  ·exact .inr h
theorem qxg:∀ l:QB,qr (qr l)=qr l∧qr l≠[]
 | []=>⟨rfl,by simp[qr]⟩
 | d::r=>by
  rw[qr];split
  ·exact qxg r
  ·rename_i h;exact⟨by rw[qr,if_neg h],by simp⟩
theorem qqc (l:QB) (h:qp 1 l=l.length):qbg (qr l)=true:=by
 have hi:=qxg l;have hr:qp 1 (qr l)=(qr l).length:=by
  refine qnr 1 _ fun c hc=>?_;rcases qbdt l c hc with rfl|hc
  ·rfl
  ·exact qvb 1 l h c hc
 unfold qbg digB;simp only[qbsn,beq_iff_eq,Bool.not_eq_true',List.isEmpty_eq_false_iff];exact⟨⟨hi.2,hr⟩,hi.1⟩
theorem qbnt {l:QB} (h:digB l=true):l≠[]∧qp 1 l=l.length:=by
 unfold digB at h;simp only[qbsn,beq_iff_eq,Bool.not_eq_true',List.isEmpty_eq_false_iff]at h;exact h
theorem qbgc (l:QB) (a n:Nat):seg l a (a+n)=(l.drop a).take n:=by
 unfold seg;rw[List.drop_take]
 congr 1
 omega
theorem digT_run (l:QB) (a:Nat):qp 1 (digT l a)=(digT l a).length:=by
 unfold digT digE;rw[qbgc];exact qqq 1 _
theorem qpm (l:QB) (a:Nat):qbg (qr (digT l a))=true:=qqc _ (digT_run l a)
theorem qbfb (l:QB) (k:Int) (seps:QB):∀ (n a:Nat),l.length-a=n→∀ x∈qbf l k seps a,seg l x.1 x.2≠[]∧qp k (seg l x.1 x.2)=(seg l x.1 x.2).length:=by
 intro n
 induction n using Nat.strongRecOn with
 | ind n ih=>
  intro a hn x hx;rw[qbf]at hx
  by_cases h0:qp k (l.drop a)=0
  ·rw[if_pos h0]at hx;cases hx
  ·rw [if_neg h0]at hx;rcases List.mem_cons.1 hx with rfl|hx
   ·show seg l a (a+qp k (l.drop a))≠[]∧_;have hle:=qhx k (l.drop a);dsimp only;rw[qbgc];refine⟨?_,qqq k _⟩;intro he;have:=congrArg List.length he;rw[List.length_take,List.length_nil]at this;omega
   ·by_cases h1:∃ c,l[a+qp k (l.drop a)]? = some c∧seps.contains c=true
    ·rw[dif_pos h1]at hx;obtain⟨c,hc,_⟩:=h1;have hlt:=(List.getElem?_eq_some_iff.1 hc).1;exact ih (l.length-(a+qp k (l.drop a)+1)) (by omega) _ rfl x hx
    ·rw[dif_neg h1]at hx;cases hx
theorem qblr {c:UInt8} (h:isC (c.toNat:Int) 1=true):isC (c.toNat:Int) 5=true:=by
 simp only[isC]at h ⊢;simp at h ⊢;omega
theorem low_seg (l:QB) (a b:Nat) (h:qk l=l):qk (seg l a b)=seg l a b:=by
 unfold qk seg at *;rw[List.map_drop,List.map_take,h]
theorem low_idem (l:QB):qk (qk l)=qk l:=by
 unfold qk;rw[List.map_map];refine List.map_congr_left fun c _=>?_;show lowC (lowC c)=lowC c
 by_cases h:isC (c.toNat:Int) 3=true
 ·have hc:lowC c=c+32:=by unfold lowC;rw[if_pos h]
  rw[hc];unfold lowC;rw[if_neg];simp only[isC]at h ⊢;simp at h ⊢;omega
 ·have hc:lowC c=c:=by unfold lowC;rw[if_neg h]
  rw[hc,hc]
theorem loc_fit (p:QB) (h0:p≠[]) (h1:qp 5 p=p.length) (h2:qk p=p):locB (qbt p)=true:=by
 unfold locB;cases hd:digB p
 ·have e:qbt p=p:=by unfold qbt;rw[hd];rfl
  rw[e,e,h1,h2];simp[h0]
 ·have e:qbt p=qr p:=by unfold qbt;rw[hd];rfl
  obtain ⟨d1,d2⟩:=qbnt hd;have hf:=qqc p d2;obtain⟨t1,t2,t3,t4⟩:=trim_of hf;rw[e,t4];have l5:qp 5 (qr p)=(qr p).length:=qnr 5 _ fun c hc=>qblr (qbcv _ t2 c hc);have ll:qk (qr p)=qr p:=by
   unfold qk;rw[List.map_congr_left (g:=id),List.map_id];intro c hc;exact dig_low (qbcv _ t2 c hc)
  rw[l5,ll];simp[t1]
theorem read_fit (u:QB) (hu:qk u=u) (h:(verX u).1=0):FitT (qm u):=by
 have hr:(vrel u).length≠0:=by
  intro h0;unfold verX at h;rw[if_pos h0]at h;exact qmt _ _ h
 refine⟨?_,?_,?_,?_,?_,?_,?_,?_⟩
 ·show qbg (epoT u (vp1 u))=true;unfold epoT;split
  ·rename_i he;unfold epoB at he;simp only[qbsn]at he;exact qqc _ (qbnt he.2).2
  ·rfl
 ·show rowL u (vrel u)≠[];intro he;apply hr;have:=congrArg List.length he;simpa[rowL] using this
 ·show (rowL u (vrel u)).all qbg=true;rw[List.all_eq_true];intro t ht;obtain⟨x,hx,rfl⟩:=List.mem_map.1 ht;obtain⟨s1,s2⟩:=qbfb u 1 [46] _ _ rfl x hx;have hd:digB (seg u x.1 x.2)=true:=by
   unfold digB;simp only[qbsn,beq_iff_eq,Bool.not_eq_true',List.isEmpty_eq_false_iff];exact⟨s1,s2⟩
  have e:qbt (seg u x.1 x.2)=qr (seg u x.1 x.2):=by unfold qbt;rw[hd];rfl
  rw[e];exact qqc _ s2
 ·show preC u (vp3 u)=0∨preC u (vp3 u)=97∨preC u (vp3 u)=98∨preC u (vp3 u)=114;unfold preC;split
  ·exact .inl rfl
  ·split
   ·exact .inr (.inl rfl)
   ·split
    ·exact .inr (.inr (.inl rfl))
    ·exact .inr (.inr (.inr rfl))
 ·show numB (stN u (vp3 u) qbq) (preC u (vp3 u) != 0)=true;unfold stN preC;cases qbl u (vp3 u) qbq with
  | none=>rfl
  | some x=>
   dsimp only;have hb:((if x=[97,108,112,104,97]∨x=[97] then (97:Int) else if x=[98,101,116,97]∨x=[98] then 98 else 114) != 0)=true:=by
    (repeat' split)<;>rfl
   rw[hb];exact qpm _ _
 ·show numB (posN u (vp4 u)) (posB u (vp4 u))=true;unfold posN posB;split
  ·exact qpm _ _
  ·unfold stN;cases qbl u (vp4 u) qdn with
   | none=>rfl
   | some x=>exact qpm _ _
 ·show numB (stN u (vp5 u) qbk) (qbl u (vp5 u) qbk).isSome=true;unfold stN;cases qbl u (vp5 u) qbk with
  | none=>rfl
  | some x=>exact qpm _ _
 ·show(rowL u (qff u)).all locB=true;rw[List.all_eq_true];intro t ht;obtain⟨x,hx,rfl⟩:=List.mem_map.1 ht;unfold qff at hx;split at hx
  ·obtain⟨s1,s2⟩:=qbfb u 5 [45,95,46] _ _ rfl x hx;exact loc_fit _ s1 s2 (low_seg _ _ _ hu)
  ·cases hx
def RL (R:QB):Prop:=R=[]∨∃ r,R=43::r
def RD (R:QB):Prop:=RL R∨∃ r,R=46::100::101::118::r
theorem qjk {n:QB} {b:Bool} (h:numB n b=true) (hb:b=false):n=[]:=by
 subst hb;simpa[numB] using h
theorem qbbh {t:QB} (h:locB t=true):t≠[]∧qp 5 t=t.length∧qk t=t∧qbt t=t:=by
 unfold locB at h;simp only[Bool.and_eq_true,beq_iff_eq,Bool.not_eq_true',List.isEmpty_eq_false_iff]at h;exact⟨h.1.1.1,h.1.1.2,h.1.2,h.2⟩
theorem fit_of {x:PepL} (h:fitR x=true):FitT x:=by
 unfold fitR letB at h;simp only[Bool.and_eq_true,Bool.or_eq_true,beq_iff_eq,Bool.not_eq_true',List.isEmpty_eq_false_iff]at h;obtain⟨h1,h2,h3,h4,h5,h6,h7,h8⟩:=h;exact⟨h1,h2,h4,by omega,h6,h7,h8,h5⟩
theorem low_ok {l:QB} (h:okP l=true):(verX (qk l)).1=0∧l.length≤64:=by
 unfold okP at h;simp only[Bool.and_eq_true,decide_eq_true_eq]at h;exact⟨h.2,h.1⟩
theorem ok_fit {l:QB} (h:okP l=true):FitT (qm (qk l)):=read_fit _ (low_idem l) (low_ok h).1
theorem qck (s:QY) (w:World) (h:okP s.data.toList=true) :
  Calls Tryz.prog 25 #[.string s] w fun e w'=>∃ vr vl,e=.returned (.tuple #[pepV (qd (qm (qk s.data.toList)).ep) vr (qm (qk s.data.toList)).c (qd (qm (qk s.data.toList)).n) (qm (qk s.data.toList)).b (qd (qm (qk s.data.toList)).m) (qm (qk s.data.toList)).d (qd (qm (qk s.data.toList)).k) vl,.agg #[.int .i64 0,.int .i64 0]]) ∧
   qz w' vr (qm (qk s.data.toList)).rel∧qz w' vl (qm (qk s.data.toList)).loc∧Below w.heap.size w w':=by
 unfold okP at h;simp only[Bool.and_eq_true,decide_eq_true_eq]at h;refine(qnx s w).mono ?_;rintro e w' ⟨hb,hp⟩;rw[if_neg (by omega),if_pos h.2]at hp
 obtain⟨v,rfl,⟨vr,vl,rfl,h1,h2⟩⟩:=hp;exact⟨vr,vl,rfl,qhq h1,qhq h2,hb⟩
theorem qfp (s:QY) (w:World) (h:okP s.data.toList=false) :
  Calls Tryz.prog 25 #[.string s] w fun e w'=>e=.returned (.tuple #[.agg pepZ,.agg #[.int .i64 (errX s.data.toList).1,.int .i64 ((errX s.data.toList).2:Int)]])∧Below w.heap.size w w':=by
 refine(qnx s w).mono ?_;rintro e w' ⟨hb,hp⟩;unfold okP at h;unfold errX
 by_cases hl:64<s.data.toList.length
 ·rw[if_pos hl]at hp ⊢;exact⟨hp,hb⟩
 ·rw [if_neg hl]at hp ⊢;have hx:¬ (verX (qk s.data.toList)).1=0:=fun he=>by
   rw[decide_eq_true (show s.data.toList.length≤64 by omega),decide_eq_true he]at h
   cases h
  rw[if_neg hx]at hp;exact⟨hp,hb⟩
structure SmallQ (x:PepL):Prop where
 e:x.ep.length≤65
 n:x.n.length≤65
 m:x.m.length≤65
 k:x.k.length≤65
 r:x.rel.length≤65∧∀ t∈x.rel,t.length≤65
 l:x.loc.length≤65∧∀ t∈x.loc,t.length≤65
theorem qbmc (u:QB) (hu:u.length≤64):SmallQ (qm u):=by
 have h1:=qbmj u (vp1 u);have h2:=qvw u (vp3 u) qbq;have h3:=qbnk u (vp4 u);have h4:=qvw u (vp5 u) qbk;have r1:=qjm u 1 [46] _ (vp2 u) rfl;have r2:=qjm u 5 [45,95,46] _ (vp7 u) rfl;refine⟨?_,?_,?_,?_,qmz u hu _ ?_,qmz u hu _ ?_⟩
 ·show(epoT u (vp1 u)).length≤65;omega
 ·show(stN u (vp3 u) qbq).length≤65;omega
 ·show(posN u (vp4 u)).length≤65;omega
 ·show(stN u (vp5 u) qbk).length≤65;omega
 ·show(vrel u).length≤65;unfold vrel;omega
 ·unfold qff;split
  ·unfold vloc;omega
  ·simp
theorem fit_to {x:PepL} (h:FitT x):fitR x=true:=by
 have hr:x.rel.isEmpty=false:=by
  have:=h.f2;cases hx:x.rel with
  | nil=>exact absurd hx this
  | cons a r=>rfl
 have hl:letB x.c=true:=by
  unfold letB;rcases h.f4 with e|e|e|e<;>rw[e]<;>rfl
 unfold fitR;rw[h.f1,hr,hl,h.f3,h.f8,h.f5,h.f6,h.f7]
 rfl
end Go.Proofs.YtabmfdedbpmfmaaGreat
