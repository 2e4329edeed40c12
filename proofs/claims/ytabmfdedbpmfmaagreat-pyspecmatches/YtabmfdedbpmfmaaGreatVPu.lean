/- Walks: a version's text. -/
import Derived.Test.YtabmfdedbpmfmaaGreatVQc
import Derived.Deep.RegionWith
namespace Go.Proofs.YtabmfdedbpmfmaaGreat
open Go.RowKit Go.Shelf
open List renaming getElem_mem → qbvk
set_option linter.unusedVariables false
set_option maxHeartbeats 4000000
set_option maxRecDepth 100000
def MidT (ts:List QB):Prop:=ts.length≤1048576∧∀ t∈ts,t.length≤1048576
structure MidP (x:PepL):Prop where
 e:x.ep.length≤1048576
 n:x.n.length≤1048576
 m:x.m.length≤1048576
 k:x.k.length≤1048576
 r:MidT x.rel
 l:MidT x.loc
def fitR (x:PepL):Bool:=qbg x.ep&&(!x.rel.isEmpty&&(letB x.c&&(x.rel.all qbg&&(x.loc.all locB&&(numB x.n (x.c != 0)&&(numB x.m x.b&&numB x.k x.d))))))
theorem qhr (P:QB→Bool) (ts:List QB) (k:Nat) (h:k<ts.length) (h1:(ts.take k).all P=true) (h2:P ts[k]=true):(ts.take (k+1)).all P=true:=by
 rw[List.take_succ_eq_append_getElem h,List.all_append,h1];simpa using h2
theorem qkh (P:QB→Bool) (ts:List QB) (k:Nat) (h:k<ts.length) (h2:P ts[k]=false):ts.all P=false:=by
 rw[List.all_eq_false];exact⟨ts[k],qbvk h,by simp[h2]⟩
theorem RFit_ep (ep:QB) (rel:List QB) (n:QB) (b:Bool) (m:QB) (d:Bool) (k:QB) (loc:List QB) (r1 q1:Option Addr) (c1 d1:Nat) (c:Int) (w:World) (hx:ep.length≤1048576) (h1:qbg ep=false) :
  Calls Tryz.prog 69 #[.agg #[.string (qd ep),.slice r1 rel.length c1,.int .u8 c,.string (qd n),.bool b,.string (qd m),.bool d,.string (qd k),.slice q1 loc.length d1]] w fun e w'=>e=.returned (.bool false)∧Below w.heap.size w w':=by
 have N1:=fun w=>qcr ep w (by omega)
 rw[h1]at N1;have N1:=qb N1;have b0:=(Below.refl w.heap.size w).alloc (Nat.le_refl _) (.cells #[.string (qd ep),.slice r1 rel.length c1,.int .u8 c,.string (qd n),.bool b,.string (qd m),.bool d,.string (qd k),.slice q1 loc.length d1] 44);go_enter Tryz.func69,Tryz.ntmps69
 (go_wp2_with fail);refine(N1.out _).mono ?_;rintro e w' ⟨rfl,hw'⟩;rw[hw'];clear hw' w';(go_wp2_with fail);go_ret
 exact⟨rfl,(Below.refl _ w).alloc (Nat.le_refl _) _⟩
theorem RFit_rel (ep:QB) (rel:List QB) (n:QB) (b:Bool) (m:QB) (d:Bool) (k:QB) (loc:List QB) (r1 q1:Option Addr) (c1 d1:Nat) (c:Int) (w:World) (hx:ep.length≤1048576) (h1:qbg ep=true) (h2:rel=[]) :
  Calls Tryz.prog 69 #[.agg #[.string (qd ep),.slice r1 rel.length c1,.int .u8 c,.string (qd n),.bool b,.string (qd m),.bool d,.string (qd k),.slice q1 loc.length d1]] w fun e w'=>e=.returned (.bool false)∧Below w.heap.size w w':=by
 have N1:=fun w=>qcr ep w (by omega)
 rw[h1]at N1;have hz:((rel.length:Int)==0)=true:=by rw[h2];rfl
 have N1:=qb N1;have b0:=(Below.refl w.heap.size w).alloc (Nat.le_refl _) (.cells #[.string (qd ep),.slice r1 rel.length c1,.int .u8 c,.string (qd n),.bool b,.string (qd m),.bool d,.string (qd k),.slice q1 loc.length d1] 44);go_enter Tryz.func69,Tryz.ntmps69
 (go_wp2_with fail);refine(N1.out _).mono ?_;rintro e w' ⟨rfl,hw'⟩;rw[hw'];clear hw' w';(go_wp2_with fail);go_ret
 exact⟨rfl,(Below.refl _ w).alloc (Nat.le_refl _) _⟩
theorem RFit_let (ep:QB) (rel:List QB) (n:QB) (b:Bool) (m:QB) (d:Bool) (k:QB) (loc:List QB) (r1 q1:Option Addr) (c1 d1:Nat) (c:Int) (w:World) (hx:ep.length≤1048576) (h1:qbg ep=true) (h2:rel≠[]) (h3:letB c=false) :
  Calls Tryz.prog 69 #[.agg #[.string (qd ep),.slice r1 rel.length c1,.int .u8 c,.string (qd n),.bool b,.string (qd m),.bool d,.string (qd k),.slice q1 loc.length d1]] w fun e w'=>e=.returned (.bool false)∧Below w.heap.size w w':=by
 have N1:=fun w=>qcr ep w (by omega)
 rw[h1]at N1;have hp:0<rel.length:=List.length_pos_iff.2 h2;have hz:((rel.length:Int)==0)=false:=by simp;omega
 obtain ⟨g0,g1,g2,g3⟩:(c != 0)=true∧(c != 97)=true∧(c != 98)=true∧(c != 114)=true:=by
  unfold letB at h3;simp at h3;simp;omega
 have N1:=qb N1;have b0:=(Below.refl w.heap.size w).alloc (Nat.le_refl _) (.cells #[.string (qd ep),.slice r1 rel.length c1,.int .u8 c,.string (qd n),.bool b,.string (qd m),.bool d,.string (qd k),.slice q1 loc.length d1] 44);go_enter Tryz.func69,Tryz.ntmps69
 (go_wp2_with fail);refine(N1.out _).mono ?_;rintro e w' ⟨rfl,hw'⟩;rw[hw'];clear hw' w';(go_wp2_with fail);go_ret
 exact⟨rfl,(Below.refl _ w).alloc (Nat.le_refl _) _⟩
theorem RFit_0 (ep:QB) (rel:List QB) (n:QB) (b:Bool) (m:QB) (d:Bool) (k:QB) (loc:List QB) (r1 q1:Option Addr) (c1 d1:Nat) (w:World) (rr:qx w (.slice r1 rel.length c1) rel) (ll:qx w (.slice q1 loc.length d1) loc) (hx:MidP ⟨ep,rel,0,n,b,m,d,k,loc⟩) (h1:qbg ep=true) (h2:rel≠[]) :
  Calls Tryz.prog 69 #[.agg #[.string (qd ep),.slice r1 rel.length c1,.int .u8 0,.string (qd n),.bool b,.string (qd m),.bool d,.string (qd k),.slice q1 loc.length d1]] w fun e w'=>e=.returned (.bool (rel.all qbg&&(loc.all locB&&(numB n false&&(numB m b&&numB k d)))))∧Below w.heap.size w w':=by
 have N1:=fun w=>qcr ep w (by have h:ep.length≤1048576:=hx.e;omega)
 rw[h1]at N1;have N1:=qb N1;have A1:=qb (fun w=>qcz n false w (by have h:n.length≤1048576:=hx.n;omega))
 have A2:=qb (fun w=>qcz m b w (by have h:m.length≤1048576:=hx.m;omega))
 have A3:=qb (fun w=>qcz k d w (by have h:k.length≤1048576:=hx.k;omega))
 have HR:Hid (∀ t∈rel,t.length≤1048576):=hx.r.2;have HL:Hid (∀ t∈loc,t.length≤1048576):=hx.l.2;have lr:rel.length≤1048576:=hx.r.1;have lo:loc.length≤1048576:=hx.l.1;have S0:TB w ⟨ep,rel,0,n,b,m,d,k,loc⟩ r1 q1 c1 d1 (w.alloc (.cells #[.string (qd ep),.slice r1 rel.length c1,.int .u8 0,.string (qd n),.bool b,.string (qd m),.bool d,.string (qd k),.slice q1 loc.length d1] 44)):=TB.start (x:=⟨ep,rel,0,n,b,m,d,k,loc⟩) rr ll;have hp:0<rel.length:=List.length_pos_iff.2 h2;have hz:((rel.length:Int)==0)=false:=by simp;omega
 have HF:=qb (qkh qbg rel);have HE:Hid ((rel.take rel.length).all qbg=true→rel.all qbg=true):=by show _→_;rw[List.take_length];exact id
 have HG:=qb (qkh locB loc);have HH:Hid ((loc.take loc.length).all locB=true→loc.all locB=true):=by show _→_;rw[List.take_length];exact id
 generalize numB n false=z1 at *;generalize numB m b=z2 at *;generalize numB k d=z3 at *;generalize rel.all qbg=z4 at *;generalize loc.all locB=z5 at *;clear hx h1 h2 rr ll;obtain⟨s0,s1,s2,s3,s4,s5,s6,s7,s8⟩:=S0.seen;dsimp only at s0 s1 s2 s3 s4 s5 s6 s7 s8;go_enter Tryz.func69,Tryz.ntmps69
 (go_wp2_with fail);generalize w.alloc (.cells #[.string (qd ep),.slice r1 rel.length c1,.int .u8 0,.string (qd n),.bool b,.string (qd m),.bool d,.string (qd k),.slice q1 loc.length d1] 44)=W0 at *;refine(N1.out _).mono ?_;rintro e w' ⟨rfl,hw'⟩;rw[hw'];clear hw' w';(go_wp2_with fail);go_loop [3] (fun i=>∃ k:Nat,k≤rel.length∧i=.int .i64 k∧Hid ((rel.take k).all qbg=true)) (fun i=>rel.length-(intOf i).toNat)
 case atStart=>exact⟨0,by omega,rfl,rfl⟩
 case round=>
  obtain⟨i,hi,rfl,HK⟩:=hrel
  by_cases hlt:i<rel.length
  ·have hlt':(i:Int)<(rel.length:Int):=by omega
   obtain⟨b1,o1,rfl,hc1⟩:=S0.rr.some (by show 0<rel.length;omega)
   have p1:=hc1 i hlt;clear hc1;have C:=fun w=>qcr rel[i] w (by have:=HR.out _ (qbvk hlt);omega)
   have HN:=qb (qhr qbg rel i hlt HK.out);have HM:=qb (HF.out i hlt);dsimp only at p1;generalize rel[i]=t at *;generalize qbg t=y at *;have C:=qb C;cases y
   ·obtain rfl:=HM.out rfl;(go_wp2_with fail);refine(C.out _).mono ?_;rintro e w' ⟨rfl,hw'⟩;rw[hw'];clear hw' w';(go_wp2_with fail);go_ret
    exact⟨rfl,S0.bel⟩
   ·have hn:=qb (HN.out rfl);(go_wp2_with fail);refine(C.out _).mono ?_;rintro e w' ⟨rfl,hw'⟩;rw[hw'];clear hw' w';(go_wp2_with fail);go_round
    case rel=>exact⟨i+1,by omega,by go_num,hn⟩
    case measure=>simp[intOf];omega
  ·obtain rfl:i=rel.length:=by omega
   have hlt':¬ (rel.length:Int)<(rel.length:Int):=by omega
   obtain rfl:=HE.out HK.out;have H0:=qb S0;clear S0 s0 s1 s2 s3 s4 s5 s6 s7 s8;have s1:=H0.out.seen.2.1;dsimp only at s1;(go_wp2_with fail);clear s1;go_loopw [4] (fun i wr=>∃ j:Nat,j≤loc.length∧i=.int .i64 j∧Hid ((loc.take j).all locB=true)∧Hid (TB w ⟨ep,rel,0,n,b,m,d,k,loc⟩ r1 q1 c1 d1 wr)) (fun i _=>loc.length-(intOf i).toNat)
   case atStart=>exact⟨0,by omega,rfl,rfl,H0⟩
   case round=>
    obtain⟨j,hj,rfl,HJ,HS⟩:=hrel;obtain⟨s0,s1,s2,s3,s4,s5,s6,s7,s8⟩:=HS.out.seen;dsimp only at s0 s1 s2 s3 s4 s5 s6 s7 s8
    by_cases hlj:j<loc.length
    ·have hlj':(j:Int)<(loc.length:Int):=by omega
     obtain⟨b1,o1,rfl,hc1⟩:=HS.out.ll.some (by show 0<loc.length;omega)
     have p1:=hc1 j hlj;clear hc1;have C:=fun w=>qnj loc[j] w (by have:=HL.out _ (qbvk hlj);omega)
     have HN:=qb (qhr locB loc j hlj HJ.out);have HM:=qb (HG.out j hlj);dsimp only at p1;generalize loc[j]=t at *;generalize locB t=y at *;have C:=qb C;cases y
     ·obtain rfl:=HM.out rfl;(go_wp2_with fail);refine(C.out _).mono ?_;rintro e w2 ⟨rfl,b2⟩;(go_wp2_with fail);go_ret
      exact⟨rfl,(HS.out.next b2).bel⟩
     ·have hn:=qb (HN.out rfl);(go_wp2_with fail);refine(C.out _).mono ?_;rintro e w2 ⟨rfl,b2⟩;(go_wp2_with fail);go_roundw
      case rel=>exact⟨j+1,by omega,by go_num,hn,HS.out.next b2⟩
      case measure=>simp[intOf];omega
    ·obtain rfl:j=loc.length:=by omega
     have hlj':¬ (loc.length:Int)<(loc.length:Int):=by omega
     obtain rfl:=HH.out HJ.out;cases z1
     ·(go_wp2_with fail);refine(A1.out _).mono ?_;rintro e w' ⟨rfl,hw'⟩;rw[hw'];clear hw' w';(go_wp2_with fail);go_ret
      exact⟨rfl,HS.out.bel⟩
     ·cases z2
      ·(go_wp2_with fail);refine(A1.out _).mono ?_;rintro e w' ⟨rfl,hw'⟩;rw[hw'];clear hw' w';(go_wp2_with fail);refine(A2.out _).mono ?_;rintro e w' ⟨rfl,hw'⟩;rw[hw'];clear hw' w';(go_wp2_with fail);go_ret
       exact⟨rfl,HS.out.bel⟩
      ·(go_wp2_with fail);refine(A1.out _).mono ?_;rintro e w' ⟨rfl,hw'⟩;rw[hw'];clear hw' w';(go_wp2_with fail);refine(A2.out _).mono ?_;rintro e w' ⟨rfl,hw'⟩;rw[hw'];clear hw' w';(go_wp2_with fail);refine(A3.out _).mono ?_;rintro e w' ⟨rfl,hw'⟩;rw[hw'];clear hw' w';(go_wp2_with fail);go_ret
       exact⟨qcb (by simp),HS.out.bel⟩
theorem RFit_97 (ep:QB) (rel:List QB) (n:QB) (b:Bool) (m:QB) (d:Bool) (k:QB) (loc:List QB) (r1 q1:Option Addr) (c1 d1:Nat) (w:World) (rr:qx w (.slice r1 rel.length c1) rel) (ll:qx w (.slice q1 loc.length d1) loc) (hx:MidP ⟨ep,rel,97,n,b,m,d,k,loc⟩) (h1:qbg ep=true) (h2:rel≠[]) :
  Calls Tryz.prog 69 #[.agg #[.string (qd ep),.slice r1 rel.length c1,.int .u8 97,.string (qd n),.bool b,.string (qd m),.bool d,.string (qd k),.slice q1 loc.length d1]] w fun e w'=>e=.returned (.bool (rel.all qbg&&(loc.all locB&&(numB n true&&(numB m b&&numB k d)))))∧Below w.heap.size w w':=by
 have N1:=fun w=>qcr ep w (by have h:ep.length≤1048576:=hx.e;omega)
 rw[h1]at N1;have N1:=qb N1;have A1:=qb (fun w=>qcz n true w (by have h:n.length≤1048576:=hx.n;omega))
 have A2:=qb (fun w=>qcz m b w (by have h:m.length≤1048576:=hx.m;omega))
 have A3:=qb (fun w=>qcz k d w (by have h:k.length≤1048576:=hx.k;omega))
 have HR:Hid (∀ t∈rel,t.length≤1048576):=hx.r.2;have HL:Hid (∀ t∈loc,t.length≤1048576):=hx.l.2;have lr:rel.length≤1048576:=hx.r.1;have lo:loc.length≤1048576:=hx.l.1;have S0:TB w ⟨ep,rel,97,n,b,m,d,k,loc⟩ r1 q1 c1 d1 (w.alloc (.cells #[.string (qd ep),.slice r1 rel.length c1,.int .u8 97,.string (qd n),.bool b,.string (qd m),.bool d,.string (qd k),.slice q1 loc.length d1] 44)):=TB.start (x:=⟨ep,rel,97,n,b,m,d,k,loc⟩) rr ll;have hp:0<rel.length:=List.length_pos_iff.2 h2;have hz:((rel.length:Int)==0)=false:=by simp;omega
 have HF:=qb (qkh qbg rel);have HE:Hid ((rel.take rel.length).all qbg=true→rel.all qbg=true):=by show _→_;rw[List.take_length];exact id
 have HG:=qb (qkh locB loc);have HH:Hid ((loc.take loc.length).all locB=true→loc.all locB=true):=by show _→_;rw[List.take_length];exact id
 generalize numB n true=z1 at *;generalize numB m b=z2 at *;generalize numB k d=z3 at *;generalize rel.all qbg=z4 at *;generalize loc.all locB=z5 at *;clear hx h1 h2 rr ll;obtain⟨s0,s1,s2,s3,s4,s5,s6,s7,s8⟩:=S0.seen;dsimp only at s0 s1 s2 s3 s4 s5 s6 s7 s8;go_enter Tryz.func69,Tryz.ntmps69
 (go_wp2_with fail);generalize w.alloc (.cells #[.string (qd ep),.slice r1 rel.length c1,.int .u8 97,.string (qd n),.bool b,.string (qd m),.bool d,.string (qd k),.slice q1 loc.length d1] 44)=W0 at *;refine(N1.out _).mono ?_;rintro e w' ⟨rfl,hw'⟩;rw[hw'];clear hw' w';(go_wp2_with fail);go_loop [3] (fun i=>∃ k:Nat,k≤rel.length∧i=.int .i64 k∧Hid ((rel.take k).all qbg=true)) (fun i=>rel.length-(intOf i).toNat)
 case atStart=>exact⟨0,by omega,rfl,rfl⟩
 case round=>
  obtain⟨i,hi,rfl,HK⟩:=hrel
  by_cases hlt:i<rel.length
  ·have hlt':(i:Int)<(rel.length:Int):=by omega
   obtain⟨b1,o1,rfl,hc1⟩:=S0.rr.some (by show 0<rel.length;omega)
   have p1:=hc1 i hlt;clear hc1;have C:=fun w=>qcr rel[i] w (by have:=HR.out _ (qbvk hlt);omega)
   have HN:=qb (qhr qbg rel i hlt HK.out);have HM:=qb (HF.out i hlt);dsimp only at p1;generalize rel[i]=t at *;generalize qbg t=y at *;have C:=qb C;cases y
   ·obtain rfl:=HM.out rfl;(go_wp2_with fail);refine(C.out _).mono ?_;rintro e w' ⟨rfl,hw'⟩;rw[hw'];clear hw' w';(go_wp2_with fail);go_ret
    exact⟨rfl,S0.bel⟩
   ·have hn:=qb (HN.out rfl);(go_wp2_with fail);refine(C.out _).mono ?_;rintro e w' ⟨rfl,hw'⟩;rw[hw'];clear hw' w';(go_wp2_with fail);go_round
    case rel=>exact⟨i+1,by omega,by go_num,hn⟩
    case measure=>simp[intOf];omega
  ·obtain rfl:i=rel.length:=by omega
   have hlt':¬ (rel.length:Int)<(rel.length:Int):=by omega
   obtain rfl:=HE.out HK.out;have H0:=qb S0;clear S0 s0 s1 s2 s3 s4 s5 s6 s7 s8;have s1:=H0.out.seen.2.1;dsimp only at s1;(go_wp2_with fail);clear s1;go_loopw [4] (fun i wr=>∃ j:Nat,j≤loc.length∧i=.int .i64 j∧Hid ((loc.take j).all locB=true)∧Hid (TB w ⟨ep,rel,97,n,b,m,d,k,loc⟩ r1 q1 c1 d1 wr)) (fun i _=>loc.length-(intOf i).toNat)
   case atStart=>exact⟨0,by omega,rfl,rfl,H0⟩
   case round=>
    obtain⟨j,hj,rfl,HJ,HS⟩:=hrel;obtain⟨s0,s1,s2,s3,s4,s5,s6,s7,s8⟩:=HS.out.seen;dsimp only at s0 s1 s2 s3 s4 s5 s6 s7 s8
    by_cases hlj:j<loc.length
    ·have hlj':(j:Int)<(loc.length:Int):=by omega
     obtain⟨b1,o1,rfl,hc1⟩:=HS.out.ll.some (by show 0<loc.length;omega)
     have p1:=hc1 j hlj;clear hc1;have C:=fun w=>qnj loc[j] w (by have:=HL.out _ (qbvk hlj);omega)
     have HN:=qb (qhr locB loc j hlj HJ.out);have HM:=qb (HG.out j hlj);dsimp only at p1;generalize loc[j]=t at *;generalize locB t=y at *;have C:=qb C;cases y
     ·obtain rfl:=HM.out rfl;(go_wp2_with fail);refine(C.out _).mono ?_;rintro e w2 ⟨rfl,b2⟩;(go_wp2_with fail);go_ret
      exact⟨rfl,(HS.out.next b2).bel⟩
     ·have hn:=qb (HN.out rfl);(go_wp2_with fail);refine(C.out _).mono ?_;rintro e w2 ⟨rfl,b2⟩;(go_wp2_with fail);go_roundw
      case rel=>exact⟨j+1,by omega,by go_num,hn,HS.out.next b2⟩
      case measure=>simp[intOf];omega
    ·obtain rfl:j=loc.length:=by omega
     have hlj':¬ (loc.length:Int)<(loc.length:Int):=by omega
     obtain rfl:=HH.out HJ.out;cases z1
     ·(go_wp2_with fail);refine(A1.out _).mono ?_;rintro e w' ⟨rfl,hw'⟩;rw[hw'];clear hw' w';(go_wp2_with fail);go_ret
      exact⟨rfl,HS.out.bel⟩
     ·cases z2
      ·(go_wp2_with fail);refine(A1.out _).mono ?_;rintro e w' ⟨rfl,hw'⟩;rw[hw'];clear hw' w';(go_wp2_with fail);refine(A2.out _).mono ?_;rintro e w' ⟨rfl,hw'⟩;rw[hw'];clear hw' w';(go_wp2_with fail);go_ret
       exact⟨rfl,HS.out.bel⟩
      ·(go_wp2_with fail);refine(A1.out _).mono ?_;rintro e w' ⟨rfl,hw'⟩;rw[hw'];clear hw' w';(go_wp2_with fail);refine(A2.out _).mono ?_;rintro e w' ⟨rfl,hw'⟩;rw[hw'];clear hw' w';(go_wp2_with fail);refine(A3.out _).mono ?_;rintro e w' ⟨rfl,hw'⟩;rw[hw'];clear hw' w';(go_wp2_with fail);go_ret
       exact⟨qcb (by simp),HS.out.bel⟩
theorem RFit_98 (ep:QB) (rel:List QB) (n:QB) (b:Bool) (m:QB) (d:Bool) (k:QB) (loc:List QB) (r1 q1:Option Addr) (c1 d1:Nat) (w:World) (rr:qx w (.slice r1 rel.length c1) rel) (ll:qx w (.slice q1 loc.length d1) loc) (hx:MidP ⟨ep,rel,98,n,b,m,d,k,loc⟩) (h1:qbg ep=true) (h2:rel≠[]) :
  Calls Tryz.prog 69 #[.agg #[.string (qd ep),.slice r1 rel.length c1,.int .u8 98,.string (qd n),.bool b,.string (qd m),.bool d,.string (qd k),.slice q1 loc.length d1]] w fun e w'=>e=.returned (.bool (rel.all qbg&&(loc.all locB&&(numB n true&&(numB m b&&numB k d)))))∧Below w.heap.size w w':=by
 have N1:=fun w=>qcr ep w (by have h:ep.length≤1048576:=hx.e;omega)
 rw[h1]at N1;have N1:=qb N1;have A1:=qb (fun w=>qcz n true w (by have h:n.length≤1048576:=hx.n;omega))
 have A2:=qb (fun w=>qcz m b w (by have h:m.length≤1048576:=hx.m;omega))
 have A3:=qb (fun w=>qcz k d w (by have h:k.length≤1048576:=hx.k;omega))
 have HR:Hid (∀ t∈rel,t.length≤1048576):=hx.r.2;have HL:Hid (∀ t∈loc,t.length≤1048576):=hx.l.2;have lr:rel.length≤1048576:=hx.r.1;have lo:loc.length≤1048576:=hx.l.1;have S0:TB w ⟨ep,rel,98,n,b,m,d,k,loc⟩ r1 q1 c1 d1 (w.alloc (.cells #[.string (qd ep),.slice r1 rel.length c1,.int .u8 98,.string (qd n),.bool b,.string (qd m),.bool d,.string (qd k),.slice q1 loc.length d1] 44)):=TB.start (x:=⟨ep,rel,98,n,b,m,d,k,loc⟩) rr ll;have hp:0<rel.length:=List.length_pos_iff.2 h2;have hz:((rel.length:Int)==0)=false:=by simp;omega
 have HF:=qb (qkh qbg rel);have HE:Hid ((rel.take rel.length).all qbg=true→rel.all qbg=true):=by show _→_;rw[List.take_length];exact id
 have HG:=qb (qkh locB loc);have HH:Hid ((loc.take loc.length).all locB=true→loc.all locB=true):=by show _→_;rw[List.take_length];exact id
 generalize numB n true=z1 at *;generalize numB m b=z2 at *;generalize numB k d=z3 at *;generalize rel.all qbg=z4 at *;generalize loc.all locB=z5 at *;clear hx h1 h2 rr ll;obtain⟨s0,s1,s2,s3,s4,s5,s6,s7,s8⟩:=S0.seen;dsimp only at s0 s1 s2 s3 s4 s5 s6 s7 s8;go_enter Tryz.func69,Tryz.ntmps69
 (go_wp2_with fail);generalize w.alloc (.cells #[.string (qd ep),.slice r1 rel.length c1,.int .u8 98,.string (qd n),.bool b,.string (qd m),.bool d,.string (qd k),.slice q1 loc.length d1] 44)=W0 at *;refine(N1.out _).mono ?_;rintro e w' ⟨rfl,hw'⟩;rw[hw'];clear hw' w';(go_wp2_with fail);go_loop [3] (fun i=>∃ k:Nat,k≤rel.length∧i=.int .i64 k∧Hid ((rel.take k).all qbg=true)) (fun i=>rel.length-(intOf i).toNat)
 case atStart=>exact⟨0,by omega,rfl,rfl⟩
 case round=>
  obtain⟨i,hi,rfl,HK⟩:=hrel
  by_cases hlt:i<rel.length
  ·have hlt':(i:Int)<(rel.length:Int):=by omega
   obtain⟨b1,o1,rfl,hc1⟩:=S0.rr.some (by show 0<rel.length;omega)
   have p1:=hc1 i hlt;clear hc1;have C:=fun w=>qcr rel[i] w (by have:=HR.out _ (qbvk hlt);omega)
   have HN:=qb (qhr qbg rel i hlt HK.out);have HM:=qb (HF.out i hlt);dsimp only at p1;generalize rel[i]=t at *;generalize qbg t=y at *;have C:=qb C;cases y
   ·obtain rfl:=HM.out rfl;(go_wp2_with fail);refine(C.out _).mono ?_;rintro e w' ⟨rfl,hw'⟩;rw[hw'];clear hw' w';(go_wp2_with fail);go_ret
    exact⟨rfl,S0.bel⟩
   ·have hn:=qb (HN.out rfl);(go_wp2_with fail);refine(C.out _).mono ?_;rintro e w' ⟨rfl,hw'⟩;rw[hw'];clear hw' w';(go_wp2_with fail);go_round
    case rel=>exact⟨i+1,by omega,by go_num,hn⟩
    case measure=>simp[intOf];omega
  ·obtain rfl:i=rel.length:=by omega
   have hlt':¬ (rel.length:Int)<(rel.length:Int):=by omega
   obtain rfl:=HE.out HK.out;have H0:=qb S0;clear S0 s0 s1 s2 s3 s4 s5 s6 s7 s8;have s1:=H0.out.seen.2.1;dsimp only at s1;(go_wp2_with fail);clear s1;go_loopw [4] (fun i wr=>∃ j:Nat,j≤loc.length∧i=.int .i64 j∧Hid ((loc.take j).all locB=true)∧Hid (TB w ⟨ep,rel,98,n,b,m,d,k,loc⟩ r1 q1 c1 d1 wr)) (fun i _=>loc.length-(intOf i).toNat)
   case atStart=>exact⟨0,by omega,rfl,rfl,H0⟩
   case round=>
    obtain⟨j,hj,rfl,HJ,HS⟩:=hrel;obtain⟨s0,s1,s2,s3,s4,s5,s6,s7,s8⟩:=HS.out.seen;dsimp only at s0 s1 s2 s3 s4 s5 s6 s7 s8
    by_cases hlj:j<loc.length
    ·have hlj':(j:Int)<(loc.length:Int):=by omega
     obtain⟨b1,o1,rfl,hc1⟩:=HS.out.ll.some (by show 0<loc.length;omega)
     have p1:=hc1 j hlj;clear hc1;have C:=fun w=>qnj loc[j] w (by have:=HL.out _ (qbvk hlj);omega)
     have HN:=qb (qhr locB loc j hlj HJ.out);have HM:=qb (HG.out j hlj);dsimp only at p1;generalize loc[j]=t at *;generalize locB t=y at *;have C:=qb C;cases y
     ·obtain rfl:=HM.out rfl;(go_wp2_with fail);refine(C.out _).mono ?_;rintro e w2 ⟨rfl,b2⟩;(go_wp2_with fail);go_ret
      exact⟨rfl,(HS.out.next b2).bel⟩
     ·have hn:=qb (HN.out rfl);(go_wp2_with fail);refine(C.out _).mono ?_;rintro e w2 ⟨rfl,b2⟩;(go_wp2_with fail);go_roundw
      case rel=>exact⟨j+1,by omega,by go_num,hn,HS.out.next b2⟩
      case measure=>simp[intOf];omega
    ·obtain rfl:j=loc.length:=by omega
     have hlj':¬ (loc.length:Int)<(loc.length:Int):=by omega
     obtain rfl:=HH.out HJ.out;cases z1
     ·(go_wp2_with fail);refine(A1.out _).mono ?_;rintro e w' ⟨rfl,hw'⟩;rw[hw'];clear hw' w';(go_wp2_with fail);go_ret
      exact⟨rfl,HS.out.bel⟩
     ·cases z2
      ·(go_wp2_with fail);refine(A1.out _).mono ?_;rintro e w' ⟨rfl,hw'⟩;rw[hw'];clear hw' w';(go_wp2_with fail);refine(A2.out _).mono ?_;rintro e w' ⟨rfl,hw'⟩;rw[hw'];clear hw' w';(go_wp2_with fail);go_ret
       exact⟨rfl,HS.out.bel⟩
      ·(go_wp2_with fail);refine(A1.out _).mono ?_;rintro e w' ⟨rfl,hw'⟩;rw[hw'];clear hw' w';(go_wp2_with fail);refine(A2.out _).mono ?_;rintro e w' ⟨rfl,hw'⟩;rw[hw'];clear hw' w';(go_wp2_with fail);refine(A3.out _).mono ?_;rintro e w' ⟨rfl,hw'⟩;rw[hw'];clear hw' w';(go_wp2_with fail);go_ret
       exact⟨qcb (by simp),HS.out.bel⟩
theorem RFit_114 (ep:QB) (rel:List QB) (n:QB) (b:Bool) (m:QB) (d:Bool) (k:QB) (loc:List QB) (r1 q1:Option Addr) (c1 d1:Nat) (w:World) (rr:qx w (.slice r1 rel.length c1) rel) (ll:qx w (.slice q1 loc.length d1) loc) (hx:MidP ⟨ep,rel,114,n,b,m,d,k,loc⟩) (h1:qbg ep=true) (h2:rel≠[]) :
  Calls Tryz.prog 69 #[.agg #[.string (qd ep),.slice r1 rel.length c1,.int .u8 114,.string (qd n),.bool b,.string (qd m),.bool d,.string (qd k),.slice q1 loc.length d1]] w fun e w'=>e=.returned (.bool (rel.all qbg&&(loc.all locB&&(numB n true&&(numB m b&&numB k d)))))∧Below w.heap.size w w':=by
 have N1:=fun w=>qcr ep w (by have h:ep.length≤1048576:=hx.e;omega)
 rw[h1]at N1;have N1:=qb N1;have A1:=qb (fun w=>qcz n true w (by have h:n.length≤1048576:=hx.n;omega))
 have A2:=qb (fun w=>qcz m b w (by have h:m.length≤1048576:=hx.m;omega))
 have A3:=qb (fun w=>qcz k d w (by have h:k.length≤1048576:=hx.k;omega))
 have HR:Hid (∀ t∈rel,t.length≤1048576):=hx.r.2;have HL:Hid (∀ t∈loc,t.length≤1048576):=hx.l.2;have lr:rel.length≤1048576:=hx.r.1;have lo:loc.length≤1048576:=hx.l.1;have S0:TB w ⟨ep,rel,114,n,b,m,d,k,loc⟩ r1 q1 c1 d1 (w.alloc (.cells #[.string (qd ep),.slice r1 rel.length c1,.int .u8 114,.string (qd n),.bool b,.string (qd m),.bool d,.string (qd k),.slice q1 loc.length d1] 44)):=TB.start (x:=⟨ep,rel,114,n,b,m,d,k,loc⟩) rr ll;have hp:0<rel.length:=List.length_pos_iff.2 h2;have hz:((rel.length:Int)==0)=false:=by simp;omega
 have HF:=qb (qkh qbg rel);have HE:Hid ((rel.take rel.length).all qbg=true→rel.all qbg=true):=by show _→_;rw[List.take_length];exact id
 have HG:=qb (qkh locB loc);have HH:Hid ((loc.take loc.length).all locB=true→loc.all locB=true):=by show _→_;rw[List.take_length];exact id
 generalize numB n true=z1 at *;generalize numB m b=z2 at *;generalize numB k d=z3 at *;generalize rel.all qbg=z4 at *;generalize loc.all locB=z5 at *;clear hx h1 h2 rr ll;obtain⟨s0,s1,s2,s3,s4,s5,s6,s7,s8⟩:=S0.seen;dsimp only at s0 s1 s2 s3 s4 s5 s6 s7 s8;go_enter Tryz.func69,Tryz.ntmps69
 (go_wp2_with fail);generalize w.alloc (.cells #[.string (qd ep),.slice r1 rel.length c1,.int .u8 114,.string (qd n),.bool b,.string (qd m),.bool d,.string (qd k),.slice q1 loc.length d1] 44)=W0 at *;refine(N1.out _).mono ?_;rintro e w' ⟨rfl,hw'⟩;rw[hw'];clear hw' w';(go_wp2_with fail);go_loop [3] (fun i=>∃ k:Nat,k≤rel.length∧i=.int .i64 k∧Hid ((rel.take k).all qbg=true)) (fun i=>rel.length-(intOf i).toNat)
 case atStart=>exact⟨0,by omega,rfl,rfl⟩
 case round=>
  obtain⟨i,hi,rfl,HK⟩:=hrel
  by_cases hlt:i<rel.length
  ·have hlt':(i:Int)<(rel.length:Int):=by omega
   obtain⟨b1,o1,rfl,hc1⟩:=S0.rr.some (by show 0<rel.length;omega)
   have p1:=hc1 i hlt;clear hc1;have C:=fun w=>qcr rel[i] w (by have:=HR.out _ (qbvk hlt);omega)
   have HN:=qb (qhr qbg rel i hlt HK.out);have HM:=qb (HF.out i hlt);dsimp only at p1;generalize rel[i]=t at *;generalize qbg t=y at *;have C:=qb C;cases y
   ·obtain rfl:=HM.out rfl;(go_wp2_with fail);refine(C.out _).mono ?_;rintro e w' ⟨rfl,hw'⟩;rw[hw'];clear hw' w';(go_wp2_with fail);go_ret
    exact⟨rfl,S0.bel⟩
   ·have hn:=qb (HN.out rfl);(go_wp2_with fail);refine(C.out _).mono ?_;rintro e w' ⟨rfl,hw'⟩;rw[hw'];clear hw' w';(go_wp2_with fail);go_round
    case rel=>exact⟨i+1,by omega,by go_num,hn⟩
    case measure=>simp[intOf];omega
  ·obtain rfl:i=rel.length:=by omega
   have hlt':¬ (rel.length:Int)<(rel.length:Int):=by omega
   obtain rfl:=HE.out HK.out;have H0:=qb S0;clear S0 s0 s1 s2 s3 s4 s5 s6 s7 s8;have s1:=H0.out.seen.2.1;dsimp only at s1;(go_wp2_with fail);clear s1;go_loopw [4] (fun i wr=>∃ j:Nat,j≤loc.length∧i=.int .i64 j∧Hid ((loc.take j).all locB=true)∧Hid (TB w ⟨ep,rel,114,n,b,m,d,k,loc⟩ r1 q1 c1 d1 wr)) (fun i _=>loc.length-(intOf i).toNat)
   case atStart=>exact⟨0,by omega,rfl,rfl,H0⟩
   case round=>
    obtain⟨j,hj,rfl,HJ,HS⟩:=hrel;obtain⟨s0,s1,s2,s3,s4,s5,s6,s7,s8⟩:=HS.out.seen;dsimp only at s0 s1 s2 s3 s4 s5 s6 s7 s8
    by_cases hlj:j<loc.length
    ·have hlj':(j:Int)<(loc.length:Int):=by omega
     obtain⟨b1,o1,rfl,hc1⟩:=HS.out.ll.some (by show 0<loc.length;omega)
     have p1:=hc1 j hlj;clear hc1;have C:=fun w=>qnj loc[j] w (by have:=HL.out _ (qbvk hlj);omega)
     have HN:=qb (qhr locB loc j hlj HJ.out);have HM:=qb (HG.out j hlj);dsimp only at p1;generalize loc[j]=t at *;generalize locB t=y at *;have C:=qb C;cases y
     ·obtain rfl:=HM.out rfl;(go_wp2_with fail);refine(C.out _).mono ?_;rintro e w2 ⟨rfl,b2⟩;(go_wp2_with fail);go_ret
      exact⟨rfl,(HS.out.next b2).bel⟩
     ·have hn:=qb (HN.out rfl);(go_wp2_with fail);refine(C.out _).mono ?_;rintro e w2 ⟨rfl,b2⟩;(go_wp2_with fail);go_roundw
      case rel=>exact⟨j+1,by omega,by go_num,hn,HS.out.next b2⟩
      case measure=>simp[intOf];omega
    ·obtain rfl:j=loc.length:=by omega
     have hlj':¬ (loc.length:Int)<(loc.length:Int):=by omega
     obtain rfl:=HH.out HJ.out;cases z1
     ·(go_wp2_with fail);refine(A1.out _).mono ?_;rintro e w' ⟨rfl,hw'⟩;rw[hw'];clear hw' w';(go_wp2_with fail);go_ret
      exact⟨rfl,HS.out.bel⟩
     ·cases z2
      ·(go_wp2_with fail);refine(A1.out _).mono ?_;rintro e w' ⟨rfl,hw'⟩;rw[hw'];clear hw' w';(go_wp2_with fail);refine(A2.out _).mono ?_;rintro e w' ⟨rfl,hw'⟩;rw[hw'];clear hw' w';(go_wp2_with fail);go_ret
       exact⟨rfl,HS.out.bel⟩
      ·(go_wp2_with fail);refine(A1.out _).mono ?_;rintro e w' ⟨rfl,hw'⟩;rw[hw'];clear hw' w';(go_wp2_with fail);refine(A2.out _).mono ?_;rintro e w' ⟨rfl,hw'⟩;rw[hw'];clear hw' w';(go_wp2_with fail);refine(A3.out _).mono ?_;rintro e w' ⟨rfl,hw'⟩;rw[hw'];clear hw' w';(go_wp2_with fail);go_ret
       exact⟨qcb (by simp),HS.out.bel⟩
theorem qbdr (x:PepL) (r1 q1:Option Addr) (c1 d1:Nat) (w:World) (rr:qx w (.slice r1 x.rel.length c1) x.rel) (ll:qx w (.slice q1 x.loc.length d1) x.loc) (hx:MidP x) :
  Calls Tryz.prog 69 #[.agg #[.string (qd x.ep),.slice r1 x.rel.length c1,.int .u8 x.c,.string (qd x.n),.bool x.b,.string (qd x.m),.bool x.d,.string (qd x.k),.slice q1 x.loc.length d1]] w fun e w'=>e=.returned (.bool (fitR x))∧Below w.heap.size w w':=by
 obtain⟨ep,rel,c,n,b,m,d,k,loc⟩:=x;cases h1:qbg ep
 ·rw[show fitR ⟨ep,rel,c,n,b,m,d,k,loc⟩=false by simp[fitR,h1]]
  exact RFit_ep ep rel n b m d k loc r1 q1 c1 d1 c w hx.e h1
 ·by_cases h2:rel=[]
  ·rw[show fitR ⟨ep,rel,c,n,b,m,d,k,loc⟩=false by simp[fitR,h2]]
   exact RFit_rel ep rel n b m d k loc r1 q1 c1 d1 c w hx.e h1 h2
  ·have h2':rel.isEmpty=false:=by simpa using h2
   cases h3:letB c
   ·rw[show fitR ⟨ep,rel,c,n,b,m,d,k,loc⟩=false by simp[fitR,h3]]
    exact RFit_let ep rel n b m d k loc r1 q1 c1 d1 c w hx.e h1 h2 h3
   ·have h4:c=0∨c=97∨c=98∨c=114:=by
     unfold letB at h3;simp at h3;omega
    rcases h4 with rfl|rfl|rfl|rfl
    ·rw[show fitR ⟨ep,rel,0,n,b,m,d,k,loc⟩=(rel.all qbg&&(loc.all locB&&(numB n false&&(numB m b&&numB k d)))) by unfold fitR;dsimp only;rw[h1,h2',h3];rfl]
     exact RFit_0 ep rel n b m d k loc r1 q1 c1 d1 w rr ll hx h1 h2
    ·rw[show fitR ⟨ep,rel,97,n,b,m,d,k,loc⟩=(rel.all qbg&&(loc.all locB&&(numB n true&&(numB m b&&numB k d)))) by unfold fitR;dsimp only;rw[h1,h2',h3];rfl]
     exact RFit_97 ep rel n b m d k loc r1 q1 c1 d1 w rr ll hx h1 h2
    ·rw[show fitR ⟨ep,rel,98,n,b,m,d,k,loc⟩=(rel.all qbg&&(loc.all locB&&(numB n true&&(numB m b&&numB k d)))) by unfold fitR;dsimp only;rw[h1,h2',h3];rfl]
     exact RFit_98 ep rel n b m d k loc r1 q1 c1 d1 w rr ll hx h1 h2
    ·rw[show fitR ⟨ep,rel,114,n,b,m,d,k,loc⟩=(rel.all qbg&&(loc.all locB&&(numB n true&&(numB m b&&numB k d)))) by unfold fitR;dsimp only;rw[h1,h2',h3];rfl]
     exact RFit_114 ep rel n b m d k loc r1 q1 c1 d1 w rr ll hx h1 h2
theorem qvj {ts:List QB} (h:ts.length≤65∧∀ t∈ts,t.length≤65):lenI ts≤5000:=by
 have:∀ us:List QB,(∀ t∈us,t.length≤65)→lenI us≤66*us.length:=by
  intro us
  induction us with
  | nil=>intro _;simp[lenI]
  | cons t r ih=>
   intro hh;have h1:=hh t List.mem_cons_self;have h2:=ih (fun u hu=>hh u (List.mem_cons_of_mem _ hu));simp only[lenI,List.length_cons];omega
 have:=this ts h.2;omega
end Go.Proofs.YtabmfdedbpmfmaaGreat
