/- Walks: the iterator that tries words one behind the other. -/
import Derived.Test.YtabmfdedbpmfmaaGreatVPa
import Derived.WalkSmall
import Derived.RangeFuncNested
import Derived.RangeFuncBound
import Derived.RangeFuncCalls
import Derived.RangeFuncLeaves
import Derived.Shelf.Abstract
import Derived.Shelf.RegionOpen
import Derived.OwnWalkIn
import Derived.TacticsInMore
import Derived.LoopNIn
import Derived.LoopIn
import Derived.Sort.QuietIn
namespace Go.Proofs.YtabmfdedbpmfmaaGreat
open Go.RowKit Go.Shelf
set_option linter.unusedVariables false
set_option maxHeartbeats 4000000
set_option maxRecDepth 100000
def opA (k:Nat):Array Value:=#[.string (qd (sgn k)),fnV (rdF k),fnV (hoF k),.bool (opB k)]
theorem qnt {f:Nat} (h:f≠0):fnV f=.func (.func f) #[] #[]:=if_neg h
theorem qkx (s:QY) (a:Nat) (w:World) (hs:s.size≤256) (ha:a≤s.size) :
  Calls Tryz.prog 115 #[.string s,.int .i64 (a:Int)] w fun e w'=>e=.returned (.tuple #[.agg (opA (opGo (s.data.toList.drop a) 8).1),
   .int .i64 ((if (opGo (s.data.toList.drop a) 8).1=8 then a+(opGo (s.data.toList.drop a) 8).2 else a+(sgn (opGo (s.data.toList.drop a) 8).1).length:Nat):Int),
   .int .i64 (if (opGo (s.data.toList.drop a) 8).1=8 then misL s.size (a+(opGo (s.data.toList.drop a) 8).2) else 0)])∧Below w.heap.size w w':=by
 have CM:=qb (fun (k:Nat) (hk:(qd (sgn k)).size≤256) W=>(by
  have:=qbjk (s.extract a s.size) (qd (sgn k)) W (by rw[ByteArray.size_extract];omega) hk
  rw[qfv,qj,qj]at this;rw[qfv];exact this:Calls Tryz.prog 135 #[.string (s.extract a s.size),.string (qd (sgn k))] W fun e w'=>e=.returned (.int .i64 (comL (s.data.toList.drop a) (sgn k):Int))∧∃ m,w'=W.drewN m))
 have MF:=qb (fun m W=>qhh s m W);have hll:(s.data.toList.drop a).length=s.size-a:=by rw[List.length_drop,qg]
 generalize s.data.toList.drop a=l at *;generalize hTV:Value.tuple #[.agg (opA (opGo l 8).1),_,_]=TV;have HTV:=qb hTV;clear hTV;have hA:(0:Int)≤(a:Int):=Int.natCast_nonneg _;have hB:(a:Int)≤(s.size:Int):=by omega
 go_enter Tryz.func115,Tryz.ntmps115
 (go_wp2_with fail);refine(qxg _).mono ?_;rintro e w1 ⟨rfl,rfl⟩;have W0:=OW.start w;generalize ((w.alloc _).alloc _).alloc _=V0 at *;have W0:=qb W0
 try dsimp only
 (go_wp2_with fail);go_loopw [8,15] (fun y8 y15 wr=>∃ k:Nat,k≤8∧y15=.int .i64 k∧y8=.int .i64 ((a+(opGo l k).2:Nat):Int)∧OW w wr (opGo l k).1) (fun _ y15 _=>8-(intOf y15).toNat)
 case atStart=>exact⟨0,by omega,rfl,by simp[opGo],W0.out⟩
 case round=>
  obtain⟨k,hk,rfl,rfl,hW⟩:=hrel
  by_cases hlt:k<8
  ·have hlt':(k:Int)<8:=by omega
   obtain⟨o1,o2,o3,o4,o5,o6⟩:=qtz k hlt;have hf1:=qnt o5;have hf2:=qnt o6;rw[hf1]at o2;rw[hf2]at o3;have c0:=qc (k*4) hW.row o1;have c1:=qc (k*4+1) hW.row o2;have c2:=qc (k*4+2) hW.row o3;have c3:=qc (k*4+3) hW.row o4;have HN:Hid (opGo l (k+1)=qdf l (opGo l k) k):=rfl;have HLE:=qb (qhm l k (by omega))
   have hjle:=HLE.out.2.2.2;generalize opGo l k=x at *;obtain⟨j,m⟩:=x;have HS:=qb hW;clear o1 o2 o3 o4 hW;dsimp only at HS HN HLE hjle ⊢;have hB1:=qb (HS.out.below ((Below.refl _ wr).alloc (Nat.le_refl _) (.cells #[.string (qd (sgn k)),.func (.func (rdF k)) #[] #[],.func (.func (hoF k)) #[] #[],.bool (opB k)] 57)));have n0:=World.alloc_heap_new wr (.cells #[.string (qd (sgn k)),.func (.func (rdF k)) #[] #[],.func (.func (hoF k)) #[] #[],.bool (opB k)] 57);have hsk:(qd (sgn k)).size=(sgn k).length:=qr _;have hsj:(qd (sgn j)).size=(sgn j).length:=qr _;have hk3:=qbbl k;have CY:=qb (CM.out k (by omega))
   have hcl:=(qtb l (sgn k)).2;have hcl2:=(qtb l (sgn k)).1;unfold qdf at HN;dsimp only at HN;generalize comL l (sgn k)=c at *;have HSK:=qb hsk;have HSJ:=qb hsj;have HF1:=qb hf1;have HF2:=qb hf2;have HO5:=qb o5;have HO6:=qb o6;have hac:a+c≤256:=by omega
   clear hsk hsj hk3 hf1 hf2 o5 o6 hcl2 hjle
   by_cases h1:c=(sgn k).length
   ·have q1:((c:Int)==((qd (sgn k)).size:Int))=true:=by rw[HSK.out,h1];simp
    by_cases h2:(sgn j).length<c
    ·have q2:(qd (sgn j)).size<c:=by rw[HSJ.out];exact h2
     have HN2:Hid (opGo l (k+1)=(k,max m c)):=qb (by rw[HN.out,if_pos ⟨h1,h2⟩])
     clear h1 h2 HN;(go_wp2_with fail);generalize wr.alloc _=V at *;obtain⟨g0,g1,g2,g3,g4,g5,g6,g7⟩:=hB1.out.seen;have v0:=qc 0 n0 rfl;have v1:=qc 1 n0 rfl;have v2:=qc 2 n0 rfl;have v3:=qc 3 n0 rfl;go_quiet ((go_at_call 135;exact Calls.quiet_of (CY.out _)))
     have HPUT:=qb (fun n=>(hB1.out.below (qz _ _ n)).put k);(go_wp2_with fail);go_roundw
     case rel=>exact⟨k+1,by omega,by go_num,by rw[HN2.out];congr 1;first|omega|(split<;>omega),by rw[HN2.out];have:=HPUT.out nq;rw[HF1.out,HF2.out]at this;exact this⟩
     case measure=>simp[intOf];omega
    ·have q2:¬ (qd (sgn j)).size<c:=by rw[HSJ.out];exact h2
     have HN2:Hid (opGo l (k+1)=(j,max m c)):=qb (by rw[HN.out,if_neg (fun h=>h2 h.2)])
     clear h1 h2 HN;(go_wp2_with fail);generalize wr.alloc _=V at *;obtain⟨g0,g1,g2,g3,g4,g5,g6,g7⟩:=hB1.out.seen;have v0:=qc 0 n0 rfl;have v1:=qc 1 n0 rfl;have v2:=qc 2 n0 rfl;have v3:=qc 3 n0 rfl;go_quiet ((go_at_call 135;exact Calls.quiet_of (CY.out _)))
     (go_wp2_with fail);go_roundw
     case rel=>exact⟨k+1,by omega,by go_num,by rw[HN2.out];congr 1;first|omega|(split<;>omega),by rw[HN2.out];exact hB1.out.below (qz _ _ _)⟩
     case measure=>simp[intOf];omega
   ·have q1:((c:Int)==((qd (sgn k)).size:Int))=false:=by rw[HSK.out];simp;omega
    have HN2:Hid (opGo l (k+1)=(j,max m c)):=qb (by rw[HN.out,if_neg (fun h=>h1 h.1)])
    clear h1 HN;(go_wp2_with fail);generalize wr.alloc _=V at *;obtain⟨g0,g1,g2,g3,g4,g5,g6,g7⟩:=hB1.out.seen;have v0:=qc 0 n0 rfl;have v1:=qc 1 n0 rfl;have v2:=qc 2 n0 rfl;have v3:=qc 3 n0 rfl;go_quiet ((go_at_call 135;exact Calls.quiet_of (CY.out _)))
    (go_wp2_with fail);go_roundw
    case rel=>exact⟨k+1,by omega,by go_num,by rw[HN2.out];congr 1;first|omega|(split<;>omega),by rw[HN2.out];exact hB1.out.below (qz _ _ _)⟩
    case measure=>simp[intOf];omega
  ·obtain rfl:k=8:=by omega
   have HLE:=qb (qhm l 8 (by omega))
   obtain⟨g0,g1,g2,g3,g4,g5,g6,g7⟩:=hW.seen;obtain⟨p0,p1,p2,p3,p4,p5,p6,p7⟩:=hW.res4;have HS:=qb hW;generalize opGo l 8=x at *;obtain⟨j,m⟩:=x;dsimp only at *;clear hW
   by_cases hj:j=8
   ·subst hj;have HX:=qb HS.out.res;clear g1 g2 g3 g4 g5 g6 g7
    change _=some (Value.string ⟨#[]⟩)at g0
    have MM:=qb (MF.out (a+m));(go_wp2_with fail);refine(MM.out _).mono ?_;rintro e w2 ⟨rfl,hw2⟩;rw[hw2];clear hw2 w2;(go_wp2_with fail);exact fin115 _ _ w.heap.size ⟨#[]⟩ .nilFunc .nilFunc false _ _ rfl rfl rfl (put4 _ _ _ _ HX.out) ⟨by rw[←HTV.out];rfl,qblr _ _ _ _ HS.out.bel (Nat.le_refl _)⟩
   ·have hj8:j<8:=by have:=HLE.out.1;omega
    obtain ⟨_,_,_,_,o5,o6⟩:=qtz j hj8;have hne:(qd (sgn j)).toList.isEmpty=false:=by
     rw[toL,qj]
     match j,hj8 with
     | 0,_=>rfl
     | 1,_=>rfl
     | 2,_=>rfl
     | 3,_=>rfl
     | 4,_=>rfl
     | 5,_=>rfl
     | 6,_=>rfl
     | 7,_=>rfl
    have HSJ:=qb (qr (sgn j));have hs3:(qd (sgn j)).size≤3:=by rw[qr];exact qbbl j
    rw[qnt o5]at g1;rw[qnt o6]at g2;have HE:Hid (Value.tuple #[.agg #[.string (qd (sgn j)),.func (.func (rdF j)) #[] #[],.func (.func (hoF j)) #[] #[],.bool (opB j)],.int .i64 ((a+(sgn j).length:Nat):Int),.int .i64 0]=TV):=qb (by rw[←HTV.out,if_neg hj,if_neg hj];unfold opA;rw[qnt o5,qnt o6])
    have HX:=qb HS.out.res;clear o5 o6 hj g4 g5 g6 g7;(go_wp2_with fail);go_region
    all_goals
     (go_wp2_with fail);refine fin115 _ _ w.heap.size (qd (sgn j)) (.func (.func (rdF j)) #[] #[]) (.func (.func (hoF j)) #[] #[]) (opB j) _ _ rfl rfl rfl (put4 _ _ _ _ HX.out) ⟨?_,(qblr _ _ _ _ HS.out.bel (Nat.le_refl _)).drew⟩;rw[←HE.out];have h9:((a:Int)+((qd (sgn j)).size:Int))=((a+(sgn j).length:Nat):Int):=by rw[HSJ.out];omega
     first|rw[h9]|simp only[HSJ.out,Int.natCast_add]
set_option maxHeartbeats 1000000
set_option maxRecDepth 100000
def hasB (l:QB):Bool:=decide (Lib.indexByte l 33≠-1)
def cutB (l:QB):QB:=l.takeWhile (fun c=>c != 33)
theorem qzq:∀ l:QB,Lib.indexByte l 33=-1→cutB l=l
 | [],_=>rfl
 | c :: r,h=>by
  unfold Lib.indexByte at h
  by_cases hc:(c==33)=true
  ·rw[if_pos hc]at h;cases h
  ·rw [if_neg hc]at h
   by_cases hi:(Lib.indexByte r 33==-1)=true
   ·have:=qzq r (by simpa using hi)
    unfold cutB at *;rw[List.takeWhile_cons,if_pos (by simpa[bne] using hc),this]
   ·rw[if_neg hi]at h;have:=Lib.indexByte_ge r 33;have hi':¬ Lib.indexByte r 33=-1:=by simpa using hi
    omega
theorem qrw:∀ (l:QB) (i:Nat),Lib.indexByte l 33=i→cutB l=l.take i∧i<l.length
 | [],i,h=>by have h':(-1:Int)=i:=h;omega
 | c :: r,i,h=>by
  unfold Lib.indexByte at h
  by_cases hc:(c==33)=true
  ·rw[if_pos hc]at h;have:i=0:=by omega
   subst this;refine⟨?_,by simp⟩
   unfold cutB;rw[List.takeWhile_cons,if_neg (by simpa[bne] using hc)]
   rfl
  ·rw [if_neg hc]at h
   by_cases hi:(Lib.indexByte r 33==-1)=true
   ·rw[if_pos hi]at h;omega
   ·rw[if_neg hi]at h;have hi':¬ Lib.indexByte r 33=-1:=by simpa using hi
    have hge:=Lib.indexByte_ge r 33;obtain⟨j,hj⟩:=Int.eq_ofNat_of_zero_le (show 0≤Lib.indexByte r 33 by omega)
    obtain⟨h1,h2⟩:=qrw r j hj;have:i=j+1:=by omega
    subst this;refine⟨?_,by simp;omega⟩
    unfold cutB at *;rw[List.takeWhile_cons,if_pos (by simpa[bne] using hc),h1]
    rfl
theorem qnm (s:QY) (c:Int) (w:World) :
  Calls Tryz.prog 179 #[.string s,.int .u8 c] w fun e w'=>e=.returned (.int .i64 (Lib.indexByte s.data.toList c.toNat.toUInt8))∧w'=w:=by
 go_enter Tryz.func179,Tryz.ntmps179
 go_wp2
 rw[run_callFunc_extern Tryz.func190 (by kernel_rfl) (by kernel_rfl) (by kernel_rfl) (e:=Extern.BytealgIndexByte.indexByte) (by kernel_rfl),Lib.run_indexByteString]
 simp only[Result.andThen];rw[Oper.upon_value];go_wp2
 go_ret
 exact⟨rfl,rfl⟩
theorem qwl (s:QY) (w:World) :
  Calls Tryz.prog 178 #[.string s,.string ⟨#[33]⟩] w fun e w'=>e=.returned (.int .i64 (Lib.indexByte s.data.toList 33))∧w'=w:=by
 cases h:([33]==s.toList)
 ·go_enter Tryz.func178,Tryz.ntmps178
  (go_wp2_with fail);refine(qnm _ _ _).mono ?_;rintro e w' ⟨rfl,rfl⟩;(go_wp2_with fail);go_ret
  exact⟨rfl,rfl⟩
 ·have e:s.data.toList=[33]:=by rw[←toL];exact(by simpa using h:[33]=s.toList).symm
  have HE:=qb e;clear e;go_enter Tryz.func178,Tryz.ntmps178
  (go_wp2_with fail);go_ret
  exact⟨qbv (by rw[HE.out];rfl),rfl⟩
theorem Cut_bang (s:QY) (w:World) (hs:s.size≤64) :
  Calls Tryz.prog 162 #[.string s,.string ⟨#[33]⟩] w fun e w'=>(∃ u,e=.returned (.tuple #[.string (qd (cutB s.data.toList)),u,.bool (hasB s.data.toList)]))∧Below w.heap.size w w':=by
 by_cases h:Lib.indexByte s.data.toList 33=-1
 ·have HC:=qb (qzq _ h);have HF:Hid (hasB s.data.toList=false):=by show _=_;unfold hasB;rw[h];rfl
  have HI:=qb (show ∀ w,_ from fun w=>qwl s w);go_enter Tryz.func162,Tryz.ntmps162
  (go_wp2_with fail);refine(HI.out _).mono ?_;rintro e w' ⟨rfl,rfl⟩;rw[h];(go_wp2_with fail);go_ret3
  exact⟨⟨_,by rw[HC.out,qdb,HF.out];rfl⟩,Below.refl _ _⟩
 ·have hge:=Lib.indexByte_ge s.data.toList 33;obtain⟨i,hi⟩:=Int.eq_ofNat_of_zero_le (show 0≤Lib.indexByte s.data.toList 33 by omega)
  obtain⟨hc,hlt⟩:=qrw _ i hi;rw[qg]at hlt;have HC:Hid (qd (cutB s.data.toList)=s.extract 0 i):=by show _=_;rw[hc,qfc];simp
  have HI:=qb (show ∀ w,_ from fun w=>qwl s w);have HF:Hid (hasB s.data.toList=true):=by show _=_;unfold hasB;simpa using h
  clear h hge hc;have hlt':(i:Int)<(s.size:Int):=by omega
  have h0:(0:Int)≤(i:Int):=by omega
  go_enter Tryz.func162,Tryz.ntmps162
  (go_wp2_with fail);refine(HI.out _).mono ?_;rintro e w' ⟨rfl,rfl⟩;rw[hi];(go_wp2_with fail);go_quiet (fail)
  (go_wp2_with fail);go_ret3
  exact⟨⟨_,by rw[HC.out,HF.out];rfl⟩,qz _ _ _⟩
theorem qbpw (s:QY) (w:World) (hs:s.size≤64) :
  Calls Tryz.prog 141 #[.string s,.string ⟨#[33]⟩] w fun e w'=>(∃ u,e=.returned (.tuple #[.string (qd (cutB s.data.toList)),u,.bool (hasB s.data.toList)]))∧Below w.heap.size w w':=by
 go_enter Tryz.func141,Tryz.ntmps141
 (go_wp2_with fail);refine(Cut_bang s _ hs).mono ?_;rintro e w1 ⟨⟨u,rfl⟩,b1⟩;(go_wp2_with fail);go_ret3
 exact⟨⟨u,rfl⟩,b1⟩
theorem qmh (s:QY) (c:Int) (w:World) :
  Calls Tryz.prog 164 #[.string s,.int .u8 c] w fun e w'=>e=.returned (.int .i64 (Lib.indexByte s.data.toList c.toNat.toUInt8))∧w'=w:=by
 go_enter Tryz.func164,Tryz.ntmps164
 (go_wp2_with fail);refine(qnm _ _ _).mono ?_;rintro e w' ⟨rfl,rfl⟩;(go_wp2_with fail);go_ret
 exact⟨rfl,rfl⟩
def pfxB (s p:QB):Bool:=p.isPrefixOf s
theorem qbjd (s p:QB) (h:p.length≤s.length):pfxB s p=decide (s.take p.length=p):=by
 unfold pfxB;rw[Bool.eq_iff_iff,List.isPrefixOf_iff_prefix,decide_eq_true_eq];exact⟨fun h=>(List.prefix_iff_eq_take.1 h).symm,fun h=>List.prefix_iff_eq_take.2 h.symm⟩
theorem qjw (s p:QB) (h:¬ p.length≤s.length):pfxB s p=false:=by
 unfold pfxB;rw[Bool.eq_false_iff];intro h';exact h (List.isPrefixOf_iff_prefix.1 h').length_le
theorem qvw (s p:QY) (w:World) (hs:s.size≤maxLen) (hp:p.size≤maxLen) :
  Calls Tryz.prog 161 #[.string s,.string p] w fun e w'=>e=.returned (.bool (pfxB s.data.toList p.data.toList))∧w'=w:=by
 unfold maxLen at hs hp
 by_cases hl:p.size≤s.size
 ·have HP:=qb (qbjd s.data.toList p.data.toList (by rw[qg,qg];exact hl))
  have h1:(p.size:Int)≤(s.size:Int):=by omega
  have h0:(0:Int)≤(p.size:Int):=by omega
  generalize pfxB s.data.toList p.data.toList=D at *;have HE:Hid (s.extract 0 p.size=p↔D=true):=by
   show _↔_;rw[HP.out,decide_eq_true_eq,qg];constructor
   ·intro h;have:=congrArg (fun b:QY=>b.data.toList) h;rw[qfc]at this;simpa[qd] using this
   ·intro h;apply qbbw;rw[qfc,qj];simpa using h
  by_cases he:s.extract 0 p.size=p
  ·have hD:=HE.out.1 he;subst hD;go_enter Tryz.func161,Tryz.ntmps161
   (go_wp2_with fail);go_ret
   exact⟨qcb (by simp),rfl⟩
  ·have hD:D=false:=by
    cases hd:D
    ·rfl
    ·exact absurd (HE.out.2 hd) he
   subst hD;go_enter Tryz.func161,Tryz.ntmps161
   (go_wp2_with fail);go_ret
   refine⟨qcb ?_,rfl⟩;rw[toL,toL,beq_eq_false_iff_ne];exact fun h=>he (qbbw h)
 ·have HP:=qb (qjw s.data.toList p.data.toList (by rw[qg,qg];exact hl))
  have h1:¬ (p.size:Int)≤(s.size:Int):=by omega
  go_enter Tryz.func161,Tryz.ntmps161
  (go_wp2_with fail);go_ret
  exact⟨by rw[HP.out];rfl,rfl⟩
theorem qkl (s p:QY) (w:World) (hs:s.size≤maxLen) (hp:p.size≤maxLen) :
  Calls Tryz.prog 139 #[.string s,.string p] w fun e w'=>e=.returned (.bool (pfxB s.data.toList p.data.toList))∧w'=w:=by
 go_enter Tryz.func139,Tryz.ntmps139
 (go_wp2_with fail);refine(qvw _ _ _ hs hp).mono ?_;rintro e w' ⟨rfl,rfl⟩;(go_wp2_with fail);go_ret
 exact⟨rfl,rfl⟩
theorem mark_at (s:QY) (a:Nat) (h:a<s.size):qbd s.data.toList a=if qgc s[a] then a+1 else a:=by
 unfold qbd;rw[List.getElem?_eq_getElem (by rw[qg];exact h)]
 rfl
theorem mark_end (s:QY) (a:Nat) (h:¬ a<s.size):qbd s.data.toList a=a:=by
 unfold qbd;rw[List.getElem?_eq_none (by rw[qg];omega)]
 rfl
theorem qgh (l:QB) (a:Nat) (h:a≤l.length):a≤qbd l a∧qbd l a≤l.length∧qbd l a≤a+1:=by
 unfold qbd
 by_cases hl:a<l.length
 ·split<;>omega
 ·rw[List.getElem?_eq_none (by omega)]
  simp;omega
theorem qbrh (c:UInt8):(0≤Lib.indexByte [45,95,46] c)↔qgc c=true:=by
 unfold qgc Lib.indexByte
 by_cases h1:(45==c)=true
 ·obtain rfl:45=c:=by simpa using h1
  simp
 ·rw [if_neg h1];unfold Lib.indexByte
  by_cases h2:(95==c)=true
  ·obtain rfl:95=c:=by simpa using h2
   simp
  ·rw [if_neg h2];unfold Lib.indexByte
   by_cases h3:(46==c)=true
   ·obtain rfl:46=c:=by simpa using h3
    simp
   ·rw[if_neg h3];have e1:(c==45)=false:=by rw[beq_eq_false_iff_ne];rintro rfl;exact h1 rfl
    have e2:(c==95)=false:=by rw[beq_eq_false_iff_ne];rintro rfl;exact h2 rfl
    have e3:(c==46)=false:=by rw[beq_eq_false_iff_ne];rintro rfl;exact h3 rfl
    rw[e1,e2,e3];simp[Lib.indexByte]
theorem qmq (B:Nat) (s:QY) (a:Nat) (w:World) (h:RdAt w B s a) (hs:s.size≤64) :
  Calls Tryz.prog 165 #[.pointer (some ⟨B,0,none⟩)] w fun r w'=>r=.returned (.int .i64 (qbd s.data.toList a:Int))∧∃ n,w'=w.drewN n:=by
 obtain⟨c0,c1,f1⟩:=h.seen;clear h
 by_cases hl:a<s.size
 ·have hI:=fun n=>qmh ⟨#[45,95,46]⟩ (s[a].toNat:Int) (w.drewN n);have hc:((s[a].toNat:Int)).toNat.toUInt8=s[a]:=by simp
  rw[hc]at hI;have HM:=qb (mark_at s a hl);have hB:(0≤Lib.indexByte (⟨#[45,95,46]⟩:QY).data.toList s[a])↔qgc s[a]=true:=qbrh s[a];have HI:=qb hI;clear hI hc;generalize Lib.indexByte (⟨#[45,95,46]⟩:QY).data.toList s[a]=x at *;cases hm:qgc s[a]
  ·rw[hm]at hB HM;have hn:¬ 0≤x:=fun h=>by have:=hB.1 h;cases this
   clear hB hm;go_enter Tryz.func165,Tryz.ntmps165
   (go_wp2_with fail);go_quiet ((go_at_call 164;exact Calls.quiet_of_same (HI.out _)))
   (go_wp2_with fail);go_ret
   exact⟨by rw[HM.out,if_neg (by simp)];rfl,_,rfl⟩
  ·rw[hm]at hB HM;have hn:0≤x:=hB.2 rfl;clear hB hm;go_enter Tryz.func165,Tryz.ntmps165
   (go_wp2_with fail);go_quiet ((go_at_call 164;exact Calls.quiet_of_same (HI.out _)))
   (go_wp2_with fail);go_ret
   exact⟨qbv (by rw[HM.out];simp),_,rfl⟩
 ·have HM:=qb (mark_end s a hl);go_enter Tryz.func165,Tryz.ntmps165
  (go_wp2_with fail);go_quiet (fail)
  (go_wp2_with fail);go_ret
  exact⟨by rw[HM.out];rfl,_,rfl⟩
def digE (l:QB) (a:Nat):Nat:=qbd l a+qn 1 (l.drop (qbd l a))
def digT (l:QB) (a:Nat):QB:=seg l (qbd l a) (digE l a)
def digP (l:QB) (a:Nat):Nat:=if qbd l a<digE l a then digE l a else a
theorem qtp (B:Nat) (s:QY) (a:Nat) (w:World) (h:RdAt w B s a) (ha:a≤s.size) (hs:s.size≤64) :
  Calls Tryz.prog 145 #[.pointer (some ⟨B,0,none⟩)] w fun r w'=>r=.returned (.string (qd (digT s.data.toList a)))∧RdAt w' B s (digP s.data.toList a)∧Turn B w w':=by
 have M1:=qb (qmq B s a w h hs);have H:=qb h;have hm:=qgh s.data.toList a (by rw[qg];exact ha)
 rw[qg]at hm;have hr:=qds 1 s (qbd s.data.toList a) hm.2.1;have HR:=qb (qdl s (qbd s.data.toList a) 1 hm.2.1);have HE:Hid (digE s.data.toList a=qbd s.data.toList a+qn 1 (s.data.toList.drop (qbd s.data.toList a))):=rfl;have HT:Hid (qd (digT s.data.toList a)=s.extract (qbd s.data.toList a) (digE s.data.toList a)):=by show _=_;rw[qfr];rfl
 have HP:Hid (digP s.data.toList a=if qbd s.data.toList a<digE s.data.toList a then digE s.data.toList a else a):=rfl;generalize digP s.data.toList a=P at *;generalize qd (digT s.data.toList a)=T at *;generalize digE s.data.toList a=E at *;generalize qbd s.data.toList a=M at *;have hE:M≤E∧E≤s.size:=by have:=HE.out;omega
 have hRI:runI s.data.toList (M:Int) 1=(E:Int):=by rw[HR.out,HE.out];simp
 have R1:=qb (fun W=>qjf s (M:Int) 1 W (by unfold maxLen;omega))
 rw[hRI]at R1;clear hRI hr HR HE hm h;obtain⟨hE1,hE2⟩:=hE;have i0:(0:Int)≤(M:Int):=Int.natCast_nonneg _;have i1:(M:Int)≤(E:Int):=by omega
 have i2:(E:Int)≤(s.size:Int):=by omega
 go_enter Tryz.func145,Tryz.ntmps145
 (go_wp2_with fail);refine M1.out.mono ?_;rintro r w1 ⟨rfl,n1,rfl⟩;obtain⟨c0,c1,f1⟩:=H.out.seen;(go_wp2_with fail);refine(R1.out _).mono ?_;rintro r w2 ⟨rfl,rfl⟩
 by_cases hlt:M<E
 ·have hlt':(M:Int)<(E:Int):=by omega
  have hP:=HP.out.trans (if_pos hlt);subst hP;(go_wp2_with fail);go_ret
  exact⟨qnr HT.out.symm,(H.out.drewN _).place _,(Turn.drewN _ _ _).trans (Turn.set _ _ _ _)⟩
 ·have hlt':¬ (M:Int)<(E:Int):=by omega
  have hP:=HP.out.trans (if_neg hlt);subst hP;(go_wp2_with fail);go_ret
  exact⟨qnr HT.out.symm,H.out.drewN _,Turn.drewN _ _ _⟩
open List renaming length_drop → qbtb
set_option maxHeartbeats 1000000
def qmj (l:QB) (a:Nat) (p:QB):Nat:=if pfxB (l.drop a) p then a+p.length else a
theorem qqn (l:QB) (a:Nat) (p:QB) (h:a≤l.length):a≤qmj l a p∧qmj l a p≤l.length:=by
 unfold qmj;split
 ·rename_i hp;have:=(List.isPrefixOf_iff_prefix.1 hp).length_le;rw[qbtb]at this;omega
 ·omega
theorem qbgp (B:Nat) (s p:QY) (a:Nat) (w:World) (h:RdAt w B s a) (ha:a≤s.size) (hs:s.size≤64) (hp:p.size≤64) :
  Calls Tryz.prog 120 #[.pointer (some ⟨B,0,none⟩),.string p] w fun r w'=>r=.returned (.bool (pfxB (s.data.toList.drop a) p.data.toList))∧RdAt w' B s (qmj s.data.toList a p.data.toList)∧Turn B w w':=by
 have R1:=qb (qtm B s a w h ha);have H:=qb h;have P1:=qb (fun W=>qkl (qd (s.data.toList.drop a)) p W (by rw[qr,qbtb,qg];unfold maxLen;omega) (by unfold maxLen;omega))
 rw[qj]at P1;have HS:Hid (qmj s.data.toList a p.data.toList=if pfxB (s.data.toList.drop a) p.data.toList then a+p.size else a):=by show _=_;unfold qmj;rw[qg]
 generalize qmj s.data.toList a p.data.toList=X at *;generalize pfxB (s.data.toList.drop a) p.data.toList=D at *;generalize qd (s.data.toList.drop a)=T at *;obtain⟨c0,c1,f1⟩:=h.seen;clear h;cases D
 ·have hX:=HS.out.trans (if_neg (by simp))
  subst hX;go_enter Tryz.func120,Tryz.ntmps120
  (go_wp2_with fail);refine R1.out.mono ?_;rintro r w1 ⟨rfl,n1,rfl⟩;(go_wp2_with fail);refine(P1.out _).mono ?_;rintro r w2 ⟨rfl,rfl⟩;(go_wp2_with fail);go_ret
  exact⟨rfl,H.out.drewN _,Turn.drewN _ _ _⟩
 ·have hX:=HS.out.trans (if_pos rfl);subst hX;go_enter Tryz.func120,Tryz.ntmps120
  (go_wp2_with fail);refine R1.out.mono ?_;rintro r w1 ⟨rfl,n1,rfl⟩;(go_wp2_with fail);refine(P1.out _).mono ?_;rintro r w2 ⟨rfl,rfl⟩;(go_wp2_with fail);go_ret
  exact⟨rfl,(H.out.drewN _).place (a+p.size),(Turn.drewN _ _ _).trans (Turn.set _ _ _ _)⟩
def epoB (l:QB) (a:Nat):Bool:=hasB (l.drop a)&&digB (cutB (l.drop a))
def epoT (l:QB) (a:Nat):QB:=if epoB l a then qp (cutB (l.drop a)) else [48]
def epoP (l:QB) (a:Nat):Nat:=if epoB l a then a+((cutB (l.drop a)).length+1) else a
theorem qbjn (l:QB) (a:Nat) (h:a≤l.length):a≤epoP l a∧epoP l a≤l.length:=by
 unfold epoP;split
 ·rename_i he;unfold epoB hasB at he;simp only[Bool.and_eq_true,decide_eq_true_eq]at he;have hge:=Lib.indexByte_ge (l.drop a) 33;obtain⟨i,hi⟩:=Int.eq_ofNat_of_zero_le (show 0≤Lib.indexByte (l.drop a) 33 by have:=he.1;omega)
  obtain⟨h1,h2⟩:=qrw _ i hi;rw[h1,List.length_take];rw[qbtb]at h2 ⊢;omega
 ·omega
theorem cutB_len (l:QB):(cutB l).length≤l.length:=(List.takeWhile_prefix _).length_le
theorem qbqn (B:Nat) (s:QY) (a:Nat) (w:World) (h:RdAt w B s a) (ha:a≤s.size) (hs:s.size≤64) :
  Calls Tryz.prog 121 #[.pointer (some ⟨B,0,none⟩)] w fun r w'=>r=.returned (.string (qd (epoT s.data.toList a)))∧RdAt w' B s (epoP s.data.toList a)∧Turn B w w':=by
 have hB:=h.lt;have R1:=qb (qtm B s a w h ha);have H:=qb h;have hcl:=cutB_len (s.data.toList.drop a);rw[qbtb,qg]at hcl;have C1:=qb (fun W=>qbpw (qd (s.data.toList.drop a)) W (by rw[qr,qbtb,qg];omega))
 rw[qj]at C1;have D1:=qb (fun W=>qgw (qd (cutB (s.data.toList.drop a))) W (by rw[qr];unfold maxLen;omega))
 rw[qj]at D1;have T1:=qb (fun W=>qjt (qd (cutB (s.data.toList.drop a))) W (by rw[qr];unfold maxLen;omega))
 rw[qj]at T1;have HB:Hid (epoB s.data.toList a=(hasB (s.data.toList.drop a)&&digB (cutB (s.data.toList.drop a)))):=rfl;have HT:Hid (epoT s.data.toList a=if epoB s.data.toList a then qp (cutB (s.data.toList.drop a)) else [48]):=rfl;have HP:Hid (epoP s.data.toList a=if epoB s.data.toList a then a+((cutB (s.data.toList.drop a)).length+1) else a):=rfl;have hsz:=qr (cutB (s.data.toList.drop a));generalize epoT s.data.toList a=ET at *;generalize epoP s.data.toList a=EP at *;generalize epoB s.data.toList a=EB at *;generalize hasB (s.data.toList.drop a)=hb at *;generalize digB (cutB (s.data.toList.drop a))=db at *;generalize qp (cutB (s.data.toList.drop a))=TT at *;generalize qd (cutB (s.data.toList.drop a))=CC at *;generalize (cutB (s.data.toList.drop a)).length=cl at *;generalize qd (s.data.toList.drop a)=RR at *;clear h;cases hb
 ·have he:EB=false:=HB.out;have hT:=HT.out;have hP:=HP.out;rw[he,if_neg (by simp)]at hT hP
  subst hT;subst hP;go_enter Tryz.func121,Tryz.ntmps121
  (go_wp2_with fail);refine R1.out.mono ?_;rintro r w1 ⟨rfl,n1,hw1⟩;have H1:=qb (H.out.drewN n1);have t1:=Turn.drewN B w n1;rw[←hw1]at H1 t1;clear hw1;(go_wp2_with fail);refine(C1.out _).mono ?_;rintro r w2 ⟨⟨u,rfl⟩,b2⟩;have H2:=qb (H1.out.below b2);have t2:=t1.trans (Turn.ofBelow b2);obtain⟨c0,c1,f1⟩:=H2.out.seen;(go_wp2_with fail);go_ret
  exact⟨rfl,H2.out,t2⟩
 ·cases db
  ·have he:EB=false:=HB.out;have hT:=HT.out;have hP:=HP.out;rw[he,if_neg (by simp)]at hT hP
   subst hT;subst hP;go_enter Tryz.func121,Tryz.ntmps121
   (go_wp2_with fail);refine R1.out.mono ?_;rintro r w1 ⟨rfl,n1,hw1⟩;have H1:=qb (H.out.drewN n1);have t1:=Turn.drewN B w n1;rw[←hw1]at H1 t1;clear hw1;(go_wp2_with fail);refine(C1.out _).mono ?_;rintro r w2 ⟨⟨u,rfl⟩,b2⟩;have H2:=qb (H1.out.below b2);have t2:=t1.trans (Turn.ofBelow b2);obtain⟨c0,c1,f1⟩:=H2.out.seen;(go_wp2_with fail);refine(D1.out _).mono ?_;rintro r w3 ⟨rfl,hw3⟩;rw[hw3];clear hw3 w3;(go_wp2_with fail);go_ret
   exact⟨rfl,H2.out,t2⟩
  ·have he:EB=true:=HB.out;have hT:=HT.out;have hP:=HP.out;rw[he,if_pos rfl]at hT hP;subst hP;go_enter Tryz.func121,Tryz.ntmps121
   (go_wp2_with fail);refine R1.out.mono ?_;rintro r w1 ⟨rfl,n1,hw1⟩;have H1:=qb (H.out.drewN n1);have t1:=Turn.drewN B w n1;rw[←hw1]at H1 t1;clear hw1;(go_wp2_with fail);refine(C1.out _).mono ?_;rintro r w2 ⟨⟨u,rfl⟩,b2⟩;have H2:=qb (H1.out.below b2);have t2:=t1.trans (Turn.ofBelow b2);obtain⟨c0,c1,f1⟩:=H2.out.seen;(go_wp2_with fail);refine(D1.out _).mono ?_;rintro r w3 ⟨rfl,hw3⟩;rw[hw3];clear hw3 w3;(go_wp2_with fail);refine(T1.out _).mono ?_;rintro r w4 ⟨rfl,hw4⟩;rw[hw4];clear hw4 w4;(go_wp2_with fail);go_ret
   exact⟨by rw[hT];rfl,H2.out.place (a+(cl+1)),t2.trans (Turn.set _ _ _ _)⟩
set_option maxHeartbeats 2000000
set_option maxRecDepth 100000
attribute [local go_sem] Oper.semAt_some
def Two (b c:Nat) (W W':World):Prop:=W'.heap[b]? = W.heap[b]?∧W'.heap[c]? = W.heap[c]?
theorem Two.refl (b c:Nat) (W:World):Two b c W W:=⟨rfl,rfl⟩
theorem Two.trans {b c:Nat} {A B C:World} (h:Two b c A B) (k:Two b c B C):Two b c A C:=⟨k.1.trans h.1,k.2.trans h.2⟩
theorem two_b {b c:Nat} {w:World} (hb:b<w.heap.size) (hc:c<w.heap.size):∀ (W:World) (l:Nat) (o o':Obj),w.heap.size≤l→W.heap[l]? = some o→o.isCells=false→o.isWalk=false→Two b c W (W.putObj l o'):=
 fun W l o o' hl _ _ _=>⟨World.putObj_heap_other (by omega),World.putObj_heap_other (by omega)⟩
def qgv (W:World) (A:Nat) (ws:List QB):Prop:=W.heap[A]? = some (.cells (ws.map fun x=>Value.string (qd x)).toArray 9 (0,0))
theorem qgv.cell {W:World} {A:Nat} {ws:List QB} (h:qgv W A ws) (i:Nat) (hi:i<ws.length):W.cell? ⟨A,i,none⟩=some (.string (qd ws[i])):=
 qc i h (by simp[hi])
theorem qbqg (n:Nat) (hn:1≤n) (l Bw Br A c:Nat) (r:QY) (hr:r.size≤64) (ws:List QB) (hws:ws.length≤64) (hwl:∀ x∈ws,x.length≤64) (J Jx:List QB→World→Prop) (B0:Nat) (hJ:AbidesFrom B0 J)
 (hY:∀ pre x W,J pre W→pre.length<ws.length→YieldAt Fence.wide (n-1) Tryz.prog l #[.string (qd x),.bool (pfxB r.data.toList x)] W fun e W'=>
 (e=.returned (.bool true)∧J (pre++[x]) W'∧Two Br A W W')∨(e=.returned (.bool false)∧Jx (pre++[x]) W'))
 (W:World) (hBw:Boxed W Bw 37 (.slice (some ⟨A,0,none⟩) ws.length c)) (hBr:Boxed W Br 9 (.string r)) (hA:qgv W A ws) (h0:J [] W) :
 CallsIn Fence.wide n Tryz.prog 180 #[.func (.yield l) #[] #[],.pointer (some ⟨Bw,0,none⟩),.pointer (some ⟨Br,0,none⟩)] W fun e W'=>(∃ v,e=.returned v) ∧
 ((∃ ys,ys=ws∧J ys W')∨(∃ pre,pre <+: ws∧Jx pre W')):=by
  have cA0:=hBw.cell;refine callsIn_of_wp Tryz.func180 rfl trivial ?_ rfl;simp only[Tryz.ntmps180,List.size_toArray,List.length_cons,List.length_nil,Nat.reduceAdd,Nat.reduceSub,Array.replicate_succ,Array.replicate_zero,List.push_toArray,List.append_toArray,List.nil_append,List.cons_append];gi_wp2
  gi_loopw [8] (fun i wr=>∃ (k:Nat),k≤ws.length∧i=.int .i64 k∧J (ws.take k) wr∧Boxed wr Br 9 (.string r)∧qgv wr A ws)
    (fun i _=>ws.length-(intOf i).toNat)
  case atStart=>exact⟨0,by omega,rfl,h0,hBr,hA⟩
  case round=>
    obtain⟨k,hk,rfl,hJs,bR,hAs⟩:=hrel;have cR:=bR.cell
    by_cases hlt:k<ws.length
    · have cW:=hAs.cell k hlt
      have hlt':(k:Int)<(ws.length:Int):=by omega
      have hk0:(0:Int)≤(k:Int):=by omega
      have hxl:=hwl ws[k] (List.getElem_mem hlt);have HT:=qb (show ws.take (k+1)=ws.take k++[ws[k]] from by rw[List.take_succ_eq_append_getElem hlt])
      obtain⟨fn,tmps,assign,body,hy,hR⟩:=hY (ws.take k) ws[k] wr hJs (by rw[List.length_take];omega)
      have HC:=qb (qkl r (qd ws[k]) wr (by unfold maxLen;omega) (by rw[qr];unfold maxLen;omega))
      rw[qj]at HC;generalize ws[k]=x at *;gi_wp2_with (refine⟨trivial,?_⟩;gi_at_call 139;refine(callsIn_wide.2 HC.out).mono ?_;rintro e w' ⟨rfl,hw'⟩;rw[hw'];clear hw' w')
      refine hR.mono ?_;rintro e' W3 (⟨rfl,hJ3,hk3⟩|⟨rfl,hJx3⟩)
      · rw[←HT.out]at hJ3
        gi_wp2
        go_roundw
        case rel=>exact⟨k+1,by omega,by go_num,hJ3,hk3.1.trans bR,hk3.2.trans hAs⟩
        case measure=>simp[intOf];omega
      · rw[←HT.out]at hJx3
        gi_wp2
        refine bodyPost_ret (results_none rfl _ _ _) rfl ?_;exact⟨⟨_,rfl⟩,.inr ⟨ws.take (k+1),List.take_prefix _ _,hJx3⟩⟩
    · obtain rfl:k=ws.length:=by omega
      rw[List.take_length]at hJs;gi_wp2
      go_end0
      exact⟨⟨_,rfl⟩,.inl ⟨ws,rfl,hJs⟩⟩
theorem qbhq (n:Nat) (hn:1≤n) (Bw Br A c:Nat) (r:QY) (hr:r.size≤64) (ws:List QB) (hws:ws.length≤64) (hwl:∀ x∈ws,x.length≤64) (w:World) (hBw:Boxed w Bw 37 (.slice (some ⟨A,0,none⟩) ws.length c)) (hBr:Boxed w Br 9 (.string r)) (hA:qgv w A ws) :
  SeqStopsK Fence.wide n Tryz.prog 180 #[.pointer (some ⟨Bw,0,none⟩),.pointer (some ⟨Br,0,none⟩)] (fun x:QB=>#[Value.string (qd x),.bool (pfxB r.data.toList x)]) (Two Br A) (fun ys=>ys=ws) (fun pre=>pre <+: ws) ws.length w:=fun l J Jx W hW hJ _ hY h0=>
 qbqg n hn l Bw Br A c r hr ws hws hwl J Jx W.heap.size hJ hY W ((hW.block Bw hBw.lt).trans hBw) ((hW.block Br hBr.lt).trans hBr) ((hW.block A (Array.getElem?_eq_some_iff.1 hA).1).trans hA) h0
theorem qbqt (r:QY) (v:Value) (w:World) (a:Option Addr) (n c:Nat) (hv:v=.slice a n c) :
  Calls Tryz.prog 166 #[.string r,v] w fun e w'=>e=.returned (.func (.func 180) #[] #[.pointer (some ⟨w.heap.size+1,0,none⟩),.pointer (some ⟨w.heap.size,0,none⟩)])∧w'=(w.alloc (.cells #[.string r] 9)).alloc (.cells #[v] 37):=by
 subst hv;go_enter Tryz.func166,Tryz.ntmps166
 go_wp2
 go_ret
 exact⟨rfl,rfl⟩
end Go.Proofs.YtabmfdedbpmfmaaGreat
