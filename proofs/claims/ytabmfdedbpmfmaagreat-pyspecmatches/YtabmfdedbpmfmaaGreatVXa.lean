/- Walks: the document's reader: marks, classes, digits, a faul -/
import Derived.Test.YtabmfdedbpmfmaaGreatVHf
import Derived.Test.YtabmfdedbpmfmaaGreatVGlb
import Derived.Test.YtabmfdedbpmfmaaGreatVGga
import Derived.Test.YtabmfdedbpmfmaaGreatVGj
import Derived.Test.YtabmfdedbpmfmaaGreatVGl
import Derived.Test.YtabmfdedbpmfmaaGreatVPa
import Derived.BigQuiet
import Derived.Deep.QuietTactic
import Derived.Test.YtabmfdedbpmfmaaGreatVPd
namespace Go.Proofs.YtabmfdedbpmfmaaGreat
open Go.RowKit Go.Shelf
set_option linter.unusedVariables false
set_option maxHeartbeats 4000000
set_option maxRecDepth 100000
theorem qpv (s:QY) (i:Nat) (h:i<s.size) (hc:s[i].toNat<33∨126<s[i].toNat):badN (s.data.toList.drop i)=0:=by
 rw[qcj s i h,badN,if_pos];simp only[Bool.or_eq_true,decide_eq_true_eq];rcases hc with hc|hc
 ·exact .inl (UInt8.lt_iff_toNat_lt.2 hc)
 ·exact .inr (UInt8.lt_iff_toNat_lt.2 hc)
theorem qxs (s:QY) (i:Nat) (h:i<s.size) (h1:¬ s[i].toNat<33) (h2:¬ 126<s[i].toNat):badN (s.data.toList.drop i)=badN (s.data.toList.drop (i+1))+1:=by
 rw[qcj s i h,badN,if_neg];simp only[Bool.or_eq_true,decide_eq_true_eq,not_or];exact⟨fun hc=>h1 (UInt8.lt_iff_toNat_lt.1 hc),fun hc=>h2 (UInt8.lt_iff_toNat_lt.1 hc)⟩
theorem qbdg (s:QY) (w:World) (hs:s.size≤256) :
  Calls Tryz.prog 159 #[.string s] w (qdv (qkr s.data.toList) w):=by
 have R0:=RB.start w;have hTW:qkr s.data.toList=if badN s.data.toList<s.size then .bad 10 (badN s.data.toList) else .ok pep0 s.data.toList false:=by unfold qkr;rw[qg]
 generalize qkr s.data.toList=R at *;have HTW:=qb hTW;clear hTW;go_enter Tryz.func159,Tryz.ntmps159
 (go_wp2_with fail);generalize (w.alloc _).alloc _=W0 at *;have R0:=qb R0;have hlt:w.heap.size+1<W0.heap.size:=R0.out.lt;go_loopw [7] (fun y wr=>∃ i:Nat,i≤s.size∧y=.int .i64 i∧badN s.data.toList=i+badN (s.data.toList.drop i)∧wr=W0) (fun y _=>s.size-(intOf y).toNat)
 case atStart=>exact⟨0,by omega,rfl,by simp,rfl⟩
 case round=>
  obtain⟨i,hi,rfl,hc,rfl⟩:=hrel
  by_cases hin:i<s.size
  ·have hin':(i:Int)<(s.size:Int):=by omega
   by_cases h1:s[i].toNat<33
   ·have hcmp:(s[i].toNat:Int)<33:=by omega
    have HR:Hid (R=.bad 10 i):=qb (by rw[HTW.out,hc,qpv s i hin (.inl h1),Nat.add_zero,if_pos hin])
    clear hc h1;obtain⟨x0,x1,x2,x3,x4,x5,x6,x7,x8,x9,x10,y0,y1,y2,y3,y4,y5,y6,y7,y8,y9,y10⟩:=qh R0.out.ver;obtain⟨f0,f1,g0,g1⟩:=qv R0.out.flt;obtain⟨W9,hW9,hRQ,hT9⟩:=R0.out.put13 (.string ⟨#[]⟩) (.slice none 0 0) (.int .u8 0) (.string ⟨#[]⟩) (.bool false) (.string ⟨#[]⟩) (.bool false) (.string ⟨#[]⟩) (.slice none 0 0) (.string ⟨#[]⟩) (.bool false) (.int .i64 10) (.int .i64 (i:Int));have HW9:=qb hW9;have RQ:=qb hRQ;clear hRQ hT9 hW9;(go_wp2_with fail);rw[←HW9.out];refine qbjx _ _ w.heap.size (w.heap.size+1) _ _ _ _ _ _ _ _ _ _ _ _ _ ⟨_,_,_,rfl⟩ ⟨_,_,_,rfl⟩ rfl rfl RQ.out.ver RQ.out.flt ?_;rw[HR.out];exact⟨RQ.out.bel,by decide,false,rfl⟩
   ·by_cases h2:126<s[i].toNat
    ·have hcmp:¬ (s[i].toNat:Int)<33:=by omega
     have hcmp2:(126:Int)<(s[i].toNat:Int):=by omega
     have HR:Hid (R=.bad 10 i):=qb (by rw[HTW.out,hc,qpv s i hin (.inr h2),Nat.add_zero,if_pos hin])
     clear hc h1 h2;obtain⟨x0,x1,x2,x3,x4,x5,x6,x7,x8,x9,x10,y0,y1,y2,y3,y4,y5,y6,y7,y8,y9,y10⟩:=qh R0.out.ver;obtain⟨f0,f1,g0,g1⟩:=qv R0.out.flt;obtain⟨W9,hW9,hRQ,hT9⟩:=R0.out.put13 (.string ⟨#[]⟩) (.slice none 0 0) (.int .u8 0) (.string ⟨#[]⟩) (.bool false) (.string ⟨#[]⟩) (.bool false) (.string ⟨#[]⟩) (.slice none 0 0) (.string ⟨#[]⟩) (.bool false) (.int .i64 10) (.int .i64 (i:Int));have HW9:=qb hW9;have RQ:=qb hRQ;clear hRQ hT9 hW9;(go_wp2_with fail);rw[←HW9.out];refine qbjx _ _ w.heap.size (w.heap.size+1) _ _ _ _ _ _ _ _ _ _ _ _ _ ⟨_,_,_,rfl⟩ ⟨_,_,_,rfl⟩ rfl rfl RQ.out.ver RQ.out.flt ?_;rw[HR.out];exact⟨RQ.out.bel,by decide,false,rfl⟩
    ·have hcmp:¬ (s[i].toNat:Int)<33:=by omega
     have hcmp2:¬ (126:Int)<(s[i].toNat:Int):=by omega
     have HC:=qb (hc.trans (by rw[qxs s i hin h1 h2]))
     clear hc h1 h2;(go_wp2_with fail);go_roundw
     case rel=>exact⟨i+1,by omega,by go_num,by have:=HC.out;omega,by trivial⟩
     case measure=>simp[intOf];omega
  ·have hin':¬ (i:Int)<(s.size:Int):=by omega
   have HR:Hid (R=.ok pep0 s.data.toList false):=qb (by
    rw[HTW.out,if_neg];rw[hc,qdx s i (by omega),badN]
    omega)
   clear hc;obtain⟨x0,x1,x2,x3,x4,x5,x6,x7,x8,x9,x10,y0,y1,y2,y3,y4,y5,y6,y7,y8,y9,y10⟩:=qh R0.out.ver;obtain⟨f0,f1,g0,g1⟩:=qv R0.out.flt;obtain⟨W9,hW9,hRQ,hT9⟩:=R0.out.put13 (.string ⟨#[]⟩) (.slice none 0 0) (.int .u8 0) (.string ⟨#[]⟩) (.bool false) (.string ⟨#[]⟩) (.bool false) (.string ⟨#[]⟩) (.slice none 0 0) (.string s) (.bool false) (.int .i64 0) (.int .i64 0);have HW9:=qb hW9;have RQ:=qb hRQ;clear hRQ hT9 hW9;(go_wp2_with fail);rw[←HW9.out];refine qbjx _ _ w.heap.size (w.heap.size+1) _ _ _ _ _ _ _ _ _ _ _ _ _ ⟨_,_,_,rfl⟩ ⟨_,_,_,rfl⟩ rfl rfl RQ.out.ver RQ.out.flt ?_;rw[HR.out];exact⟨RQ.out.bel,.slice none 0 0,.slice none 0 0,by rw[qdb];rfl,⟨none,0,rfl,.inl rfl⟩,⟨none,0,rfl,.inl rfl⟩,fun a i c e=>(by cases e),fun a i c e=>(by cases e)⟩
theorem verX_le (l:QB):(verX l).2≤l.length:=by
 have l1:vp1 l≤l.length:=(qqn l 0 [118] (Nat.zero_le _)).2;have l2:vp2 l≤l.length:=(qbjn l (vp1 l) l1).2;have l3:vp3 l≤l.length:=qkw l 1 [46] (vp2 l) l2;have l4:vp4 l≤l.length:=(qpc l (vp3 l) qbp l3).2;have l5:vp5 l≤l.length:=(qbdc l (vp4 l) l4).2;have l6:vp6 l≤l.length:=(qpc l (vp5 l) qbk l5).2;have l7:vp7 l≤l.length:=(qqn l (vp6 l) [43] l6).2;have l8:vp8 l≤l.length:=qkw l 5 [45,95,46] (vp7 l) l7;unfold verX
 repeat' split
 all_goals assumption
theorem qhn (l:QB):(errX l).2≤64:=by
 unfold errX;split
 ·exact Nat.le_refl _
 ·have:=verX_le (qk l);rw[qdw]at this;omega
theorem qss {may:PepL→Bool} {u:QB} {e:Int} {p:Nat} (h:qbn may u=.bad e p):p≤64:=by
 unfold qbn at h;split at h
 ·split at h
  ·cases h
  ·cases h;omega
 ·cases h;exact qhn u
theorem wdR_le {k:Nat} {u:QB} {e:Int} {p:Nat} (hu:u.length≤256) (h:wdR k u=.bad e p):p≤1000:=by
 unfold wdR at h;split at h
 ·have:=qss h;omega
 ·split at h
  ·split at h
   ·cases hq:qbn qff (u.take (u.length-2))with
    | bad e2 p2=>
     rw[hq]at h;cases h;have:=qss hq;omega
    | ok x t st=>rw[hq]at h;cases h
   ·have:=qss h;omega
  ·split at h
   ·unfold qkr at h;split at h
    ·cases h;omega
    ·cases h
   ·have:=qss h;omega
theorem qbrb (j:Nat) (hj:j<8) (u:QY) (hu:u.size≤256) (W:World):Calls Tryz.prog (rdF j) #[.string u] W (qdv (wdR j u.data.toList) W):=by
 have st:∀ j,j=1∨j=2→Calls Tryz.prog 151 #[.string u] W (qdv (wdR j u.data.toList) W):=by
  intro j hj;unfold wdR;rw[if_neg (by omega),if_pos hj]
  cases hE:qcm u.data.toList
  ·rw[if_neg (by simp)]
   exact qvg u W (by omega) hE
  ·rw[if_pos rfl];exact qsm u W (by omega) hE
 match j,hj with
 | 0,_=>exact qnv u W (by omega)
 | 1,_=>exact st 1 (.inl rfl)
 | 2,_=>exact st 2 (.inr rfl)
 | 3,_=>exact qgz u W (by omega)
 | 4,_=>exact qgz u W (by omega)
 | 5,_=>exact qgz u W (by omega)
 | 6,_=>exact qgz u W (by omega)
 | 7,_=>exact qbdg u W hu
theorem rwL_of (s:QY) (j b:Nat):rwL s.data.toList j b=rwOf s.size b (wdN (s.data.toList.drop b)) (wdR j (seg s.data.toList b (b+wdN (s.data.toList.drop b)))):=by
 unfold rwL rwOf;rw[qg];split
 ·rfl
 ·split<;>rename_i h<;>rw[h]
theorem qbbd (j:Nat) (hj:j<8) (s:QY) (b:Nat) (w:World) (hs:s.size≤256) (hb:b≤s.size) :
  Calls Tryz.prog 116 #[.string s,.int .i64 (b:Int),.func (.func (rdF j)) #[] #[]] w (qwp (rwL s.data.toList j b) w):=by
 rw [rwL_of];have hn:=qlj (s.data.toList.drop b);rw[List.length_drop,qg]at hn;have hR:∀ W,Calls Tryz.prog (rdF j) #[.string (s.extract b (b+wdN (s.data.toList.drop b)))] W (qdv (wdR j (seg s.data.toList b (b+wdN (s.data.toList.drop b)))) W):=fun W=>by
  have:=qbrb j hj (s.extract b (b+wdN (s.data.toList.drop b))) (by rw[ByteArray.size_extract];omega) W
  rw[qdd]at this;exact this
 have hp:∀ e p,wdR j (seg s.data.toList b (b+wdN (s.data.toList.drop b)))=.bad e p→p≤1000:=fun e p h=>wdR_le (by have:=qbbm s.data.toList b (b+wdN (s.data.toList.drop b));rw[qg]at this;omega) h
 match j,hj with
 | 0,_=>exact qbcq s b _ w hs hb hR hp
 | 1,_=>exact qpx s b _ w hs hb hR hp
 | 2,_=>exact qpx s b _ w hs hb hR hp
 | 3,_=>exact qjd s b _ w hs hb hR hp
 | 4,_=>exact qjd s b _ w hs hb hR hp
 | 5,_=>exact qjd s b _ w hs hb hR hp
 | 6,_=>exact qjd s b _ w hs hb hR hp
 | 7,_=>exact qbcb s b _ w hs hb hR hp
theorem qbfd {l:QB} {a:Nat} (h:(opGo (l.drop a) 8).1=8):clP l a=⟨8,pep0,[],false,a,a+(opGo (l.drop a) 8).2,misL l.length (a+(opGo (l.drop a) 8).2)⟩:=by
 unfold clP;rw[if_pos h]
theorem qvh {l:QB} {a k b:Nat} (hk:k<8) (h:(opGo (l.drop a) 8).1=k) (hb:skL l (a+(sgn k).length)=b) (h0:wdN (l.drop b)=0):clP l a=⟨k,pep0,[],false,a,b,misL l.length b⟩:=by
 unfold clP;rw[if_neg (by omega),h,hb];unfold rwL;rw[if_pos h0]
theorem qbcv {l:QB} {a k b p:Nat} {e:Int} (hk:k<8) (h:(opGo (l.drop a) 8).1=k) (hb:skL l (a+(sgn k).length)=b) (h0:wdN (l.drop b)≠0) (hw:wdR k (seg l b (b+wdN (l.drop b)))=.bad e p) :
  clP l a=⟨k,pep0,[],false,a,b+p,e⟩:=by
 unfold clP;rw[if_neg (by omega),h,hb];unfold rwL;rw[if_neg h0,hw]
theorem qtv {l:QB} {a k b z:Nat} {x:PepL} {t:QB} {st:Bool} (hk:k<8) (h:(opGo (l.drop a) 8).1=k) (hb:skL l (a+(sgn k).length)=b) (h0:wdN (l.drop b)≠0) (hw:wdR k (seg l b (b+wdN (l.drop b)))=.ok x t st) (hz:skL l (b+wdN (l.drop b))=z) :
  clP l a=⟨k,x,t,st,a,z,if z<l.length∧l[z]?≠some 44 then 10 else 0⟩:=by
 unfold clP;rw[if_neg (by omega),h,hb];unfold rwL;rw[if_neg h0,hw];dsimp only;rw[hz]
def plL (c:Cl):List Value:=[.string (qd (sgn c.k)),.string (qd c.t),.bool c.st]
theorem qkj (c:Cl):∀ u∈plL c,u.oneCell'=true:=by
 intro u hu;simp only[plL,List.mem_cons,List.not_mem_nil,or_false]at hu;rcases hu with rfl|rfl|rfl<;>rfl
def PyAt (W:World) (v:Value) (cs:List Cl):Prop:=
 ∃ a cap,v=.slice a cs.length cap∧(cs=[]∨∃ b,a=some ⟨b,0,none⟩∧b<W.heap.size∧∀ j u,(cs.flatMap plL)[j]? = some u→W.cell? ⟨b,j,none⟩=some u)
theorem PyAt.nil (W:World):PyAt W (.slice none 0 0) []:=⟨none,0,rfl,.inl rfl⟩
theorem qbcw {W:World} {base:Nat} {v:Value} {cs:List Cl} (h:W.ownsRow base 32 3 v cs.length (cs.flatMap plL)):PyAt W v cs:=by
 obtain⟨a,c,rfl,h0|⟨g,rfl,hg,hc⟩⟩:=qcl h
 ·exact⟨a,c,rfl,.inl (List.length_eq_zero_iff.1 h0)⟩
 ·exact⟨_,c,rfl,.inr ⟨g,rfl,hg,hc⟩⟩
theorem PyAt.below {W W':World} {v:Value} {cs:List Cl} (h:PyAt W v cs) (hb:Below W.heap.size W W'):PyAt W' v cs:=by
 obtain⟨a,c,rfl,h0|⟨g,rfl,hg,hc⟩⟩:=h
 ·exact⟨a,c,rfl,.inl h0⟩
 ·exact⟨_,c,rfl,.inr ⟨g,rfl,Nat.lt_of_lt_of_le hg hb.size,fun j u hj=>(hb.cell hg).trans (hc j u hj)⟩⟩
def qgk (r:Int×Nat×List Cl) (w:World) (e:Ending) (w':World):Prop:=
 Below w.heap.size w w'∧∃ v,e=.returned (.tuple #[v,.int .i64 r.1,.int .i64 (r.2.1:Int)])∧PyAt w' v r.2.2∧qbs w.heap.size v
theorem qcp (n:Nat):qbs n (.slice none 0 0):=fun a i c e=>by cases e
theorem qlc {W:World} {base:Nat} {e:TypeId} {size:Nat} {v:Value} {n:Nat} {xs:List Value} (h:W.ownsRow base e size v n xs):qbs base v:=fun a i c e=>⟨(qmv h a.block (by rw[e];rfl)).1,qbnc h _ _ _ e⟩
theorem info_parts {P:Program} {t:TypeId} {z:Value} {size bytes:Nat} (h:(P.info? t).map (fun i=>(i.zero,i.size,i.bytes))=some (some z,size,bytes)):∃ i,P.info? t=some i∧i.zero=some z∧i.size=size∧i.bytes=bytes:=by
 cases hi:P.info? t with
 | none=>rw[hi]at h;cases h
 | some i=>
  rw[hi]at h;simp only[Option.map_some,Option.some.injEq,Prod.mk.injEq]at h;exact⟨i,rfl,h.1,h.2.1,h.2.2⟩
theorem info32:(Tryz.prog.info? 32).map (fun i=>(i.zero,i.size,i.bytes))=some (some (.agg #[.string ⟨#[]⟩,.string ⟨#[]⟩,.bool false]),3,40):=by kernel_rfl
theorem qjh (W:World) (cs:Array Value) (t:TypeId):∀ j u,cs.toList[j]? = some u→(W.alloc (.cells cs t)).cell? ((⟨W.heap.size,0,none⟩:Addr).add j)=some u:=by
 intro j u h;have:(⟨W.heap.size,0,none⟩:Addr).add j=⟨W.heap.size,j,none⟩:=by unfold Addr.add;split<;>simp_all
 rw[this];exact qc j (World.alloc_heap_new W _) (by simpa using h)
set_option maxHeartbeats 4000000
set_option maxRecDepth 100000
def zer3:Value:=.agg #[.string ⟨#[]⟩,.string ⟨#[]⟩,.bool false]
def wdT (k a:Nat):Wd→Value
 | .bad e p=>.tuple #[zer3,.int .i64 e,.int .i64 ((a+p:Nat):Int)]
 | .ok _ t st=>.tuple #[.agg #[.string (qd (sgn k)),.string (qd t),.bool st],.int .i64 0,.int .i64 0]
theorem qkk (k a:Nat) (x:PepL) (s:QY) (st:Bool):wdT k a (.ok x s.data.toList st)=.tuple #[.agg #[.string (qd (sgn k)),.string s,.bool st],.int .i64 0,.int .i64 0]:=by
 unfold wdT;simp only[qdb]
theorem qdq {R:Ending→World→Prop} (tmps:Array Value) (W:World) (B:Nat) (c0 c1 c2 v7 v8:Value) (h6:tmps.getD 6 undef=.pointer (some ⟨B,0,none⟩)) (h7:tmps.getD 7 undef=v7) (h8:tmps.getD 8 undef=v8)
  (e1:W.heap[B]? = some (.cells #[c0,c1,c2] 32 (0,0))) (hR:R (.returned (.tuple #[.agg #[c0,c1,c2],v7,v8])) W):bodyPost Tryz.prog Tryz.f65 R .ret { tmps:=tmps,defers:=[] } W:=by
 have r0:=qc 0 e1 rfl;have r1:=qc 1 e1 rfl;have r2:=qc 2 e1 rfl;rw[Array.getD_eq_getD_getElem?]at h6 h7 h8;refine⟨rfl,_,?_,hR⟩;simp[results,Tryz.results65,go_sem,h6,h7,h8,r0,r1,r2]
 try rfl
theorem qbh {w:World} (a b c:Value) {V:World} (h:V.heap[w.heap.size]? = some (.cells #[.string ⟨#[]⟩,.string ⟨#[]⟩,.bool false] 32 (0,0))) (hb:Below w.heap.size w V) :
  (((V.setCell ⟨w.heap.size,0,none⟩ a).setCell ⟨w.heap.size,1,none⟩ b).setCell ⟨w.heap.size,2,none⟩ c).heap[w.heap.size]? = some (.cells #[a,b,c] 32 (0,0))∧Below w.heap.size w (((V.setCell ⟨w.heap.size,0,none⟩ a).setCell ⟨w.heap.size,1,none⟩ b).setCell ⟨w.heap.size,2,none⟩ c):=
 ⟨qw 2 c (qw 1 b (qw 0 a h)),((hb.setCell (p:=⟨w.heap.size,0,none⟩) (Nat.le_refl _) _).setCell (p:=⟨w.heap.size,1,none⟩) (Nat.le_refl _) _).setCell (p:=⟨w.heap.size,2,none⟩) (Nat.le_refl _) _⟩
theorem qbld (s:QY) (a:Nat) (w:World) (hs:s.size≤256) (ha:a≤256) :
  Calls Tryz.prog 65 #[.string ⟨#[61,61,61]⟩,.string s,.int .i64 (a:Int)] w fun e w'=>e=.returned (wdT 7 a (qkr s.data.toList))∧Below w.heap.size w w':=by
 have hTW:qkr s.data.toList=if badN s.data.toList<s.size then .bad 10 (badN s.data.toList) else .ok pep0 s.data.toList false:=by unfold qkr;rw[qg]
 generalize qkr s.data.toList=R at *;have HTW:=qb hTW;clear hTW;have hB:=World.alloc_heap_new w (.cells #[.string ⟨#[]⟩,.string ⟨#[]⟩,.bool false] 32);have hbW:Below w.heap.size w (w.alloc (.cells #[.string ⟨#[]⟩,.string ⟨#[]⟩,.bool false] 32)):=(Below.refl _ w).alloc (Nat.le_refl _) _;go_enter Tryz.func65,Tryz.ntmps65
 (go_wp2_with fail);generalize w.alloc _=W0 at *;have HB:=qb hB;have HBW:=qb hbW;clear hB hbW;go_loopw [9] (fun y wr=>∃ i:Nat,i≤s.size∧y=.int .i64 i∧badN s.data.toList=i+badN (s.data.toList.drop i)∧wr=W0) (fun y _=>s.size-(intOf y).toNat)
 case atStart=>exact⟨0,by omega,rfl,by simp,rfl⟩
 case round=>
  obtain⟨i,hi,rfl,hc,rfl⟩:=hrel
  by_cases hin:i<s.size
  ·have hin':(i:Int)<(s.size:Int):=by omega
   by_cases h1:s[i].toNat<33
   ·have hcmp:(s[i].toNat:Int)<33:=by omega
    have HR:Hid (R=.bad 10 i):=qb (by rw[HTW.out,hc,qpv s i hin (.inl h1),Nat.add_zero,if_pos hin])
    clear hc h1;obtain⟨k1,k2⟩:=qbh (w:=w) (.string ⟨#[]⟩) (.string ⟨#[]⟩) (.bool false) HB.out HBW.out;have x0:=qc 0 HB.out rfl;have x1:=qc 1 HB.out rfl;have x2:=qc 2 HB.out rfl;have y0:=qf 0 HB.out;have y1:=qf 1 HB.out;have y2:=qf 2 HB.out;have K1:=qb k1;have K2:=qb k2;clear k1 k2;(go_wp2_with fail);refine qdq _ _ w.heap.size _ _ _ _ _ rfl rfl rfl K1.out ?_;rw[HR.out];exact⟨by unfold wdT;push_cast;rfl,K2.out⟩
   ·by_cases h2:126<s[i].toNat
    ·have hcmp:¬ (s[i].toNat:Int)<33:=by omega
     have hcmp2:(126:Int)<(s[i].toNat:Int):=by omega
     have HR:Hid (R=.bad 10 i):=qb (by rw[HTW.out,hc,qpv s i hin (.inr h2),Nat.add_zero,if_pos hin])
     clear hc h1 h2;obtain⟨k1,k2⟩:=qbh (w:=w) (.string ⟨#[]⟩) (.string ⟨#[]⟩) (.bool false) HB.out HBW.out;have x0:=qc 0 HB.out rfl;have x1:=qc 1 HB.out rfl;have x2:=qc 2 HB.out rfl;have y0:=qf 0 HB.out;have y1:=qf 1 HB.out;have y2:=qf 2 HB.out;have K1:=qb k1;have K2:=qb k2;clear k1 k2;(go_wp2_with fail);refine qdq _ _ w.heap.size _ _ _ _ _ rfl rfl rfl K1.out ?_;rw[HR.out];exact⟨by unfold wdT;push_cast;rfl,K2.out⟩
    ·have hcmp:¬ (s[i].toNat:Int)<33:=by omega
     have hcmp2:¬ (126:Int)<(s[i].toNat:Int):=by omega
     have HC:=qb (hc.trans (by rw[qxs s i hin h1 h2]))
     clear hc h1 h2;(go_wp2_with fail);go_roundw
     case rel=>exact⟨i+1,by omega,by go_num,by have:=HC.out;omega,by trivial⟩
     case measure=>simp[intOf];omega
  ·have hin':¬ (i:Int)<(s.size:Int):=by omega
   have HR:Hid (R=.ok pep0 s.data.toList false):=qb (by
    rw[HTW.out,if_neg];rw[hc,qdx s i (by omega),badN]
    omega)
   clear hc;obtain⟨k1,k2⟩:=qbh (w:=w) (.string ⟨#[61,61,61]⟩) (.string s) (.bool false) HB.out HBW.out;have x0:=qc 0 HB.out rfl;have x1:=qc 1 HB.out rfl;have x2:=qc 2 HB.out rfl;have y0:=qf 0 HB.out;have y1:=qf 1 HB.out;have y2:=qf 2 HB.out;have K1:=qb k1;have K2:=qb k2;clear k1 k2;(go_wp2_with fail);refine qdq _ _ w.heap.size _ _ _ _ _ rfl rfl rfl K1.out ?_;rw[HR.out];exact⟨by rw[qkk];rfl,K2.out⟩
open Go.RowKit
set_option maxHeartbeats 1000000
def hasP (s x:QB):Bool:=s.take x.length==x
theorem qbjt (s x:QB) (h:s.length<x.length):hasP s x=false:=by
 unfold hasP;rw[beq_eq_false_iff_ne];intro e;have:=congrArg List.length e;simp at this;omega
def qdr (s:QB) (n:Int) (x:QB):Bool:=(decide (0≤n)&&decide (n≤(s.length:Int)))&&hasP (s.drop n.toNat) x
theorem qbjl (s:QY) (n:Int) (x:QY) (w:World) (hs:s.size≤maxLen) :
  Calls Tryz.prog 113 #[.string s,.int .i64 n,.string x] w fun e w'=>e=.returned (.bool (qdr s.data.toList n x.data.toList))∧w'=w:=by
 unfold maxLen at hs
 by_cases h0:0≤n
 ·obtain ⟨m,rfl⟩:=Int.eq_ofNat_of_zero_le h0
  by_cases h1:m≤s.size
  ·by_cases h2:m+x.size≤s.size
   ·have HE:Hid (((s.extract m (m+x.size)).toList==x.toList)=qdr s.data.toList m x.data.toList):=by
     show _=_;rw[toL,toL,qfc,qj,qdr,hasP,qg,qg,List.drop_take];simp[h1]
    go_enter Tryz.func113,Tryz.ntmps113
    go_wp2
    go_ret
    exact⟨qcb HE.out,rfl⟩
   ·have HE:Hid (qdr s.data.toList m x.data.toList=false):=by
     show _=_;rw[qdr,qbjt _ _ (by rw[List.length_drop,qg,qg];simp;omega)];simp
    go_enter Tryz.func113,Tryz.ntmps113
    go_wp2
    go_ret
    exact⟨qcb HE.out.symm,rfl⟩
  ·have HE:Hid (qdr s.data.toList m x.data.toList=false):=by
    show _=_;rw[qdr,qg];simp;omega
   go_enter Tryz.func113,Tryz.ntmps113
   go_wp2
   go_ret
   exact⟨qcb HE.out.symm,rfl⟩
 ·have HE:Hid (qdr s.data.toList n x.data.toList=false):=by
   show _=_;rw[qdr];simp;omega
  go_enter Tryz.func113,Tryz.ntmps113
  go_wp2
  go_ret
  exact⟨qcb HE.out.symm,rfl⟩
def Words (W:World) (a:Option Addr) (ws:List QY):Prop:=
 ws=[]∨∃ b off,a=some ⟨b,off,none⟩∧∀ i,i<ws.length→W.cell? ⟨b,off+i,none⟩=some (.string (ws.getD i ByteArray.empty))
theorem ret_w {a c:QY} {b d:Bool} (h1:a=c) (h2:b=d):Ending.returned (.tuple #[.string a,.bool b])=.returned (.tuple #[.string c,.bool d]):=by rw[h1,h2]
def qkm (f:QY→Bool) (acc:QY×Bool) (x:QY):QY×Bool:=
 if f x=true∧(acc.2=false∨acc.1.size<x.size) then (x,true) else acc
def qqr (f:QY→Bool) (ws:List QY):QY×Bool:=ws.foldl (qkm f) (ByteArray.empty,false)
theorem qbkz (f:QY→Bool) (ws:List QY) (k:Nat) (h:k<ws.length):qqr f (ws.take (k+1))=qkm f (qqr f (ws.take k)) (ws.getD k ByteArray.empty):=by
 unfold qqr;rw[List.take_succ_eq_append_getElem h,List.foldl_append];simp[List.getD,h]
theorem qbqv (s:QY) (n:Int) (a0:Option Addr) (ws:List QY) (cap:Nat) (w:World) (hs:s.size≤maxLen) (hw:ws.length≤maxLen) (hv:Words w a0 ws) :
  Calls Tryz.prog 84 #[.string s,.int .i64 n,.slice a0 ws.length cap] w fun e w'=>e=.returned (.tuple #[.string (qqr (fun x=>qdr s.data.toList n x.data.toList) ws).1,.bool (qqr (fun x=>qdr s.data.toList n x.data.toList) ws).2])∧w'=w:=by
 have HP:Hid (∀ x w,Calls Tryz.prog 113 #[.string s,.int .i64 n,.string x] w fun e w'=>e=.returned (.bool (qdr s.data.toList n x.data.toList))∧w'=w):=fun x w=>qbjl s n x w hs;unfold maxLen at hs hw;obtain⟨f,hf⟩:∃ f:QY→Bool,(fun x=>qdr s.data.toList n x.data.toList)=f:=⟨_,rfl⟩;have HP':Hid (∀ x w,Calls Tryz.prog 113 #[.string s,.int .i64 n,.string x] w fun e w'=>e=.returned (.bool (f x))∧w'=w):=fun x w=>by
  have:=HP.out x w;rw[←hf];exact this
 rw[hf];clear HP hf;rcases hv with rfl|⟨b,off,rfl,hc⟩
 ·go_enter Tryz.func84,Tryz.ntmps84
  (go_wp2_with fail);refine wp_loop_rounds 1 ?_;rw[rounds_succ];go_wp2
  go_ret2
  exact⟨rfl,rfl⟩
 ·have HC:=qb hc;clear hc;go_enter Tryz.func84,Tryz.ntmps84
  (go_wp2_with fail);go_loop [8,9,10] (fun x y i=>∃ k:Nat,k≤ws.length∧i=.int .i64 k∧∃ p q,x=.string p∧y=.bool q∧Hid (qqr f (ws.take k)=(p,q))) (fun _ _ i=>ws.length-(intOf i).toNat)
  case atStart=>exact⟨0,by omega,rfl,_,_,rfl,rfl,rfl⟩
  case round=>
   obtain⟨k,hk,rfl,p,q,rfl,rfl,HR⟩:=hrel
   by_cases hlt:k<ws.length
   ·have hcell:=HC.out k hlt;have HX:Hid _:=qbkz f ws k hlt;generalize ws.getD k ByteArray.empty=x at *
    by_cases hp:f x=true
    ·cases q with
     | false=>
      go_wp2_with (go_at_call 113;refine(HP'.out _ _).mono ?_;rintro e w' ⟨rfl,rfl⟩)
      go_round
      case rel=>exact⟨k+1,by omega,by go_num,x,true,rfl,rfl,by rw[HX.out,HR.out];simp[Hid,qkm,hp]⟩
      case measure=>simp[intOf];omega
     | true=>
      by_cases hsz:p.size<x.size
      ·go_wp2_with (go_at_call 113;refine(HP'.out _ _).mono ?_;rintro e w' ⟨rfl,rfl⟩)
       go_round
       case rel=>exact⟨k+1,by omega,by go_num,x,true,rfl,rfl,by rw[HX.out,HR.out];simp[Hid,qkm,hp,hsz]⟩
       case measure=>simp[intOf];omega
      ·go_wp2_with (go_at_call 113;refine(HP'.out _ _).mono ?_;rintro e w' ⟨rfl,rfl⟩)
       go_round
       case rel=>exact⟨k+1,by omega,by go_num,p,true,rfl,rfl,by rw[HX.out,HR.out];simp[Hid,qkm,hp];omega⟩
       case measure=>simp[intOf];omega
    ·have hp':f x=false:=by simpa using hp
     go_wp2_with (go_at_call 113;refine(HP'.out _ _).mono ?_;rintro e w' ⟨rfl,rfl⟩)
     go_round
     case rel=>exact⟨k+1,by omega,by go_num,p,q,rfl,rfl,by rw[HX.out,HR.out];simp[Hid,qkm,hp']⟩
     case measure=>simp[intOf];omega
   ·have HA:Hid (ws.take k=ws):=List.take_of_length_le (by omega)
    (go_wp2_with fail);go_ret2
    exact⟨ret_w (by rw[←HA.out,HR.out]) (by rw[←HA.out,HR.out]),rfl⟩
open Calls renaming quiet_of_same → qbts
open Go renaming World → QW
set_option maxHeartbeats 1000000
set_option maxRecDepth 100000
def DrAt (W:QW) (B:Nat) (s:QY) (a:Nat) (e p:Int):Prop:=W.heap[B]? = some (.cells #[.string s,.int .i64 (a:Int),.int .i64 e,.int .i64 p] 80 (0,0))
theorem DrAt.seen {W:QW} {B:Nat} {s:QY} {a:Nat} {e p:Int} (h:DrAt W B s a e p):W.cell? ⟨B,0,none⟩=some (.string s)∧W.cell? ⟨B,1,none⟩=some (.int .i64 (a:Int))∧W.cell? ⟨B,2,none⟩=some (.int .i64 e)∧W.cell? ⟨B,3,none⟩=some (.int .i64 p)∧W.frozen? ⟨B,1,none⟩=false∧W.frozen? ⟨B,2,none⟩=false∧W.frozen? ⟨B,3,none⟩=false:=
 ⟨qc 0 h rfl,qc 1 h rfl,qc 2 h rfl,qc 3 h rfl,qf 1 h,qf 2 h,qf 3 h⟩
theorem DrAt.lt {W:QW} {B:Nat} {s:QY} {a:Nat} {e p:Int} (h:DrAt W B s a e p):B<W.heap.size:=(Array.getElem?_eq_some_iff.1 h).1
theorem DrAt.drewN {W:QW} {B:Nat} {s:QY} {a:Nat} {e p:Int} (h:DrAt W B s a e p) (n:Nat):DrAt (W.drewN n) B s a e p:=by unfold DrAt;rw[qbx];exact h
theorem DrAt.place {W:QW} {B:Nat} {s:QY} {a:Nat} {e p:Int} (h:DrAt W B s a e p) (x:Nat):DrAt (W.setCell ⟨B,1,none⟩ (.int .i64 (x:Int))) B s x e p:=qw 1 (.int .i64 (x:Int)) h
theorem DrAt.step {W:QW} {B:Nat} {s:QY} {a:Nat} {e p:Int} (h:DrAt W B s a e p):DrAt (W.setCell ⟨B,1,none⟩ (.int .i64 ((a:Int)+1))) B s (a+1) e p:=h.place (a+1)
theorem DrAt.fault {W:QW} {B:Nat} {s:QY} {a:Nat} {e p:Int} (h:DrAt W B s a e p) (x y:Int):DrAt ((W.setCell ⟨B,2,none⟩ (.int .i64 x)).setCell ⟨B,3,none⟩ (.int .i64 y)) B s a x y:=by
 have h1:DrAt (W.setCell ⟨B,2,none⟩ (.int .i64 x)) B s a x p:=qw 2 (.int .i64 x) h;exact qw 3 (.int .i64 y) h1
theorem DrAt.below {W W':QW} {B:Nat} {s:QY} {a:Nat} {e p:Int} (h:DrAt W B s a e p) (hb:Below W.heap.size W W'):DrAt W' B s a e p:=(hb.block B h.lt).trans h
def qdg (l:QB) (a:Nat):Bool:=(l[a]?.map qgc).getD false
def clsB (l:QB) (a:Nat) (k:Int):Bool:=(l[a]?.map fun c=>isC (c.toNat:Int) k).getD false
theorem markB_in (s:QY) (a:Nat) (h:a<s.size):qdg s.data.toList a=qgc s[a]:=by
 unfold qdg;rw[List.getElem?_eq_getElem (by rw[qg];exact h)];rfl
theorem qbpq (s:QY) (a:Nat) (h:¬ a<s.size):qdg s.data.toList a=false:=by
 unfold qdg;rw[List.getElem?_eq_none (by rw[qg];omega)];rfl
theorem clsB_in (s:QY) (a:Nat) (k:Int) (h:a<s.size):clsB s.data.toList a k=isC (s[a].toNat:Int) k:=by
 unfold clsB;rw[List.getElem?_eq_getElem (by rw[qg];exact h)];rfl
theorem qmr (s:QY) (a:Nat) (k:Int) (h:¬ a<s.size):clsB s.data.toList a k=false:=by
 unfold clsB;rw[List.getElem?_eq_none (by rw[qg];omega)];rfl
theorem qbrm (c:UInt8) (w:QW):Calls Tryz.prog 112 #[.int .u8 (c.toNat:Int)] w fun e w'=>e=.returned (.bool (qgc c))∧w'=w:=by
 have HM:Hid (qgc c=(((c.toNat:Int)==45)||((c.toNat:Int)==95)||((c.toNat:Int)==46))):=by
  show _=_;have e:∀ d:UInt8,(c==d)=((c.toNat:Int)==(d.toNat:Int)):=fun d=>by
   rw[Bool.eq_iff_iff];simp only[beq_iff_eq];constructor
   ·intro h;rw[h]
   ·intro h;exact UInt8.toNat_inj.1 (by omega)
  unfold qgc;rw[e,e,e];rfl
 generalize qgc c=M at *;generalize (c.toNat:Int)=x at *;cases h1:(x==45)
 ·cases h2:(x==95)
  ·cases h3:(x==46)
   ·rw[h1,h2,h3]at HM;go_enter Tryz.func112,Tryz.ntmps112
    (go_wp2_with fail);go_ret
    exact⟨qcb HM.out.symm,rfl⟩
   ·rw[h1,h2,h3]at HM;go_enter Tryz.func112,Tryz.ntmps112
    (go_wp2_with fail);go_ret
    exact⟨qcb HM.out.symm,rfl⟩
  ·rw[h1,h2]at HM;have HM:Hid (M=true):=by show _=_;rw[HM.out];simp
   go_enter Tryz.func112,Tryz.ntmps112
   (go_wp2_with fail);go_ret
   exact⟨qcb HM.out.symm,rfl⟩
 ·rw[h1]at HM;have HM:Hid (M=true):=by show _=_;rw[HM.out];simp
  go_enter Tryz.func112,Tryz.ntmps112
  (go_wp2_with fail);go_ret
  exact⟨qcb HM.out.symm,rfl⟩
theorem qmc (B:Nat) (s:QY) (a:Nat) (e p:Int) (k:Nat) (w:QW) (h:DrAt w B s a e p) (ha:a≤s.size) (hk:k≤1) (hs:s.size≤64) :
  Calls Tryz.prog 83 #[.pointer (some ⟨B,0,none⟩),.int .i64 (k:Int)] w fun r w'=>r=.returned (.bool (qdg s.data.toList (a+k)))∧∃ n,w'=w.drewN n:=by
 obtain⟨c0,c1,c2,c3,f1,f2,f3⟩:=h.seen;clear h;obtain⟨j,hj⟩:∃ j,j=a+k:=⟨_,rfl⟩;rw[←hj];have eA:(a:Int)+(k:Int)=(j:Int):=by omega
 have wA:IntKind.i64.wrap (j:Int)=(j:Int):=by rw[IntKind.wrap_i64];omega
 have j0:(0:Int)≤(j:Int):=by omega
 by_cases hl:j<s.size
 ·have hd:((j:Int)<(s.size:Int)):=by omega
  have MK:=qb (fun w=>qbrm s[j] w);rw[markB_in s j hl];generalize qgc s[j]=M at *;clear hj ha hk;go_enter Tryz.func83,Tryz.ntmps83
  (go_wp2_with fail);go_quiet (first|(go_at_call 112;exact qbts (MK.out _))|fail)
  (go_wp2_with fail);go_ret
  exact⟨rfl,_,rfl⟩
 ·have hd:¬ ((j:Int)<(s.size:Int)):=by omega
  rw[qbpq s j hl];clear hj ha hk;go_enter Tryz.func83,Tryz.ntmps83
  (go_wp2_with fail);go_quiet (fail)
  (go_wp2_with fail);go_ret
  exact⟨rfl,_,rfl⟩
theorem qdz (B:Nat) (s:QY) (a:Nat) (e p:Int) (k:Nat) (c:Int) (w:QW) (h:DrAt w B s a e p) (ha:a≤s.size) (hk:k≤1) (hs:s.size≤64) :
  Calls Tryz.prog 54 #[.pointer (some ⟨B,0,none⟩),.int .i64 (k:Int),.int .i64 c] w fun r w'=>r=.returned (.bool (clsB s.data.toList (a+k) c))∧∃ n,w'=w.drewN n:=by
 obtain⟨c0,c1,c2,c3,f1,f2,f3⟩:=h.seen;clear h;obtain⟨j,hj⟩:∃ j,j=a+k:=⟨_,rfl⟩;rw[←hj];have eA:(a:Int)+(k:Int)=(j:Int):=by omega
 have wA:IntKind.i64.wrap (j:Int)=(j:Int):=by rw[IntKind.wrap_i64];omega
 have j0:(0:Int)≤(j:Int):=by omega
 by_cases hl:j<s.size
 ·have hd:((j:Int)<(s.size:Int)):=by omega
  have MK:=qb (fun w=>qqq (s[j].toNat:Int) c w);rw[clsB_in s j c hl];generalize isC (s[j].toNat:Int) c=M at *;clear hj ha hk;go_enter Tryz.func54,Tryz.ntmps54
  (go_wp2_with fail);go_quiet (first|(go_at_call 68;exact qbts (MK.out _))|fail)
  (go_wp2_with fail);go_ret
  exact⟨rfl,_,rfl⟩
 ·have hd:¬ ((j:Int)<(s.size:Int)):=by omega
  rw[qmr s j c hl];clear hj ha hk;go_enter Tryz.func54,Tryz.ntmps54
  (go_wp2_with fail);go_quiet (fail)
  (go_wp2_with fail);go_ret
  exact⟨rfl,_,rfl⟩
theorem qgr (B:Nat) (s:QY) (a:Nat) (e p:Int) (w:QW) (h:DrAt w B s a e p) (ha:a≤s.size) (hs:s.size≤64) :
  Calls Tryz.prog 53 #[.pointer (some ⟨B,0,none⟩)] w fun r w'=>r=.returned (.string (qd (qp (seg s.data.toList a (a+qn 1 (s.data.toList.drop a))))))∧DrAt w' B s (a+qn 1 (s.data.toList.drop a)) e p∧Turn B w w':=by
 obtain⟨c0,c1,c2,c3,f1,f2,f3⟩:=h.seen;have H:=qb h;clear h;have hr:=qds 1 s a ha;have HR:=qdl s a 1 ha;obtain⟨E,hE⟩:∃ E,E=a+qn 1 (s.data.toList.drop a):=⟨_,rfl⟩;rw[←hE]at hr ⊢;have hRI:runI s.data.toList (a:Int) 1=(E:Int):=by rw[HR,hE];simp
 have R1:=qb (fun W=>qgx s (a:Int) 1 W (by unfold maxLen;omega))
 rw[hRI]at R1;have TM:=fun w=>qjq (s.extract a E) w (by rw[qfr,qr];unfold maxLen seg;simp only[List.length_drop,List.length_take];rw[qg];omega)
 rw[qdd]at TM;have TM:=qb TM;have i0:(0:Int)≤(a:Int):=Int.natCast_nonneg _;have i1:(a:Int)≤(E:Int):=by omega
 have i2:(E:Int)≤(s.size:Int):=by omega
 clear hRI HR hE;go_enter Tryz.func53,Tryz.ntmps53
 (go_wp2_with fail);go_quiet (first|(go_at_call 52;exact qbts (R1.out _))|fail)
 generalize hn1:w.drewN nq=w1 at *;have H1:DrAt w1 B s a e p:=by rw[←hn1];exact H.out.drewN _
 have T1:Turn B w w1:=by rw[←hn1];exact Turn.drewN _ _ _
 clear hn1 c0 c1 c2 c3 f1 f2 f3;obtain⟨c0,c1,c2,c3,f1,f2,f3⟩:=H1.seen;(go_wp2_with fail);go_quiet (fail)
 (go_wp2_with fail);refine(TM.out _).mono ?_;rintro r w' ⟨rfl,hw'⟩;rw[hw'];clear hw' w';(go_wp2_with fail);go_ret
 exact⟨rfl,(H1.drewN _).place _,T1.trans ((Turn.drewN _ _ _).trans (Turn.set _ _ _ _))⟩
theorem qrm (B:Nat) (s:QY) (a:Nat) (p:Int) (w:QW) (h:DrAt w B s a 0 p) (ha:a≤s.size) (hs:s.size≤64) :
  Calls Tryz.prog 55 #[.pointer (some ⟨B,0,none⟩)] w fun r w'=>r=.returned (.tuple #[])∧DrAt w' B s a (misL s.size a) (a:Int)∧Turn B w w':=by
 obtain⟨c0,c1,c2,c3,f1,f2,f3⟩:=h.seen;have H:=qb h;clear h
 by_cases hl:a<s.size
 ·have hM:misL s.size a=10:=by unfold misL;rw[if_neg (by omega)]
  rw[hM];have hd:¬ ((s.size:Int)≤(a:Int)):=by omega
  have hd2:decide ((s.size:Int)≤(a:Int))=false:=by simpa using hd
  clear hM hl ha;go_enter Tryz.func55,Tryz.ntmps55
  (go_wp2_with fail);go_quiet (fail)
  generalize hn1:w.drewN nq=w1 at *;have H1:DrAt w1 B s a 0 p:=by rw[←hn1];exact H.out.drewN _
  have T1:Turn B w w1:=by rw[←hn1];exact Turn.drewN _ _ _
  clear hn1 c0 c1 c2 c3 f1 f2 f3;obtain⟨c0,c1,c2,c3,f1,f2,f3⟩:=H1.seen;(go_wp2_with fail);go_end0
  exact⟨rfl,H1.fault _ _,T1.trans ((Turn.set _ _ _ _).trans (Turn.set _ _ _ _))⟩
 ·have hM:misL s.size a=11:=by unfold misL;rw[if_pos (by omega)]
  rw[hM];have hd:((s.size:Int)≤(a:Int)):=by omega
  have hd2:decide ((s.size:Int)≤(a:Int))=true:=by simpa using hd
  clear hM hl ha;go_enter Tryz.func55,Tryz.ntmps55
  (go_wp2_with fail);go_quiet (fail)
  generalize hn1:w.drewN nq=w1 at *;have H1:DrAt w1 B s a 0 p:=by rw[←hn1];exact H.out.drewN _
  have T1:Turn B w w1:=by rw[←hn1];exact Turn.drewN _ _ _
  clear hn1 c0 c1 c2 c3 f1 f2 f3;obtain⟨c0,c1,c2,c3,f1,f2,f3⟩:=H1.seen;(go_wp2_with fail);go_end0
  exact⟨rfl,H1.fault _ _,T1.trans ((Turn.set _ _ _ _).trans (Turn.set _ _ _ _))⟩
end Go.Proofs.YtabmfdedbpmfmaaGreat
