/- Walks: numbers and parts by the document. -/
import Derived.Shelf.Strings.OnBuilder
import Derived.Test.YtabmfdedbpmfmaaGreatProg
import Derived.Test.YtabmfdedbpmfmaaGreatVPr
import Derived.KernelRfl
namespace Go.Proofs.YtabmfdedbpmfmaaGreat
open Go.RowKit Go.Shelf
open Below renaming refl → qbtn
open Go.RowKit renaming Below → QE
open Go.Proofs.Tryz (prog)
set_option linter.unusedVariables false
set_option maxHeartbeats 1000000
def qbg (l:QB):Bool:=digB l&&(qp l==l)
theorem eqLs (a b:QB) (x:Bool) (h:(a==b)=x):((qd a).toList==(qd b).toList)=x:=by rw[toL,toL,qj,qj];exact h
theorem qfl (l:QB) (w:World) (hl:l.length≤9223372036854775806) :
  Calls prog 195 #[.string (qd l)] w fun e w'=>e=.returned (.bool (qbg l))∧w'=w:=by
 have D:=fun w=>qgw (qd l) w (by rw[qr];unfold maxLen;omega)
 have TR:=fun w=>qjt (qd l) w (by rw[qr];unfold maxLen;omega)
 rw[qj]at D TR;cases hd:digB l
 ·have HO:Hid (qbg l=false):=by show _=_;unfold qbg;rw[hd];rfl
  rw[hd]at D;have D:=qb D;clear hd;go_enter Tryz.func195,Tryz.ntmps195
  (go_wp2_with fail);refine(D.out _).mono ?_;rintro e w' ⟨rfl,rfl⟩;(go_wp2_with fail);go_ret
  exact⟨qcb HO.out.symm,rfl⟩
 ·rw [hd]at D;cases he:(qp l==l)
  ·have HO:Hid (qbg l=false):=by show _=_;unfold qbg;rw[hd,he];rfl
   have eb:=eqLs _ _ _ he;have D:=qb D;have TR:=qb TR;clear hd he;go_enter Tryz.func195,Tryz.ntmps195
   (go_wp2_with fail);refine(D.out _).mono ?_;rintro e w' ⟨rfl,rfl⟩;(go_wp2_with fail);refine(TR.out _).mono ?_;rintro e w' ⟨rfl,rfl⟩;(go_wp2_with fail);go_ret
   exact⟨qcb HO.out.symm,rfl⟩
  ·have HO:Hid (qbg l=true):=by show _=_;unfold qbg;rw[hd,he];rfl
   have eb:=eqLs _ _ _ he;have D:=qb D;have TR:=qb TR;clear hd he;go_enter Tryz.func195,Tryz.ntmps195
   (go_wp2_with fail);refine(D.out _).mono ?_;rintro e w' ⟨rfl,rfl⟩;(go_wp2_with fail);refine(TR.out _).mono ?_;rintro e w' ⟨rfl,rfl⟩;(go_wp2_with fail);go_ret
   exact⟨qcb HO.out.symm,rfl⟩
def numB (l:QB) (asked:Bool):Bool:=if asked then qbg l else l==[]
theorem qbz (l:QB) (b:Bool) (w:World) (hl:l.length≤9223372036854775806) :
  Calls prog 197 #[.string (qd l),.bool b] w fun e w'=>e=.returned (.bool (numB l b))∧w'=w:=by
 cases b
 ·have HO:Hid ((qd l).toList.isEmpty=numB l false):=by show _=_;rw[toL,qj];cases l<;>rfl
  go_enter Tryz.func197,Tryz.ntmps197
  (go_wp2_with fail);go_ret
  exact⟨qcb HO.out,rfl⟩
 ·have HO:Hid (numB l true=qbg l):=rfl;have C:=qb (fun w=>qfl l w hl);go_enter Tryz.func197,Tryz.ntmps197
  (go_wp2_with fail);refine(C.out _).mono ?_;rintro e w' ⟨rfl,rfl⟩;(go_wp2_with fail);go_ret
  exact⟨qcb HO.out.symm,rfl⟩
def locB (l:QB):Bool:=!l.isEmpty&&(qn 5 l==l.length)&&(qk l==l)&&(qbt l==l)
theorem qxd (l:QB) (w:World) (hl:l.length≤140737488351232) :
  Calls prog 198 #[.string (qd l)] w fun e w'=>e=.returned (.bool (locB l))∧QE w.heap.size w w':=by
 have q:=qr l;have R:=fun w=>qjf (qd l) 0 5 w (by rw[qr];unfold maxLen;omega)
 have hR:runI (qd l).data.toList 0 5=(qn 5 l:Int):=by have:=qdl (qd l) 0 5 (by omega);rw[qj]at this ⊢;simpa using this
 rw[hR]at R;have L:=fun w=>qmw (qd l) w (by rw[qr];unfold maxLen;omega)
 have P:=fun w=>qzb (qd l) w (by rw[qr];unfold maxLen;omega)
 rw[qj]at L P
 change ∀ w,Calls prog 95 _ w fun e w'=>e=.returned (.string (qd (qk l)))∧QE w.heap.size w w' at L
 have HB:Hid (locB l=(!l.isEmpty&&(qn 5 l==l.length)&&(qk l==l)&&(qbt l==l))):=rfl;have R:=qb R;have L:=qb L;have P:=qb P;generalize locB l=B at *;clear hR
 by_cases h0:l=[]
 ·have e0:((qd l).toList==[])=true:=by rw[toL,qj,h0];rfl
  have HO:Hid (B=false):=by show _=_;rw[HB.out,h0];rfl
  clear h0;go_enter Tryz.func198,Tryz.ntmps198
  (go_wp2_with fail);go_ret
  exact⟨qcb HO.out.symm,qbtn _ _⟩
 ·have e0:((qd l).toList==[])=false:=by rw[toL,qj];simpa using h0
  have h0':l.isEmpty=false:=by simpa using h0
  by_cases h1:qn 5 l=l.length
  ·have e1:((qn 5 l:Int)==(l.length:Int))=true:=by simp;omega
   cases h2:(qk l==l)
   ·have e2:=eqLs _ _ _ h2;have HO:Hid (B=false):=by show _=_;rw[HB.out,h2];simp
    clear h0 h1 h2 h0';go_enter Tryz.func198,Tryz.ntmps198
    (go_wp2_with fail);refine(R.out _).mono ?_;rintro e w' ⟨rfl,rfl⟩;(go_wp2_with fail);refine(L.out _).mono ?_;rintro e w1 ⟨rfl,b1⟩;(go_wp2_with fail);go_ret
    exact⟨qcb HO.out.symm,b1⟩
   ·have e2:=eqLs _ _ _ h2;have HO:Hid (B=(qbt l==l)):=by show _=_;rw[HB.out,h2,h0',h1];simp
    obtain⟨z,hz⟩:∃ z,(qbt l==l)=z:=⟨_,rfl⟩;have e3:=eqLs _ _ _ hz;rw[hz]at HO;clear h0 h1 h2 h0' hz;go_enter Tryz.func198,Tryz.ntmps198
    (go_wp2_with fail);refine(R.out _).mono ?_;rintro e w' ⟨rfl,rfl⟩;(go_wp2_with fail);refine(L.out _).mono ?_;rintro e w1 ⟨rfl,b1⟩;(go_wp2_with fail);refine(P.out _).mono ?_;rintro e w' ⟨rfl,rfl⟩;(go_wp2_with fail);go_ret
    exact⟨qcb HO.out.symm,b1⟩
  ·have e1:((qn 5 l:Int)==(l.length:Int))=false:=by simp;omega
   have HO:Hid (B=false):=by show _=_;rw[HB.out];simp[h1]
   clear h0 h1 h0';go_enter Tryz.func198,Tryz.ntmps198
   (go_wp2_with fail);refine(R.out _).mono ?_;rintro e w' ⟨rfl,rfl⟩;(go_wp2_with fail);go_ret
   exact⟨qcb HO.out.symm,qbtn _ _⟩
theorem qbps (l:QB) (B:Nat) (w:World) (hl:l.length≤140737488351232) (hB:w.heap[B]? = some (.cells #[.func (.func 195) #[] #[]] 29 (0,0))) :
  Calls prog 203 #[.string (qd l),.pointer (some ⟨B,0,none⟩)] w fun e w'=>e=.returned (.bool (!qbg l))∧QE w.heap.size w w':=by
 have c0:=qc 0 hB rfl;have C:=qb (fun w=>qfl l w (by omega))
 go_enter Tryz.func203,Tryz.ntmps203
 (go_wp2_with fail);refine(C.out _).mono ?_;rintro e w1 ⟨rfl,b1⟩;(go_wp2_with fail);go_ret
 exact⟨rfl,by first|exact qbtn _ _|(rw[b1];exact qbtn _ _)⟩
theorem qbfk (v:Value) (ts:List QB) (B:Nat) (w:World) (hv:qx w v ts) (hs:ts.length≤1048576∧∀ t∈ts,t.length≤1048576) (hB:w.heap[B]? = some (.cells #[.func (.func 195) #[] #[]] 29 (0,0))) :
  Calls prog 204 #[v,.func (.func 203) #[] #[.pointer (some ⟨B,0,none⟩)]] w fun e w'=>(∃ i:Int,e=.returned (.int .i64 i)∧decide (0≤i)=!ts.all qbg)∧QE w.heap.size w w':=by
 obtain⟨a1,c1,rfl,_⟩:=id hv;have HV:=qb hv;have HS:=qb hs;have ls:=hs.1;have HB:=qb hB;clear hv hs hB;go_enter Tryz.func204,Tryz.ntmps204
 (go_wp2_with fail);go_loopw [8] (fun i wr=>∃ k:Nat,k≤ts.length∧i=.int .i64 k∧Hid (ts.all qbg=(ts.drop k).all qbg)∧QE w.heap.size w wr) (fun i _=>ts.length-(intOf i).toNat)
 case atStart=>exact⟨0,by omega,rfl,by simp[Hid],qbtn _ _⟩
 case round=>
  obtain⟨k,hk,rfl,HR,bW⟩:=hrel;have hv1:=HV.out.below bW
  by_cases h1:k<ts.length
  ·have hlt':(k:Int)<(ts.length:Int):=by omega
   obtain⟨b1,o1,rfl,hc1⟩:=hv1.some (by omega)
   have p1:=hc1 k h1;clear hc1;have C:=fun w h=>qbps ts[k] B w (by have:=HS.out.2 _ (List.getElem_mem h1);omega) h
   have hX:(ts.drop k).all qbg=(qbg ts[k]&&(ts.drop (k+1)).all qbg):=by rw[List.drop_eq_getElem_cons h1,List.all_cons]
   have hBB:=(bW.block _ (Array.getElem?_eq_some_iff.1 HB.out).1).trans HB.out;have C:=C wr hBB;generalize ts[k]=t at *;generalize qbg t=b at *;have HC:=qb C;have HX:=qb hX;clear C hX hv1 hBB;cases b
   ·(go_wp2_with fail);refine HC.out.mono ?_;rintro e w2 ⟨rfl,b2⟩;(go_wp2_with fail);go_ret
    exact⟨⟨_,rfl,by rw[HR.out,HX.out];simp⟩,bW.trans (b2.mono bW.size)⟩
   ·(go_wp2_with fail);refine HC.out.mono ?_;rintro e w2 ⟨rfl,b2⟩;(go_wp2_with fail);go_roundw
    case rel=>exact⟨k+1,by omega,by go_num,by rw[HR.out,HX.out];simp[Hid],bW.trans (b2.mono bW.size)⟩
    case measure=>simp[intOf];omega
  ·have hlt':¬ (k:Int)<(ts.length:Int):=by omega
   (go_wp2_with fail);go_ret
   exact⟨⟨_,rfl,by rw[HR.out,List.drop_eq_nil_of_le (by omega)];rfl⟩,bW⟩
theorem qnd (v:Value) (ts:List QB) (w:World) (hv:qx w v ts) (hs:ts.length≤1048576∧∀ t∈ts,t.length≤1048576) :
  Calls prog 196 #[v,.func (.func 195) #[] #[]] w fun e w'=>e=.returned (.bool (ts.all qbg))∧QE w.heap.size w w':=by
 obtain ⟨a1,c1,rfl,_⟩:=id hv;have bb:=(qbtn _ w).alloc (Nat.le_refl _) (.cells #[.func (.func 195) #[] #[]] 29);have IX:=qbfk _ ts w.heap.size _ (hv.below bb) hs (World.alloc_heap_new w _);have CF:Hid (Calls prog 202 #[.slice a1 ts.length c1,.func (.func 203) #[] #[.pointer (some ⟨w.heap.size,0,none⟩)]] (w.alloc (.cells #[.func (.func 195) #[] #[]] 29)) fun e w'=>e=.returned (.bool (!ts.all qbg))∧QE (w.alloc (.cells #[.func (.func 195) #[] #[]] 29)).heap.size (w.alloc (.cells #[.func (.func 195) #[] #[]] 29)) w'):=by
  have IX:=qb IX;generalize ts.all qbg=b at *;show Calls _ _ _ _ _;go_enter Tryz.func202,Tryz.ntmps202
  (go_wp2_with fail);refine IX.out.mono ?_;rintro e w1 ⟨⟨i,rfl,hi⟩,b1⟩;(go_wp2_with fail);go_ret
  exact⟨qcb (by first|rfl|exact hi),b1⟩
 clear IX;generalize ts.all qbg=b at *;go_enter Tryz.func196,Tryz.ntmps196
 (go_wp2_with fail);refine CF.out.mono ?_;rintro e w1 ⟨rfl,b1⟩;(go_wp2_with fail);go_ret
 exact⟨qcb (by simp),bb.trans (b1.mono bb.size)⟩
theorem qbql (l:QB) (B:Nat) (w:World) (hl:l.length≤140737488351232) (hB:w.heap[B]? = some (.cells #[.func (.func 198) #[] #[]] 29 (0,0))) :
  Calls prog 203 #[.string (qd l),.pointer (some ⟨B,0,none⟩)] w fun e w'=>e=.returned (.bool (!locB l))∧QE w.heap.size w w':=by
 have c0:=qc 0 hB rfl;have C:=qb (fun w=>qxd l w (by omega))
 go_enter Tryz.func203,Tryz.ntmps203
 (go_wp2_with fail);refine(C.out _).mono ?_;rintro e w1 ⟨rfl,b1⟩;(go_wp2_with fail);go_ret
 exact⟨rfl,b1⟩
theorem qbhf (v:Value) (ts:List QB) (B:Nat) (w:World) (hv:qx w v ts) (hs:ts.length≤1048576∧∀ t∈ts,t.length≤1048576) (hB:w.heap[B]? = some (.cells #[.func (.func 198) #[] #[]] 29 (0,0))) :
  Calls prog 204 #[v,.func (.func 203) #[] #[.pointer (some ⟨B,0,none⟩)]] w fun e w'=>(∃ i:Int,e=.returned (.int .i64 i)∧decide (0≤i)=!ts.all locB)∧QE w.heap.size w w':=by
 obtain⟨a1,c1,rfl,_⟩:=id hv;have HV:=qb hv;have HS:=qb hs;have ls:=hs.1;have HB:=qb hB;clear hv hs hB;go_enter Tryz.func204,Tryz.ntmps204
 (go_wp2_with fail);go_loopw [8] (fun i wr=>∃ k:Nat,k≤ts.length∧i=.int .i64 k∧Hid (ts.all locB=(ts.drop k).all locB)∧QE w.heap.size w wr) (fun i _=>ts.length-(intOf i).toNat)
 case atStart=>exact⟨0,by omega,rfl,by simp[Hid],qbtn _ _⟩
 case round=>
  obtain⟨k,hk,rfl,HR,bW⟩:=hrel;have hv1:=HV.out.below bW
  by_cases h1:k<ts.length
  ·have hlt':(k:Int)<(ts.length:Int):=by omega
   obtain⟨b1,o1,rfl,hc1⟩:=hv1.some (by omega)
   have p1:=hc1 k h1;clear hc1;have C:=fun w h=>qbql ts[k] B w (by have:=HS.out.2 _ (List.getElem_mem h1);omega) h
   have hX:(ts.drop k).all locB=(locB ts[k]&&(ts.drop (k+1)).all locB):=by rw[List.drop_eq_getElem_cons h1,List.all_cons]
   have hBB:=(bW.block _ (Array.getElem?_eq_some_iff.1 HB.out).1).trans HB.out;have C:=C wr hBB;generalize ts[k]=t at *;generalize locB t=b at *;have HC:=qb C;have HX:=qb hX;clear C hX hv1 hBB;cases b
   ·(go_wp2_with fail);refine HC.out.mono ?_;rintro e w2 ⟨rfl,b2⟩;(go_wp2_with fail);go_ret
    exact⟨⟨_,rfl,by rw[HR.out,HX.out];simp⟩,bW.trans (b2.mono bW.size)⟩
   ·(go_wp2_with fail);refine HC.out.mono ?_;rintro e w2 ⟨rfl,b2⟩;(go_wp2_with fail);go_roundw
    case rel=>exact⟨k+1,by omega,by go_num,by rw[HR.out,HX.out];simp[Hid],bW.trans (b2.mono bW.size)⟩
    case measure=>simp[intOf];omega
  ·have hlt':¬ (k:Int)<(ts.length:Int):=by omega
   (go_wp2_with fail);go_ret
   exact⟨⟨_,rfl,by rw[HR.out,List.drop_eq_nil_of_le (by omega)];rfl⟩,bW⟩
theorem qmz (v:Value) (ts:List QB) (w:World) (hv:qx w v ts) (hs:ts.length≤1048576∧∀ t∈ts,t.length≤1048576) :
  Calls prog 196 #[v,.func (.func 198) #[] #[]] w fun e w'=>e=.returned (.bool (ts.all locB))∧QE w.heap.size w w':=by
 obtain ⟨a1,c1,rfl,_⟩:=id hv;have bb:=(qbtn _ w).alloc (Nat.le_refl _) (.cells #[.func (.func 198) #[] #[]] 29);have IX:=qbhf _ ts w.heap.size _ (hv.below bb) hs (World.alloc_heap_new w _);have CF:Hid (Calls prog 202 #[.slice a1 ts.length c1,.func (.func 203) #[] #[.pointer (some ⟨w.heap.size,0,none⟩)]] (w.alloc (.cells #[.func (.func 198) #[] #[]] 29)) fun e w'=>e=.returned (.bool (!ts.all locB))∧QE (w.alloc (.cells #[.func (.func 198) #[] #[]] 29)).heap.size (w.alloc (.cells #[.func (.func 198) #[] #[]] 29)) w'):=by
  have IX:=qb IX;generalize ts.all locB=b at *;show Calls _ _ _ _ _;go_enter Tryz.func202,Tryz.ntmps202
  (go_wp2_with fail);refine IX.out.mono ?_;rintro e w1 ⟨⟨i,rfl,hi⟩,b1⟩;(go_wp2_with fail);go_ret
  exact⟨qcb (by first|rfl|exact hi),b1⟩
 clear IX;generalize ts.all locB=b at *;go_enter Tryz.func196,Tryz.ntmps196
 (go_wp2_with fail);refine CF.out.mono ?_;rintro e w1 ⟨rfl,b1⟩;(go_wp2_with fail);go_ret
 exact⟨qcb (by simp),bb.trans (b1.mono bb.size)⟩
theorem trim_of {t:QB} (h:qbg t=true):t≠[]∧qn 1 t=t.length∧qp t=t∧qbt t=t:=by
 unfold qbg digB at h;simp only[Bool.and_eq_true,beq_iff_eq,Bool.not_eq_true',List.isEmpty_eq_false_iff]at h;refine⟨h.1.1,h.1.2,h.2,?_⟩;unfold qbt;split
 ·exact h.2
 ·rfl
def q4 (e:QB):Nat:=stP e 0 qbp
def q5 (e:QB):Nat:=posP e (q4 e)
def q6 (e:QB):Nat:=stP e (q5 e) qbk
def q7 (e:QB):Nat:=qmj e (q6 e) [43]
def qloc (e:QB):List (Nat×Nat):=qbf e 5 [45,95,46] (q7 e)
def q8 (e:QB):Nat:=qfk (q7 e) (qloc e)
theorem qbbp:∀ t:QB,qn 1 t=t.length→∀ c∈t,isC (c.toNat:Int) 1=true
 | [],_,c,h=>by cases h
 | d::t,h,c,hc=>by
  have hd:isC (d.toNat:Int) 1=true:=by
   cases hh:isC (d.toNat:Int) 1
   ·rw[qn,hh]at h;simp at h
   ·rfl
  rw[qn,if_pos hd]at h;rcases List.mem_cons.1 hc with rfl|hc
  ·exact hd
  ·exact qbbp t (by simpa using h) c hc
theorem dig_low {c:UInt8} (h:isC (c.toNat:Int) 1=true):lowC c=c:=by
 unfold lowC;rw[if_neg];intro h3;simp only[isC]at h h3;simp at h h3;omega
set_option maxHeartbeats 2000000
set_option maxRecDepth 100000
structure TB (w:World) (x:PepL) (r1 q1:Option Addr) (c1 d1:Nat) (W:World):Prop where
 bel:Below w.heap.size w W
 ea:W.heap[w.heap.size]? = some (.cells #[.string (qd x.ep),.slice r1 x.rel.length c1,.int .u8 x.c,.string (qd x.n),.bool x.b,.string (qd x.m),.bool x.d,.string (qd x.k),.slice q1 x.loc.length d1] 44 (0,0))
 rr:qx W (.slice r1 x.rel.length c1) x.rel
 ll:qx W (.slice q1 x.loc.length d1) x.loc
theorem TB.next {w W W':World} {x:PepL} {r1 q1:Option Addr} {c1 d1:Nat} (h:TB w x r1 q1 c1 d1 W) (hb:Below W.heap.size W W'):TB w x r1 q1 c1 d1 W':=
 ⟨h.bel.trans (hb.mono h.bel.size),(hb.block _ (Array.getElem?_eq_some_iff.1 h.ea).1).trans h.ea,h.rr.below hb,h.ll.below hb⟩
theorem TB.seen {w W:World} {x:PepL} {r1 q1:Option Addr} {c1 d1:Nat} (h:TB w x r1 q1 c1 d1 W):W.cell? ⟨w.heap.size,0,none⟩=some (.string (qd x.ep))∧W.cell? ⟨w.heap.size,1,none⟩=some (.slice r1 x.rel.length c1)∧W.cell? ⟨w.heap.size,2,none⟩=some (.int .u8 x.c)∧W.cell? ⟨w.heap.size,3,none⟩=some (.string (qd x.n))∧W.cell? ⟨w.heap.size,4,none⟩=some (.bool x.b)∧W.cell? ⟨w.heap.size,5,none⟩=some (.string (qd x.m))∧W.cell? ⟨w.heap.size,6,none⟩=some (.bool x.d)∧W.cell? ⟨w.heap.size,7,none⟩=some (.string (qd x.k))∧W.cell? ⟨w.heap.size,8,none⟩=some (.slice q1 x.loc.length d1):=
 ⟨qc 0 h.ea rfl,qc 1 h.ea rfl,qc 2 h.ea rfl,qc 3 h.ea rfl,qc 4 h.ea rfl,qc 5 h.ea rfl,qc 6 h.ea rfl,qc 7 h.ea rfl,qc 8 h.ea rfl⟩
theorem TB.start {w:World} {x:PepL} {r1 q1:Option Addr} {c1 d1:Nat} (rr:qx w (.slice r1 x.rel.length c1) x.rel) (ll:qx w (.slice q1 x.loc.length d1) x.loc):TB w x r1 q1 c1 d1 (w.alloc (.cells #[.string (qd x.ep),.slice r1 x.rel.length c1,.int .u8 x.c,.string (qd x.n),.bool x.b,.string (qd x.m),.bool x.d,.string (qd x.k),.slice q1 x.loc.length d1] 44)):=by
 have bb:Below w.heap.size w (w.alloc (.cells #[.string (qd x.ep),.slice r1 x.rel.length c1,.int .u8 x.c,.string (qd x.n),.bool x.b,.string (qd x.m),.bool x.d,.string (qd x.k),.slice q1 x.loc.length d1] 44)):=(Below.refl _ w).alloc (Nat.le_refl _) _;exact⟨bb,World.alloc_heap_new w _,rr.below bb,ll.below bb⟩
def letB (c:Int):Bool:=c==0||c==97||c==98||c==114
structure FitT (x:PepL):Prop where
 f1:qbg x.ep=true
 f2:x.rel≠[]
 f3:x.rel.all qbg=true
 f4:x.c=0∨x.c=97∨x.c=98∨x.c=114
 f5:numB x.n (x.c != 0)=true
 f6:numB x.m x.b=true
 f7:numB x.k x.d=true
 f8:x.loc.all locB=true
theorem Fit_0 (x:PepL) (r1 q1:Option Addr) (c1 d1:Nat) (w:World) (rr:qx w (.slice r1 x.rel.length c1) x.rel) (ll:qx w (.slice q1 x.loc.length d1) x.loc) (hx:SmallP x) (hf:FitT x) (hc:x.c=0) :
  Calls Tryz.prog 186 #[.agg #[.string (qd x.ep),.slice r1 x.rel.length c1,.int .u8 x.c,.string (qd x.n),.bool x.b,.string (qd x.m),.bool x.d,.string (qd x.k),.slice q1 x.loc.length d1]] w fun e w'=>e=.returned (.bool true)∧Below w.heap.size w w':=by
 have C1:=fun w=>qfl x.ep w (by have:=hx.e;omega)
 rw[hf.f1]at C1;have C2:=fun w h=>qnd (.slice r1 x.rel.length c1) x.rel w h hx.r;rw[hf.f3]at C2;have C3:=fun w=>qbz x.n false w (by have:=hx.n;omega)
 have f5:=hf.f5;rw[hc,show((0:Int) != 0)=false from rfl]at f5;rw[f5]at C3;have C4:=fun w=>qbz x.m x.b w (by have:=hx.m;omega)
 rw[hf.f6]at C4;have C5:=fun w=>qbz x.k x.d w (by have:=hx.k;omega)
 rw[hf.f7]at C5;have C6:=fun w h=>qmz (.slice q1 x.loc.length d1) x.loc w h hx.l;rw[hf.f8]at C6;have S0:=TB.start rr ll;have hp:0<x.rel.length:=List.length_pos_iff.2 hf.f2;have hp':(0:Int)<(x.rel.length:Int):=by omega
 have C1:=qb C1;have C2:=qb C2;have C3:=qb C3;have C4:=qb C4;have C5:=qb C5;have C6:=qb C6;have HC:=qb hc;clear hf rr ll f5 hc;obtain⟨s0,s1,s2,s3,s4,s5,s6,s7,s8⟩:=S0.seen;have sb:=S0.bel;go_enter Tryz.func186,Tryz.ntmps186
 (go_wp2_with fail);generalize hW0:w.alloc (.cells #[.string (qd x.ep),.slice r1 x.rel.length c1,.int .u8 x.c,.string (qd x.n),.bool x.b,.string (qd x.m),.bool x.d,.string (qd x.k),.slice q1 x.loc.length d1] 44)=W0 at *;refine(C1.out _).mono ?_;rintro e w' ⟨rfl,hw'⟩;rw[hw'];clear hw' w';(go_wp2_with fail);refine(C2.out _ S0.rr).mono ?_;rintro e w2 ⟨rfl,b2⟩;have S2:=S0.next b2;obtain⟨t0,t1,t2,t3,t4,t5,t6,t7,t8⟩:=S2.seen;rw[HC.out]at t2;(go_wp2_with fail);refine(C3.out _).mono ?_;rintro e w' ⟨rfl,hw'⟩;rw[hw'];clear hw' w';(go_wp2_with fail);refine(C4.out _).mono ?_;rintro e w' ⟨rfl,hw'⟩;rw[hw'];clear hw' w';(go_wp2_with fail);refine(C5.out _).mono ?_;rintro e w' ⟨rfl,hw'⟩;rw[hw'];clear hw' w';(go_wp2_with fail);refine(C6.out _ S2.ll).mono ?_;rintro e w3 ⟨rfl,b3⟩;(go_wp2_with fail);go_ret
 exact⟨rfl,S2.bel.trans (b3.mono S2.bel.size)⟩
theorem Fit_97 (x:PepL) (r1 q1:Option Addr) (c1 d1:Nat) (w:World) (rr:qx w (.slice r1 x.rel.length c1) x.rel) (ll:qx w (.slice q1 x.loc.length d1) x.loc) (hx:SmallP x) (hf:FitT x) (hc:x.c=97) :
  Calls Tryz.prog 186 #[.agg #[.string (qd x.ep),.slice r1 x.rel.length c1,.int .u8 x.c,.string (qd x.n),.bool x.b,.string (qd x.m),.bool x.d,.string (qd x.k),.slice q1 x.loc.length d1]] w fun e w'=>e=.returned (.bool true)∧Below w.heap.size w w':=by
 have C1:=fun w=>qfl x.ep w (by have:=hx.e;omega)
 rw[hf.f1]at C1;have C2:=fun w h=>qnd (.slice r1 x.rel.length c1) x.rel w h hx.r;rw[hf.f3]at C2;have C3:=fun w=>qbz x.n true w (by have:=hx.n;omega)
 have f5:=hf.f5;rw[hc,show((97:Int) != 0)=true from rfl]at f5;rw[f5]at C3;have C4:=fun w=>qbz x.m x.b w (by have:=hx.m;omega)
 rw[hf.f6]at C4;have C5:=fun w=>qbz x.k x.d w (by have:=hx.k;omega)
 rw[hf.f7]at C5;have C6:=fun w h=>qmz (.slice q1 x.loc.length d1) x.loc w h hx.l;rw[hf.f8]at C6;have S0:=TB.start rr ll;have hp:0<x.rel.length:=List.length_pos_iff.2 hf.f2;have hp':(0:Int)<(x.rel.length:Int):=by omega
 have C1:=qb C1;have C2:=qb C2;have C3:=qb C3;have C4:=qb C4;have C5:=qb C5;have C6:=qb C6;have HC:=qb hc;clear hf rr ll f5 hc;obtain⟨s0,s1,s2,s3,s4,s5,s6,s7,s8⟩:=S0.seen;have sb:=S0.bel;go_enter Tryz.func186,Tryz.ntmps186
 (go_wp2_with fail);generalize hW0:w.alloc (.cells #[.string (qd x.ep),.slice r1 x.rel.length c1,.int .u8 x.c,.string (qd x.n),.bool x.b,.string (qd x.m),.bool x.d,.string (qd x.k),.slice q1 x.loc.length d1] 44)=W0 at *;refine(C1.out _).mono ?_;rintro e w' ⟨rfl,hw'⟩;rw[hw'];clear hw' w';(go_wp2_with fail);refine(C2.out _ S0.rr).mono ?_;rintro e w2 ⟨rfl,b2⟩;have S2:=S0.next b2;obtain⟨t0,t1,t2,t3,t4,t5,t6,t7,t8⟩:=S2.seen;rw[HC.out]at t2;(go_wp2_with fail);refine(C3.out _).mono ?_;rintro e w' ⟨rfl,hw'⟩;rw[hw'];clear hw' w';(go_wp2_with fail);refine(C4.out _).mono ?_;rintro e w' ⟨rfl,hw'⟩;rw[hw'];clear hw' w';(go_wp2_with fail);refine(C5.out _).mono ?_;rintro e w' ⟨rfl,hw'⟩;rw[hw'];clear hw' w';(go_wp2_with fail);refine(C6.out _ S2.ll).mono ?_;rintro e w3 ⟨rfl,b3⟩;(go_wp2_with fail);go_ret
 exact⟨rfl,S2.bel.trans (b3.mono S2.bel.size)⟩
theorem Fit_98 (x:PepL) (r1 q1:Option Addr) (c1 d1:Nat) (w:World) (rr:qx w (.slice r1 x.rel.length c1) x.rel) (ll:qx w (.slice q1 x.loc.length d1) x.loc) (hx:SmallP x) (hf:FitT x) (hc:x.c=98) :
  Calls Tryz.prog 186 #[.agg #[.string (qd x.ep),.slice r1 x.rel.length c1,.int .u8 x.c,.string (qd x.n),.bool x.b,.string (qd x.m),.bool x.d,.string (qd x.k),.slice q1 x.loc.length d1]] w fun e w'=>e=.returned (.bool true)∧Below w.heap.size w w':=by
 have C1:=fun w=>qfl x.ep w (by have:=hx.e;omega)
 rw[hf.f1]at C1;have C2:=fun w h=>qnd (.slice r1 x.rel.length c1) x.rel w h hx.r;rw[hf.f3]at C2;have C3:=fun w=>qbz x.n true w (by have:=hx.n;omega)
 have f5:=hf.f5;rw[hc,show((98:Int) != 0)=true from rfl]at f5;rw[f5]at C3;have C4:=fun w=>qbz x.m x.b w (by have:=hx.m;omega)
 rw[hf.f6]at C4;have C5:=fun w=>qbz x.k x.d w (by have:=hx.k;omega)
 rw[hf.f7]at C5;have C6:=fun w h=>qmz (.slice q1 x.loc.length d1) x.loc w h hx.l;rw[hf.f8]at C6;have S0:=TB.start rr ll;have hp:0<x.rel.length:=List.length_pos_iff.2 hf.f2;have hp':(0:Int)<(x.rel.length:Int):=by omega
 have C1:=qb C1;have C2:=qb C2;have C3:=qb C3;have C4:=qb C4;have C5:=qb C5;have C6:=qb C6;have HC:=qb hc;clear hf rr ll f5 hc;obtain⟨s0,s1,s2,s3,s4,s5,s6,s7,s8⟩:=S0.seen;have sb:=S0.bel;go_enter Tryz.func186,Tryz.ntmps186
 (go_wp2_with fail);generalize hW0:w.alloc (.cells #[.string (qd x.ep),.slice r1 x.rel.length c1,.int .u8 x.c,.string (qd x.n),.bool x.b,.string (qd x.m),.bool x.d,.string (qd x.k),.slice q1 x.loc.length d1] 44)=W0 at *;refine(C1.out _).mono ?_;rintro e w' ⟨rfl,hw'⟩;rw[hw'];clear hw' w';(go_wp2_with fail);refine(C2.out _ S0.rr).mono ?_;rintro e w2 ⟨rfl,b2⟩;have S2:=S0.next b2;obtain⟨t0,t1,t2,t3,t4,t5,t6,t7,t8⟩:=S2.seen;rw[HC.out]at t2;(go_wp2_with fail);refine(C3.out _).mono ?_;rintro e w' ⟨rfl,hw'⟩;rw[hw'];clear hw' w';(go_wp2_with fail);refine(C4.out _).mono ?_;rintro e w' ⟨rfl,hw'⟩;rw[hw'];clear hw' w';(go_wp2_with fail);refine(C5.out _).mono ?_;rintro e w' ⟨rfl,hw'⟩;rw[hw'];clear hw' w';(go_wp2_with fail);refine(C6.out _ S2.ll).mono ?_;rintro e w3 ⟨rfl,b3⟩;(go_wp2_with fail);go_ret
 exact⟨rfl,S2.bel.trans (b3.mono S2.bel.size)⟩
theorem Fit_114 (x:PepL) (r1 q1:Option Addr) (c1 d1:Nat) (w:World) (rr:qx w (.slice r1 x.rel.length c1) x.rel) (ll:qx w (.slice q1 x.loc.length d1) x.loc) (hx:SmallP x) (hf:FitT x) (hc:x.c=114) :
  Calls Tryz.prog 186 #[.agg #[.string (qd x.ep),.slice r1 x.rel.length c1,.int .u8 x.c,.string (qd x.n),.bool x.b,.string (qd x.m),.bool x.d,.string (qd x.k),.slice q1 x.loc.length d1]] w fun e w'=>e=.returned (.bool true)∧Below w.heap.size w w':=by
 have C1:=fun w=>qfl x.ep w (by have:=hx.e;omega)
 rw[hf.f1]at C1;have C2:=fun w h=>qnd (.slice r1 x.rel.length c1) x.rel w h hx.r;rw[hf.f3]at C2;have C3:=fun w=>qbz x.n true w (by have:=hx.n;omega)
 have f5:=hf.f5;rw[hc,show((114:Int) != 0)=true from rfl]at f5;rw[f5]at C3;have C4:=fun w=>qbz x.m x.b w (by have:=hx.m;omega)
 rw[hf.f6]at C4;have C5:=fun w=>qbz x.k x.d w (by have:=hx.k;omega)
 rw[hf.f7]at C5;have C6:=fun w h=>qmz (.slice q1 x.loc.length d1) x.loc w h hx.l;rw[hf.f8]at C6;have S0:=TB.start rr ll;have hp:0<x.rel.length:=List.length_pos_iff.2 hf.f2;have hp':(0:Int)<(x.rel.length:Int):=by omega
 have C1:=qb C1;have C2:=qb C2;have C3:=qb C3;have C4:=qb C4;have C5:=qb C5;have C6:=qb C6;have HC:=qb hc;clear hf rr ll f5 hc;obtain⟨s0,s1,s2,s3,s4,s5,s6,s7,s8⟩:=S0.seen;have sb:=S0.bel;go_enter Tryz.func186,Tryz.ntmps186
 (go_wp2_with fail);generalize hW0:w.alloc (.cells #[.string (qd x.ep),.slice r1 x.rel.length c1,.int .u8 x.c,.string (qd x.n),.bool x.b,.string (qd x.m),.bool x.d,.string (qd x.k),.slice q1 x.loc.length d1] 44)=W0 at *;refine(C1.out _).mono ?_;rintro e w' ⟨rfl,hw'⟩;rw[hw'];clear hw' w';(go_wp2_with fail);refine(C2.out _ S0.rr).mono ?_;rintro e w2 ⟨rfl,b2⟩;have S2:=S0.next b2;obtain⟨t0,t1,t2,t3,t4,t5,t6,t7,t8⟩:=S2.seen;rw[HC.out]at t2;(go_wp2_with fail);refine(C3.out _).mono ?_;rintro e w' ⟨rfl,hw'⟩;rw[hw'];clear hw' w';(go_wp2_with fail);refine(C4.out _).mono ?_;rintro e w' ⟨rfl,hw'⟩;rw[hw'];clear hw' w';(go_wp2_with fail);refine(C5.out _).mono ?_;rintro e w' ⟨rfl,hw'⟩;rw[hw'];clear hw' w';(go_wp2_with fail);refine(C6.out _ S2.ll).mono ?_;rintro e w3 ⟨rfl,b3⟩;(go_wp2_with fail);go_ret
 exact⟨rfl,S2.bel.trans (b3.mono S2.bel.size)⟩
theorem qbgd (x:PepL) (r1 q1:Option Addr) (c1 d1:Nat) (w:World) (rr:qx w (.slice r1 x.rel.length c1) x.rel) (ll:qx w (.slice q1 x.loc.length d1) x.loc) (hx:SmallP x) (hf:FitT x) :
  Calls Tryz.prog 186 #[.agg #[.string (qd x.ep),.slice r1 x.rel.length c1,.int .u8 x.c,.string (qd x.n),.bool x.b,.string (qd x.m),.bool x.d,.string (qd x.k),.slice q1 x.loc.length d1]] w fun e w'=>e=.returned (.bool true)∧Below w.heap.size w w':=by
 rcases hf.f4 with hc|hc|hc|hc
 ·exact Fit_0 x r1 q1 c1 d1 w rr ll hx hf hc
 ·exact Fit_97 x r1 q1 c1 d1 w rr ll hx hf hc
 ·exact Fit_98 x r1 q1 c1 d1 w rr ll hx hf hc
 ·exact Fit_114 x r1 q1 c1 d1 w rr ll hx hf hc
set_option maxHeartbeats 1000000
set_option maxRecDepth 100000
theorem run0 (l:QB) (k:Int):runI (qd l).data.toList 0 k=(qn k l:Int):=by
 have:=qdl (qd l) 0 k (by omega)
 rw[qj]at this ⊢;simpa using this
theorem qcr (l:QB) (w:World) (hl:l.length≤140737488351232) :
  Calls Tryz.prog 97 #[.string (qd l)] w fun e w'=>e=.returned (.bool (qbg l))∧w'=w:=by
 have q:=qr l;have R:=fun w=>qgx (qd l) 0 1 w (by rw[qr];unfold maxLen;omega)
 rw[run0]at R;have TR:=fun w=>qjq (qd l) w (by rw[qr];unfold maxLen;omega)
 rw[qj]at TR;have HB:Hid (qbg l=(!l.isEmpty&&(qn 1 l==l.length)&&(qp l==l))):=rfl;have R:=qb R;have TR:=qb TR;generalize qbg l=B at *
 by_cases h0:l=[]
 ·have e0:((qd l).toList==[])=true:=by rw[toL,qj,h0];rfl
  have HO:Hid (B=false):=by show _=_;rw[HB.out,h0];rfl
  clear h0;go_enter Tryz.func97,Tryz.ntmps97
  (go_wp2_with fail);go_ret
  exact⟨qcb HO.out.symm,rfl⟩
 ·have e0:((qd l).toList==[])=false:=by rw[toL,qj];simpa using h0
  have h0':l.isEmpty=false:=by simpa using h0
  by_cases h1:qn 1 l=l.length
  ·have e1:((qn 1 l:Int)==(l.length:Int))=true:=by simp;omega
   have HO:Hid (B=(qp l==l)):=by show _=_;rw[HB.out,h0',h1];simp
   obtain⟨z,hz⟩:∃ z,(qp l==l)=z:=⟨_,rfl⟩;have e3:=eqLs _ _ _ hz;rw[hz]at HO;clear h0 h1 h0' hz;go_enter Tryz.func97,Tryz.ntmps97
   (go_wp2_with fail);refine(R.out _).mono ?_;rintro e w' ⟨rfl,rfl⟩;(go_wp2_with fail);refine(TR.out _).mono ?_;rintro e w' ⟨rfl,rfl⟩;(go_wp2_with fail);go_ret
   exact⟨qcb HO.out.symm,rfl⟩
  ·have e1:((qn 1 l:Int)==(l.length:Int))=false:=by simp;omega
   have HO:Hid (B=false):=by show _=_;rw[HB.out];simp[h1]
   clear h0 h1 h0';go_enter Tryz.func97,Tryz.ntmps97
   (go_wp2_with fail);refine(R.out _).mono ?_;rintro e w' ⟨rfl,rfl⟩;(go_wp2_with fail);go_ret
   exact⟨qcb HO.out.symm,rfl⟩
theorem qcz (l:QB) (b:Bool) (w:World) (hl:l.length≤140737488351232) :
  Calls Tryz.prog 99 #[.bool b,.string (qd l)] w fun e w'=>e=.returned (.bool (numB l b))∧w'=w:=by
 cases b
 ·have HO:Hid ((qd l).toList.isEmpty=numB l false):=by show _=_;rw[toL,qj];cases l<;>rfl
  go_enter Tryz.func99,Tryz.ntmps99
  (go_wp2_with fail);go_ret
  exact⟨qcb HO.out,rfl⟩
 ·have HO:Hid (numB l true=qbg l):=rfl;have C:=qb (fun w=>qcr l w hl);go_enter Tryz.func99,Tryz.ntmps99
  (go_wp2_with fail);refine(C.out _).mono ?_;rintro e w' ⟨rfl,rfl⟩;(go_wp2_with fail);go_ret
  exact⟨qcb HO.out.symm,rfl⟩
theorem qbrl (l:QB) (h:l≠[]):(qbt l==l)=(decide (qn 1 l≠l.length)||(qp l==l)):=by
 have h0':l.isEmpty=false:=by simpa using h
 unfold qbt digB;rw[h0']
 by_cases h1:qn 1 l=l.length
 ·simp[h1]
 ·simp[h1]
theorem qnj (l:QB) (w:World) (hl:l.length≤140737488351232) :
  Calls Tryz.prog 98 #[.string (qd l)] w fun e w'=>e=.returned (.bool (locB l))∧Below w.heap.size w w':=by
 have q:=qr l;have R:=fun w=>qgx (qd l) 0 5 w (by rw[qr];unfold maxLen;omega)
 have R1:=fun w=>qgx (qd l) 0 1 w (by rw[qr];unfold maxLen;omega)
 rw[run0]at R R1;have TR:=fun w=>qjq (qd l) w (by rw[qr];unfold maxLen;omega)
 have L:=fun w=>qlk (qd l) w (by rw[qr];unfold maxLen;omega)
 rw[qj]at TR L
 change ∀ w,Calls Tryz.prog 38 _ w fun e w'=>e=.returned (.string (qd (qk l)))∧Below w.heap.size w w' at L
 have HB:Hid (locB l=(!l.isEmpty&&(qn 5 l==l.length)&&(qk l==l)&&(qbt l==l))):=rfl;have R:=qb R;have R1:=qb R1;have L:=qb L;have TR:=qb TR;generalize locB l=B at *
 by_cases h0:l=[]
 ·have e0:((qd l).toList==[])=true:=by rw[toL,qj,h0];rfl
  have HO:Hid (B=false):=by show _=_;rw[HB.out,h0];rfl
  clear h0;go_enter Tryz.func98,Tryz.ntmps98
  (go_wp2_with fail);go_ret
  exact⟨qcb HO.out.symm,Below.refl _ _⟩
 ·have e0:((qd l).toList==[])=false:=by rw[toL,qj];simpa using h0
  have h0':l.isEmpty=false:=by simpa using h0
  have HP:=qbrl l h0
  by_cases h1:qn 5 l=l.length
  ·have e1:((qn 5 l:Int) != (l.length:Int))=false:=by simp;omega
   cases h2:(qk l==l)
   ·have e2:=eqLs _ _ _ h2;have HO:Hid (B=false):=by show _=_;rw[HB.out,h2];simp
    clear h0 h1 h2 h0' HP;go_enter Tryz.func98,Tryz.ntmps98
    (go_wp2_with fail);refine(R.out _).mono ?_;rintro e w' ⟨rfl,rfl⟩;(go_wp2_with fail);refine(L.out _).mono ?_;rintro e w1 ⟨rfl,b1⟩;(go_wp2_with fail);go_ret
    exact⟨qcb HO.out.symm,b1⟩
   ·have e2:=eqLs _ _ _ h2;have HO1:Hid (B=(qbt l==l)):=by show _=_;rw[HB.out,h2,h0',h1];simp
    by_cases h3:qn 1 l=l.length
    ·have e3:((qn 1 l:Int) != (l.length:Int))=false:=by simp;omega
     obtain⟨z,hz⟩:∃ z,(qp l==l)=z:=⟨_,rfl⟩;have e4:=eqLs _ _ _ hz;have HO:Hid (B=z):=by show _=_;rw[HO1.out,HP,hz,h3];simp
     clear h0 h1 h2 h0' hz h3 HP HO1;go_enter Tryz.func98,Tryz.ntmps98
     (go_wp2_with fail);refine(R.out _).mono ?_;rintro e w' ⟨rfl,rfl⟩;(go_wp2_with fail);refine(L.out _).mono ?_;rintro e w1 ⟨rfl,b1⟩;(go_wp2_with fail);refine(R1.out _).mono ?_;rintro e w' ⟨rfl,rfl⟩;(go_wp2_with fail);refine(TR.out _).mono ?_;rintro e w' ⟨rfl,rfl⟩;(go_wp2_with fail);go_ret
     exact⟨qcb HO.out.symm,b1⟩
    ·have e3:((qn 1 l:Int) != (l.length:Int))=true:=by simp;omega
     have HO:Hid (B=true):=by show _=_;rw[HO1.out,HP];simp[h3]
     clear h0 h1 h2 h0' h3 HP HO1;go_enter Tryz.func98,Tryz.ntmps98
     (go_wp2_with fail);refine(R.out _).mono ?_;rintro e w' ⟨rfl,rfl⟩;(go_wp2_with fail);refine(L.out _).mono ?_;rintro e w1 ⟨rfl,b1⟩;(go_wp2_with fail);refine(R1.out _).mono ?_;rintro e w' ⟨rfl,rfl⟩;(go_wp2_with fail);go_ret
     exact⟨qcb HO.out.symm,b1⟩
  ·have e1:((qn 5 l:Int) != (l.length:Int))=true:=by simp;omega
   have HO:Hid (B=false):=by show _=_;rw[HB.out];simp[h1]
   clear h0 h1 h0' HP;go_enter Tryz.func98,Tryz.ntmps98
   (go_wp2_with fail);refine(R.out _).mono ?_;rintro e w' ⟨rfl,rfl⟩;(go_wp2_with fail);go_ret
   exact⟨qcb HO.out.symm,Below.refl _ _⟩
end Go.Proofs.YtabmfdedbpmfmaaGreat
