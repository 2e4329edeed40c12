/- Walks: the document's word. -/
import Derived.Test.YtabmfdedbpmfmaaGreatVPa
import Derived.Test.YtabmfdedbpmfmaaGreatVHf
import Derived.Test.YtabmfdedbpmfmaaGreatVGj
import Derived.Deep.Cut
import Derived.Test.YtabmfdedbpmfmaaGreatVXa
import Derived.Test.YtabmfdedbpmfmaaGreatVYc
import Derived.Test.YtabmfdedbpmfmaaGreatVHl
namespace Go.Proofs.YtabmfdedbpmfmaaGreat
open Go.RowKit Go.Shelf
set_option linter.unusedVariables false
set_option maxHeartbeats 2000000
set_option maxRecDepth 100000
theorem blk_is (c:Int):isC c 6=(c==32||c==9):=by
 unfold isC;rw[if_neg (by decide),if_neg (by decide),if_neg (by decide),if_neg (by decide),if_neg (by decide),if_pos rfl]
 by_cases h1:c=32
 ·subst h1;rfl
 ·by_cases h2:c=9
  ·subst h2;rfl
  ·rw[decide_eq_false h1,decide_eq_false h2,beq_eq_false_iff_ne.2 h1,beq_eq_false_iff_ne.2 h2]
theorem qwh (c:Int) (w:World):Calls Tryz.prog 64 #[.int .u8 c] w fun e w'=>e=.returned (.bool (isC c 6))∧w'=w:=by
 rw[blk_is];cases h1:(c==32)
 ·go_enter Tryz.func64,Tryz.ntmps64
  (go_wp2_with fail);go_ret
  exact⟨rfl,rfl⟩
 ·go_enter Tryz.func64,Tryz.ntmps64
  (go_wp2_with fail);go_ret
  exact⟨rfl,rfl⟩
theorem qrn (s:QY) (a:Nat) (w:World) (hs:s.size≤256) (ha:a≤s.size):Calls Tryz.prog 62 #[.string s,.int .i64 (a:Int)] w fun e w'=>e=.returned (.int .i64 (skL s.data.toList a:Int))∧w'=w:=by
 have hk:skL s.data.toList a=a+qn 6 (s.data.toList.drop a):=rfl;generalize skL s.data.toList a=z at *;have HK:=qb hk;clear hk;go_enter Tryz.func62,Tryz.ntmps62
 (go_wp2_with fail);go_loopw [1] (fun y wr=>∃ i:Nat,i≤s.size∧y=.int .i64 i∧Hid (z=i+qn 6 (s.data.toList.drop i))∧wr=w) (fun y _=>s.size-(intOf y).toNat)
 case atStart=>exact⟨a,ha,rfl,HK,rfl⟩
 case round=>
  obtain⟨i,hi,rfl,HZ,rfl⟩:=hrel
  by_cases hlt:i<s.size
  ·have hlt':(i:Int)<(s.size:Int):=by omega
   have B0:=fun W=>qwh (s[i].toNat:Int) W;cases hc:isC (s[i].toNat:Int) 6
   ·rw[hc]at B0;have B0:=qb B0;have HZ2:Hid (z=i):=qb (by rw[HZ.out,qrl 6 s i hlt hc,Nat.add_zero])
    clear hc;go_wp2_with (go_at_call 64;refine(B0.out _).mono ?_;rintro e w9 ⟨rfl,rfl⟩)
    go_ret
    exact⟨by rw[HZ2.out];rfl,rfl⟩
   ·rw[hc]at B0;have B0:=qb B0;have HZ2:Hid (z=i+1+qn 6 (s.data.toList.drop (i+1))):=qb (by rw[HZ.out,qvv 6 s i hlt hc];omega)
    clear hc;go_wp2_with (go_at_call 64;refine(B0.out _).mono ?_;rintro e w9 ⟨rfl,rfl⟩)
    go_roundw
    case rel=>exact⟨i+1,by omega,by go_num,HZ2,by trivial⟩
    case measure=>simp[intOf];omega
  ·have hlt':¬ (i:Int)<(s.size:Int):=by omega
   have HZ2:Hid (z=i):=qb (by rw[HZ.out,qwm 6 s i (by omega),Nat.add_zero])
   (go_wp2_with fail);go_ret
   exact⟨by rw[HZ2.out];rfl,rfl⟩
theorem qfn (s:QY) (w:World) (hs:s.size≤140737488351232) :
  Calls Tryz.prog 90 #[.string s] w fun e w'=>e=.returned (.tuple #[.string (if qcm s.data.toList=true then s.extract 0 (s.size-2) else s),.bool (qcm s.data.toList)])∧w'=w:=by
 generalize hT:(if qcm s.data.toList=true then s.extract 0 (s.size-2) else s)=T;have HT:=qb hT;clear hT
 by_cases h2:2≤s.size
 ·have hE:=qbfl s h2;have h3:(2:Int)≤(s.size:Int):=by omega
  have hsub:((s.size:Int)-2)=((s.size-2:Nat):Int):=by omega
  cases hB:qcm s.data.toList
  ·rw[hB]at hE;have HT2:Hid (T=s):=qb (by rw[←HT.out,hB];rfl)
   clear hB;go_enter Tryz.func90,Tryz.ntmps90
   (go_wp2_with fail);go_ret2
   exact⟨by rw[HT2.out];rfl,rfl⟩
  ·rw[hB]at hE;have HT2:Hid (T=s.extract 0 (s.size-2)):=qb (by rw[←HT.out,hB];rfl)
   clear hB;go_enter Tryz.func90,Tryz.ntmps90
   (go_wp2_with fail);go_ret2
   exact⟨by rw[HT2.out];rfl,rfl⟩
 ·have h3:¬ (2:Int)≤(s.size:Int):=by omega
  have hB:qcm s.data.toList=false:=by unfold qcm;rw[qg,decide_eq_false h2];rfl
  have HT2:Hid (T=s):=qb (by rw[←HT.out,hB];rfl)
  rw[hB];clear hB;go_enter Tryz.func90,Tryz.ntmps90
  (go_wp2_with fail);go_ret2
  exact⟨by rw[HT2.out];rfl,rfl⟩
theorem qnk (x:PepL) (r1 q1:Option Addr) (c1 d1:Nat) (w:World) :
  Calls Tryz.prog 91 #[.agg #[.string (qd x.ep),.slice r1 x.rel.length c1,.int .u8 x.c,.string (qd x.n),.bool x.b,.string (qd x.m),.bool x.d,.string (qd x.k),.slice q1 x.loc.length d1]] w fun e w'=>e=.returned (.bool (qff x))∧Below w.heap.size w w':=by
 have h0:=qcs x.loc;have hBB:qff x=((x.c==0)&&!x.b&&!x.d&&x.loc.isEmpty):=by
  unfold qff pubB;cases x.loc.isEmpty<;>cases (x.c==0)<;>cases x.b<;>cases x.d<;>rfl
 rw[hBB];clear hBB;generalize x.loc.isEmpty=le at *;have n0:=World.alloc_heap_new w (.cells #[.string (qd x.ep),.slice r1 x.rel.length c1,.int .u8 x.c,.string (qd x.n),.bool x.b,.string (qd x.m),.bool x.d,.string (qd x.k),.slice q1 x.loc.length d1] 44);have hb:Below w.heap.size w (w.alloc (.cells #[.string (qd x.ep),.slice r1 x.rel.length c1,.int .u8 x.c,.string (qd x.n),.bool x.b,.string (qd x.m),.bool x.d,.string (qd x.k),.slice q1 x.loc.length d1] 44)):=(Below.refl _ w).alloc (Nat.le_refl _) _;obtain⟨V,hV⟩:∃ V,w.alloc (.cells #[.string (qd x.ep),.slice r1 x.rel.length c1,.int .u8 x.c,.string (qd x.n),.bool x.b,.string (qd x.m),.bool x.d,.string (qd x.k),.slice q1 x.loc.length d1] 44)=V:=⟨_,rfl⟩;rw[hV]at n0 hb;obtain⟨s0,s1,s2,s3,s4,s5,s6,s7,s8,_⟩:=qbw n0;clear n0;generalize h1:x.b=xb at *;generalize h2:x.d=xd at *;cases hc:(x.c==0)
 ·go_enter Tryz.func91,Tryz.ntmps91
  (go_wp2_with fail);go_ret
  exact⟨rfl,hb⟩
 ·cases xb
  ·cases xd
   ·go_enter Tryz.func91,Tryz.ntmps91
    (go_wp2_with fail);go_ret
    exact⟨rfl,hb⟩
   ·go_enter Tryz.func91,Tryz.ntmps91
    (go_wp2_with fail);go_ret
    exact⟨rfl,hb⟩
  ·go_enter Tryz.func91,Tryz.ntmps91
   (go_wp2_with fail);go_ret
   exact⟨rfl,hb⟩
open Below renaming refl → qbtn
open Nat renaming le_of_lt → qbsx, le_refl → qbtm, le_trans → qbtt, lt_of_lt_of_le → qbtv
open World renaming alloc_heap_new → qbtk
open Go.RowKit renaming Below → QE
set_option maxHeartbeats 4000000
set_option maxRecDepth 100000
theorem qbjw (s:QY) (a:Nat) (w:World) (hs:s.size≤256) (ha:a≤256) (hE:qcm s.data.toList=false) (h:okP s.data.toList=false) :
  Calls Tryz.prog 65 #[.string ⟨#[61,61]⟩,.string s,.int .i64 (a:Int)] w fun e w'=>e=.returned (wdT 1 a (.bad (errX s.data.toList).1 (errX s.data.toList).2))∧QE w.heap.size w w':=by
 have CS:=fun W=>qfn s W (by omega)
 rw[hE]at CS;rw[if_neg (by simp)]at CS
 have CS:=qb CS;clear hE;have P1:=fun w=>qct s w h;have hE2:=qhn s.data.toList;have n1:=qcx _ h;generalize (errX s.data.toList).1=E1 at *;generalize (errX s.data.toList).2=E2 at *;have m1:(E1 != 0)=true:=by rw[bne,n1];rfl
 unfold pepZ at P1;have P1:=qb P1;clear h;have hB:=qbtk w (.cells #[.string ⟨#[]⟩,.string ⟨#[]⟩,.bool false] 32);have hbW:QE w.heap.size w (w.alloc (.cells #[.string ⟨#[]⟩,.string ⟨#[]⟩,.bool false] 32)):=(qbtn _ w).alloc (qbtm _) _;have hlw:w.heap.size<(w.alloc (.cells #[.string ⟨#[]⟩,.string ⟨#[]⟩,.bool false] 32)).heap.size:=by simp
 go_enter Tryz.func65,Tryz.ntmps65
 (go_wp2_with fail);generalize w.alloc _=W0 at *;refine(CS.out _).mono ?_;rintro e w0 ⟨rfl,hw0⟩;rw[hw0];clear hw0 w0;(go_wp2_with fail);refine(P1.out _).mono ?_;rintro e w1 ⟨rfl,b1⟩;obtain⟨V,hV,nP,nF,bV,sV⟩:=qm w1 #[.string ⟨#[]⟩,.slice none 0 0,.int .u8 0,.string ⟨#[]⟩,.bool false,.string ⟨#[]⟩,.bool false,.string ⟨#[]⟩,.slice none 0 0] #[.int .i64 E1,.int .i64 (E2:Int)] 44 25;have HV:=qb hV;obtain⟨u0,u1,_,_⟩:=qv nF;clear hV nP nF;obtain⟨k1,k2⟩:=qbh (w:=w) (.string ⟨#[]⟩) (.string ⟨#[]⟩) (.bool false) ((bV.block _ (qbtv hlw b1.size)).trans ((b1.block _ hlw).trans hB)) ((hbW.trans (b1.mono (qbsx hlw))).trans (bV.mono (qbtt (qbsx hlw) b1.size)));have hVB:V.heap[w.heap.size]? = some (.cells #[.string ⟨#[]⟩,.string ⟨#[]⟩,.bool false] 32 (0,0)):=(bV.block _ (qbtv hlw b1.size)).trans ((b1.block _ hlw).trans hB);have x0:=qc 0 hVB rfl;have x1:=qc 1 hVB rfl;have x2:=qc 2 hVB rfl;have y0:=qf 0 hVB;have y1:=qf 1 hVB;have y2:=qf 2 hVB;have K1:=qb k1;have K2:=qb k2;have hq:w.heap.size<w1.heap.size:=qbtv hlw b1.size;clear k1 k2 hVB;go_upto_region 13 with fail
 rw[HV.out];(go_wp2_with fail);go_region
 all_goals
  (go_wp2_with fail);refine qdq _ _ w.heap.size _ _ _ _ _ rfl rfl rfl K1.out ?_;exact⟨by unfold wdT;push_cast;rfl,K2.out.drew⟩
theorem qbjq (s:QY) (a:Nat) (w:World) (hs:s.size≤256) (ha:a≤256) (hE:qcm s.data.toList=false) (h:okP s.data.toList=true) :
  Calls Tryz.prog 65 #[.string ⟨#[61,61]⟩,.string s,.int .i64 (a:Int)] w fun e w'=>e=.returned (wdT 1 a (.ok (ql (qk s.data.toList)) s.data.toList false))∧QE w.heap.size w w':=by
 have CS:=fun W=>qfn s W (by omega)
 rw[hE]at CS;rw[if_neg (by simp)]at CS
 have CS:=qb CS;clear hE;have P1:=fun w=>qcc s w h;generalize ql (qk s.data.toList)=x at *;have P1:=qb P1;clear h;have hB:=qbtk w (.cells #[.string ⟨#[]⟩,.string ⟨#[]⟩,.bool false] 32);have hbW:QE w.heap.size w (w.alloc (.cells #[.string ⟨#[]⟩,.string ⟨#[]⟩,.bool false] 32)):=(qbtn _ w).alloc (qbtm _) _;have hlw:w.heap.size<(w.alloc (.cells #[.string ⟨#[]⟩,.string ⟨#[]⟩,.bool false] 32)).heap.size:=by simp
 go_enter Tryz.func65,Tryz.ntmps65
 (go_wp2_with fail);generalize w.alloc _=W0 at *;refine(CS.out _).mono ?_;rintro e w0 ⟨rfl,hw0⟩;rw[hw0];clear hw0 w0;(go_wp2_with fail);refine(P1.out _).mono ?_;rintro e w1 ⟨vr,vl,rfl,t1,t2,b1⟩;obtain⟨r1,c1,rfl,_⟩:=id t1;obtain⟨q1,d1,rfl,_⟩:=id t2
 try unfold pepV
 obtain⟨V,hV,nP,nF,bV,sV⟩:=qm w1 #[.string (qd x.ep),.slice r1 x.rel.length c1,.int .u8 x.c,.string (qd x.n),.bool x.b,.string (qd x.m),.bool x.d,.string (qd x.k),.slice q1 x.loc.length d1] #[.int .i64 0,.int .i64 0] 44 25;obtain⟨s0,s1,s2,s3,s4,s5,s6,s7,s8,_⟩:=qbw nP;have HV:=qb hV;obtain⟨u0,u1,_,_⟩:=qv nF;clear hV nP nF;obtain⟨k1,k2⟩:=qbh (w:=w) (.string ⟨#[61,61]⟩) (.string s) (.bool false) ((bV.block _ (qbtv hlw b1.size)).trans ((b1.block _ hlw).trans hB)) ((hbW.trans (b1.mono (qbsx hlw))).trans (bV.mono (qbtt (qbsx hlw) b1.size)));have hVB:V.heap[w.heap.size]? = some (.cells #[.string ⟨#[]⟩,.string ⟨#[]⟩,.bool false] 32 (0,0)):=(bV.block _ (qbtv hlw b1.size)).trans ((b1.block _ hlw).trans hB);have x0:=qc 0 hVB rfl;have x1:=qc 1 hVB rfl;have x2:=qc 2 hVB rfl;have y0:=qf 0 hVB;have y1:=qf 1 hVB;have y2:=qf 2 hVB;have K1:=qb k1;have K2:=qb k2;have hq:w.heap.size<w1.heap.size:=qbtv hlw b1.size;clear k1 k2 hVB;go_upto_region 13 with fail
 rw[HV.out];(go_wp2_with fail);refine qdq _ _ w.heap.size _ _ _ _ _ rfl rfl rfl K1.out ?_;exact⟨by rw[qkk];rfl,K2.out⟩
theorem qbdl (s:QY) (a:Nat) (w:World) (hs:s.size≤256) (ha:a≤256) (hE:qcm s.data.toList=true) (h:okP (s.extract 0 (s.size-2)).data.toList=false) :
  Calls Tryz.prog 65 #[.string ⟨#[61,61]⟩,.string s,.int .i64 (a:Int)] w fun e w'=>e=.returned (wdT 1 a (.bad (errX (s.extract 0 (s.size-2)).data.toList).1 (errX (s.extract 0 (s.size-2)).data.toList).2))∧QE w.heap.size w w':=by
 have CS:=fun W=>qfn s W (by omega)
 rw[hE]at CS;rw[if_pos rfl]at CS;generalize s.extract 0 (s.size-2)=T at *;have CS:=qb CS;clear hE;have P1:=fun w=>qct T w h;have hE2:=qhn T.data.toList;have n1:=qcx _ h;generalize (errX T.data.toList).1=E1 at *;generalize (errX T.data.toList).2=E2 at *;have m1:(E1 != 0)=true:=by rw[bne,n1];rfl
 unfold pepZ at P1;have P1:=qb P1;clear h;have hB:=qbtk w (.cells #[.string ⟨#[]⟩,.string ⟨#[]⟩,.bool false] 32);have hbW:QE w.heap.size w (w.alloc (.cells #[.string ⟨#[]⟩,.string ⟨#[]⟩,.bool false] 32)):=(qbtn _ w).alloc (qbtm _) _;have hlw:w.heap.size<(w.alloc (.cells #[.string ⟨#[]⟩,.string ⟨#[]⟩,.bool false] 32)).heap.size:=by simp
 go_enter Tryz.func65,Tryz.ntmps65
 (go_wp2_with fail);generalize w.alloc _=W0 at *;refine(CS.out _).mono ?_;rintro e w0 ⟨rfl,hw0⟩;rw[hw0];clear hw0 w0;(go_wp2_with fail);refine(P1.out _).mono ?_;rintro e w1 ⟨rfl,b1⟩;obtain⟨V,hV,nP,nF,bV,sV⟩:=qm w1 #[.string ⟨#[]⟩,.slice none 0 0,.int .u8 0,.string ⟨#[]⟩,.bool false,.string ⟨#[]⟩,.bool false,.string ⟨#[]⟩,.slice none 0 0] #[.int .i64 E1,.int .i64 (E2:Int)] 44 25;have HV:=qb hV;obtain⟨u0,u1,_,_⟩:=qv nF;clear hV nP nF;obtain⟨k1,k2⟩:=qbh (w:=w) (.string ⟨#[]⟩) (.string ⟨#[]⟩) (.bool false) ((bV.block _ (qbtv hlw b1.size)).trans ((b1.block _ hlw).trans hB)) ((hbW.trans (b1.mono (qbsx hlw))).trans (bV.mono (qbtt (qbsx hlw) b1.size)));have hVB:V.heap[w.heap.size]? = some (.cells #[.string ⟨#[]⟩,.string ⟨#[]⟩,.bool false] 32 (0,0)):=(bV.block _ (qbtv hlw b1.size)).trans ((b1.block _ hlw).trans hB);have x0:=qc 0 hVB rfl;have x1:=qc 1 hVB rfl;have x2:=qc 2 hVB rfl;have y0:=qf 0 hVB;have y1:=qf 1 hVB;have y2:=qf 2 hVB;have K1:=qb k1;have K2:=qb k2;have hq:w.heap.size<w1.heap.size:=qbtv hlw b1.size;clear k1 k2 hVB;go_upto_region 13 with fail
 rw[HV.out];(go_wp2_with fail);go_region
 all_goals
  (go_wp2_with fail);refine qdq _ _ w.heap.size _ _ _ _ _ rfl rfl rfl K1.out ?_;exact⟨by unfold wdT;push_cast;rfl,K2.out.drew⟩
theorem qbbn (s:QY) (a:Nat) (w:World) (hs:s.size≤256) (ha:a≤256) (hE:qcm s.data.toList=true) (h:okP (s.extract 0 (s.size-2)).data.toList=true) (hb:qff (ql (qk (s.extract 0 (s.size-2)).data.toList))=false) :
  Calls Tryz.prog 65 #[.string ⟨#[61,61]⟩,.string s,.int .i64 (a:Int)] w fun e w'=>e=.returned (wdT 1 a (.bad 19 0))∧QE w.heap.size w w':=by
 have CS:=fun W=>qfn s W (by omega)
 rw[hE]at CS;rw[if_pos rfl]at CS;generalize s.extract 0 (s.size-2)=T at *;have CS:=qb CS;clear hE;have P1:=fun w=>qcc T w h;generalize ql (qk T.data.toList)=x at *;have P1:=qb P1;clear h;have BR:=qb (fun r1 q1 c1 d1 W=>qnk x r1 q1 c1 d1 W);replace hb:=qb hb;have hB:=qbtk w (.cells #[.string ⟨#[]⟩,.string ⟨#[]⟩,.bool false] 32);have hbW:QE w.heap.size w (w.alloc (.cells #[.string ⟨#[]⟩,.string ⟨#[]⟩,.bool false] 32)):=(qbtn _ w).alloc (qbtm _) _;have hlw:w.heap.size<(w.alloc (.cells #[.string ⟨#[]⟩,.string ⟨#[]⟩,.bool false] 32)).heap.size:=by simp
 go_enter Tryz.func65,Tryz.ntmps65
 (go_wp2_with fail);generalize w.alloc _=W0 at *;refine(CS.out _).mono ?_;rintro e w0 ⟨rfl,hw0⟩;rw[hw0];clear hw0 w0;(go_wp2_with fail);refine(P1.out _).mono ?_;rintro e w1 ⟨vr,vl,rfl,t1,t2,b1⟩;obtain⟨r1,c1,rfl,_⟩:=id t1;obtain⟨q1,d1,rfl,_⟩:=id t2
 try unfold pepV
 obtain⟨V,hV,nP,nF,bV,sV⟩:=qm w1 #[.string (qd x.ep),.slice r1 x.rel.length c1,.int .u8 x.c,.string (qd x.n),.bool x.b,.string (qd x.m),.bool x.d,.string (qd x.k),.slice q1 x.loc.length d1] #[.int .i64 0,.int .i64 0] 44 25;obtain⟨s0,s1,s2,s3,s4,s5,s6,s7,s8,_⟩:=qbw nP;have HV:=qb hV;obtain⟨u0,u1,_,_⟩:=qv nF;clear hV nP nF;have HVB:=qb ((bV.block _ (qbtv hlw b1.size)).trans ((b1.block _ hlw).trans hB));have HBV:=qb ((hbW.trans (b1.mono (qbsx hlw))).trans (bV.mono (qbtt (qbsx hlw) b1.size)));have hlV:w.heap.size<V.heap.size:=qbtv (qbtv hlw b1.size) bV.size;clear bV b1 hB hbW;go_upto_region 13 with fail
 rw[HV.out];(go_wp2_with fail);refine(BR.out _ _ _ _ _).mono ?_;rintro e w2 ⟨rfl,b2⟩;rw[hb.out];obtain⟨k1,k2⟩:=qbh (w:=w) (.string ⟨#[]⟩) (.string ⟨#[]⟩) (.bool false) ((b2.block _ hlV).trans HVB.out) (HBV.out.trans (b2.mono (qbsx hlV)));have hVB:=(b2.block _ hlV).trans HVB.out;have x0:=qc 0 hVB rfl;have x1:=qc 1 hVB rfl;have x2:=qc 2 hVB rfl;have y0:=qf 0 hVB;have y1:=qf 1 hVB;have y2:=qf 2 hVB;have K1:=qb k1;have K2:=qb k2;clear k1 k2 hVB;(go_wp2_with fail);refine qdq _ _ w.heap.size _ _ _ _ _ rfl rfl rfl K1.out ?_;exact⟨by unfold wdT;rfl,K2.out⟩
theorem qbfv (s:QY) (a:Nat) (w:World) (hs:s.size≤256) (ha:a≤256) (hE:qcm s.data.toList=true) (h:okP (s.extract 0 (s.size-2)).data.toList=true) (hb:qff (ql (qk (s.extract 0 (s.size-2)).data.toList))=true) :
  Calls Tryz.prog 65 #[.string ⟨#[61,61]⟩,.string s,.int .i64 (a:Int)] w fun e w'=>e=.returned (wdT 1 a (.ok (ql (qk (s.extract 0 (s.size-2)).data.toList)) (s.extract 0 (s.size-2)).data.toList true))∧QE w.heap.size w w':=by
 have CS:=fun W=>qfn s W (by omega)
 rw[hE]at CS;rw[if_pos rfl]at CS;generalize s.extract 0 (s.size-2)=T at *;have CS:=qb CS;clear hE;have P1:=fun w=>qcc T w h;generalize ql (qk T.data.toList)=x at *;have P1:=qb P1;clear h;have BR:=qb (fun r1 q1 c1 d1 W=>qnk x r1 q1 c1 d1 W);replace hb:=qb hb;have hB:=qbtk w (.cells #[.string ⟨#[]⟩,.string ⟨#[]⟩,.bool false] 32);have hbW:QE w.heap.size w (w.alloc (.cells #[.string ⟨#[]⟩,.string ⟨#[]⟩,.bool false] 32)):=(qbtn _ w).alloc (qbtm _) _;have hlw:w.heap.size<(w.alloc (.cells #[.string ⟨#[]⟩,.string ⟨#[]⟩,.bool false] 32)).heap.size:=by simp
 go_enter Tryz.func65,Tryz.ntmps65
 (go_wp2_with fail);generalize w.alloc _=W0 at *;refine(CS.out _).mono ?_;rintro e w0 ⟨rfl,hw0⟩;rw[hw0];clear hw0 w0;(go_wp2_with fail);refine(P1.out _).mono ?_;rintro e w1 ⟨vr,vl,rfl,t1,t2,b1⟩;obtain⟨r1,c1,rfl,_⟩:=id t1;obtain⟨q1,d1,rfl,_⟩:=id t2
 try unfold pepV
 obtain⟨V,hV,nP,nF,bV,sV⟩:=qm w1 #[.string (qd x.ep),.slice r1 x.rel.length c1,.int .u8 x.c,.string (qd x.n),.bool x.b,.string (qd x.m),.bool x.d,.string (qd x.k),.slice q1 x.loc.length d1] #[.int .i64 0,.int .i64 0] 44 25;obtain⟨s0,s1,s2,s3,s4,s5,s6,s7,s8,_⟩:=qbw nP;have HV:=qb hV;obtain⟨u0,u1,_,_⟩:=qv nF;clear hV nP nF;have HVB:=qb ((bV.block _ (qbtv hlw b1.size)).trans ((b1.block _ hlw).trans hB));have HBV:=qb ((hbW.trans (b1.mono (qbsx hlw))).trans (bV.mono (qbtt (qbsx hlw) b1.size)));have hlV:w.heap.size<V.heap.size:=qbtv (qbtv hlw b1.size) bV.size;clear bV b1 hB hbW;go_upto_region 13 with fail
 rw[HV.out];(go_wp2_with fail);refine(BR.out _ _ _ _ _).mono ?_;rintro e w2 ⟨rfl,b2⟩;rw[hb.out];obtain⟨k1,k2⟩:=qbh (w:=w) (.string ⟨#[61,61]⟩) (.string T) (.bool true) ((b2.block _ hlV).trans HVB.out) (HBV.out.trans (b2.mono (qbsx hlV)));have hVB:=(b2.block _ hlV).trans HVB.out;have x0:=qc 0 hVB rfl;have x1:=qc 1 hVB rfl;have x2:=qc 2 hVB rfl;have y0:=qf 0 hVB;have y1:=qf 1 hVB;have y2:=qf 2 hVB;have K1:=qb k1;have K2:=qb k2;clear k1 k2 hVB;(go_wp2_with fail);refine qdq _ _ w.heap.size _ _ _ _ _ rfl rfl rfl K1.out ?_;exact⟨by rw[qkk];rfl,K2.out⟩
theorem qbkb (s:QY) (a:Nat) (w:World) (hs:s.size≤256) (ha:a≤256) (hE:qcm s.data.toList=false) (h:okP s.data.toList=false) :
  Calls Tryz.prog 65 #[.string ⟨#[33,61]⟩,.string s,.int .i64 (a:Int)] w fun e w'=>e=.returned (wdT 2 a (.bad (errX s.data.toList).1 (errX s.data.toList).2))∧QE w.heap.size w w':=by
 have CS:=fun W=>qfn s W (by omega)
 rw[hE]at CS;rw[if_neg (by simp)]at CS
 have CS:=qb CS;clear hE;have P1:=fun w=>qct s w h;have hE2:=qhn s.data.toList;have n1:=qcx _ h;generalize (errX s.data.toList).1=E1 at *;generalize (errX s.data.toList).2=E2 at *;have m1:(E1 != 0)=true:=by rw[bne,n1];rfl
 unfold pepZ at P1;have P1:=qb P1;clear h;have hB:=qbtk w (.cells #[.string ⟨#[]⟩,.string ⟨#[]⟩,.bool false] 32);have hbW:QE w.heap.size w (w.alloc (.cells #[.string ⟨#[]⟩,.string ⟨#[]⟩,.bool false] 32)):=(qbtn _ w).alloc (qbtm _) _;have hlw:w.heap.size<(w.alloc (.cells #[.string ⟨#[]⟩,.string ⟨#[]⟩,.bool false] 32)).heap.size:=by simp
 go_enter Tryz.func65,Tryz.ntmps65
 (go_wp2_with fail);generalize w.alloc _=W0 at *;refine(CS.out _).mono ?_;rintro e w0 ⟨rfl,hw0⟩;rw[hw0];clear hw0 w0;(go_wp2_with fail);refine(P1.out _).mono ?_;rintro e w1 ⟨rfl,b1⟩;obtain⟨V,hV,nP,nF,bV,sV⟩:=qm w1 #[.string ⟨#[]⟩,.slice none 0 0,.int .u8 0,.string ⟨#[]⟩,.bool false,.string ⟨#[]⟩,.bool false,.string ⟨#[]⟩,.slice none 0 0] #[.int .i64 E1,.int .i64 (E2:Int)] 44 25;have HV:=qb hV;obtain⟨u0,u1,_,_⟩:=qv nF;clear hV nP nF;obtain⟨k1,k2⟩:=qbh (w:=w) (.string ⟨#[]⟩) (.string ⟨#[]⟩) (.bool false) ((bV.block _ (qbtv hlw b1.size)).trans ((b1.block _ hlw).trans hB)) ((hbW.trans (b1.mono (qbsx hlw))).trans (bV.mono (qbtt (qbsx hlw) b1.size)));have hVB:V.heap[w.heap.size]? = some (.cells #[.string ⟨#[]⟩,.string ⟨#[]⟩,.bool false] 32 (0,0)):=(bV.block _ (qbtv hlw b1.size)).trans ((b1.block _ hlw).trans hB);have x0:=qc 0 hVB rfl;have x1:=qc 1 hVB rfl;have x2:=qc 2 hVB rfl;have y0:=qf 0 hVB;have y1:=qf 1 hVB;have y2:=qf 2 hVB;have K1:=qb k1;have K2:=qb k2;have hq:w.heap.size<w1.heap.size:=qbtv hlw b1.size;clear k1 k2 hVB;go_upto_region 13 with fail
 rw[HV.out];(go_wp2_with fail);go_region
 all_goals
  (go_wp2_with fail);refine qdq _ _ w.heap.size _ _ _ _ _ rfl rfl rfl K1.out ?_;exact⟨by unfold wdT;push_cast;rfl,K2.out.drew⟩
theorem qbkq (s:QY) (a:Nat) (w:World) (hs:s.size≤256) (ha:a≤256) (hE:qcm s.data.toList=false) (h:okP s.data.toList=true) :
  Calls Tryz.prog 65 #[.string ⟨#[33,61]⟩,.string s,.int .i64 (a:Int)] w fun e w'=>e=.returned (wdT 2 a (.ok (ql (qk s.data.toList)) s.data.toList false))∧QE w.heap.size w w':=by
 have CS:=fun W=>qfn s W (by omega)
 rw[hE]at CS;rw[if_neg (by simp)]at CS
 have CS:=qb CS;clear hE;have P1:=fun w=>qcc s w h;generalize ql (qk s.data.toList)=x at *;have P1:=qb P1;clear h;have hB:=qbtk w (.cells #[.string ⟨#[]⟩,.string ⟨#[]⟩,.bool false] 32);have hbW:QE w.heap.size w (w.alloc (.cells #[.string ⟨#[]⟩,.string ⟨#[]⟩,.bool false] 32)):=(qbtn _ w).alloc (qbtm _) _;have hlw:w.heap.size<(w.alloc (.cells #[.string ⟨#[]⟩,.string ⟨#[]⟩,.bool false] 32)).heap.size:=by simp
 go_enter Tryz.func65,Tryz.ntmps65
 (go_wp2_with fail);generalize w.alloc _=W0 at *;refine(CS.out _).mono ?_;rintro e w0 ⟨rfl,hw0⟩;rw[hw0];clear hw0 w0;(go_wp2_with fail);refine(P1.out _).mono ?_;rintro e w1 ⟨vr,vl,rfl,t1,t2,b1⟩;obtain⟨r1,c1,rfl,_⟩:=id t1;obtain⟨q1,d1,rfl,_⟩:=id t2
 try unfold pepV
 obtain⟨V,hV,nP,nF,bV,sV⟩:=qm w1 #[.string (qd x.ep),.slice r1 x.rel.length c1,.int .u8 x.c,.string (qd x.n),.bool x.b,.string (qd x.m),.bool x.d,.string (qd x.k),.slice q1 x.loc.length d1] #[.int .i64 0,.int .i64 0] 44 25;obtain⟨s0,s1,s2,s3,s4,s5,s6,s7,s8,_⟩:=qbw nP;have HV:=qb hV;obtain⟨u0,u1,_,_⟩:=qv nF;clear hV nP nF;obtain⟨k1,k2⟩:=qbh (w:=w) (.string ⟨#[33,61]⟩) (.string s) (.bool false) ((bV.block _ (qbtv hlw b1.size)).trans ((b1.block _ hlw).trans hB)) ((hbW.trans (b1.mono (qbsx hlw))).trans (bV.mono (qbtt (qbsx hlw) b1.size)));have hVB:V.heap[w.heap.size]? = some (.cells #[.string ⟨#[]⟩,.string ⟨#[]⟩,.bool false] 32 (0,0)):=(bV.block _ (qbtv hlw b1.size)).trans ((b1.block _ hlw).trans hB);have x0:=qc 0 hVB rfl;have x1:=qc 1 hVB rfl;have x2:=qc 2 hVB rfl;have y0:=qf 0 hVB;have y1:=qf 1 hVB;have y2:=qf 2 hVB;have K1:=qb k1;have K2:=qb k2;have hq:w.heap.size<w1.heap.size:=qbtv hlw b1.size;clear k1 k2 hVB;go_upto_region 13 with fail
 rw[HV.out];(go_wp2_with fail);refine qdq _ _ w.heap.size _ _ _ _ _ rfl rfl rfl K1.out ?_;exact⟨by rw[qkk];rfl,K2.out⟩
theorem qbgz (s:QY) (a:Nat) (w:World) (hs:s.size≤256) (ha:a≤256) (hE:qcm s.data.toList=true) (h:okP (s.extract 0 (s.size-2)).data.toList=false) :
  Calls Tryz.prog 65 #[.string ⟨#[33,61]⟩,.string s,.int .i64 (a:Int)] w fun e w'=>e=.returned (wdT 2 a (.bad (errX (s.extract 0 (s.size-2)).data.toList).1 (errX (s.extract 0 (s.size-2)).data.toList).2))∧QE w.heap.size w w':=by
 have CS:=fun W=>qfn s W (by omega)
 rw[hE]at CS;rw[if_pos rfl]at CS;generalize s.extract 0 (s.size-2)=T at *;have CS:=qb CS;clear hE;have P1:=fun w=>qct T w h;have hE2:=qhn T.data.toList;have n1:=qcx _ h;generalize (errX T.data.toList).1=E1 at *;generalize (errX T.data.toList).2=E2 at *;have m1:(E1 != 0)=true:=by rw[bne,n1];rfl
 unfold pepZ at P1;have P1:=qb P1;clear h;have hB:=qbtk w (.cells #[.string ⟨#[]⟩,.string ⟨#[]⟩,.bool false] 32);have hbW:QE w.heap.size w (w.alloc (.cells #[.string ⟨#[]⟩,.string ⟨#[]⟩,.bool false] 32)):=(qbtn _ w).alloc (qbtm _) _;have hlw:w.heap.size<(w.alloc (.cells #[.string ⟨#[]⟩,.string ⟨#[]⟩,.bool false] 32)).heap.size:=by simp
 go_enter Tryz.func65,Tryz.ntmps65
 (go_wp2_with fail);generalize w.alloc _=W0 at *;refine(CS.out _).mono ?_;rintro e w0 ⟨rfl,hw0⟩;rw[hw0];clear hw0 w0;(go_wp2_with fail);refine(P1.out _).mono ?_;rintro e w1 ⟨rfl,b1⟩;obtain⟨V,hV,nP,nF,bV,sV⟩:=qm w1 #[.string ⟨#[]⟩,.slice none 0 0,.int .u8 0,.string ⟨#[]⟩,.bool false,.string ⟨#[]⟩,.bool false,.string ⟨#[]⟩,.slice none 0 0] #[.int .i64 E1,.int .i64 (E2:Int)] 44 25;have HV:=qb hV;obtain⟨u0,u1,_,_⟩:=qv nF;clear hV nP nF;obtain⟨k1,k2⟩:=qbh (w:=w) (.string ⟨#[]⟩) (.string ⟨#[]⟩) (.bool false) ((bV.block _ (qbtv hlw b1.size)).trans ((b1.block _ hlw).trans hB)) ((hbW.trans (b1.mono (qbsx hlw))).trans (bV.mono (qbtt (qbsx hlw) b1.size)));have hVB:V.heap[w.heap.size]? = some (.cells #[.string ⟨#[]⟩,.string ⟨#[]⟩,.bool false] 32 (0,0)):=(bV.block _ (qbtv hlw b1.size)).trans ((b1.block _ hlw).trans hB);have x0:=qc 0 hVB rfl;have x1:=qc 1 hVB rfl;have x2:=qc 2 hVB rfl;have y0:=qf 0 hVB;have y1:=qf 1 hVB;have y2:=qf 2 hVB;have K1:=qb k1;have K2:=qb k2;have hq:w.heap.size<w1.heap.size:=qbtv hlw b1.size;clear k1 k2 hVB;go_upto_region 13 with fail
 rw[HV.out];(go_wp2_with fail);go_region
 all_goals
  (go_wp2_with fail);refine qdq _ _ w.heap.size _ _ _ _ _ rfl rfl rfl K1.out ?_;exact⟨by unfold wdT;push_cast;rfl,K2.out.drew⟩
theorem qbcx (s:QY) (a:Nat) (w:World) (hs:s.size≤256) (ha:a≤256) (hE:qcm s.data.toList=true) (h:okP (s.extract 0 (s.size-2)).data.toList=true) (hb:qff (ql (qk (s.extract 0 (s.size-2)).data.toList))=false) :
  Calls Tryz.prog 65 #[.string ⟨#[33,61]⟩,.string s,.int .i64 (a:Int)] w fun e w'=>e=.returned (wdT 2 a (.bad 19 0))∧QE w.heap.size w w':=by
 have CS:=fun W=>qfn s W (by omega)
 rw[hE]at CS;rw[if_pos rfl]at CS;generalize s.extract 0 (s.size-2)=T at *;have CS:=qb CS;clear hE;have P1:=fun w=>qcc T w h;generalize ql (qk T.data.toList)=x at *;have P1:=qb P1;clear h;have BR:=qb (fun r1 q1 c1 d1 W=>qnk x r1 q1 c1 d1 W);replace hb:=qb hb;have hB:=qbtk w (.cells #[.string ⟨#[]⟩,.string ⟨#[]⟩,.bool false] 32);have hbW:QE w.heap.size w (w.alloc (.cells #[.string ⟨#[]⟩,.string ⟨#[]⟩,.bool false] 32)):=(qbtn _ w).alloc (qbtm _) _;have hlw:w.heap.size<(w.alloc (.cells #[.string ⟨#[]⟩,.string ⟨#[]⟩,.bool false] 32)).heap.size:=by simp
 go_enter Tryz.func65,Tryz.ntmps65
 (go_wp2_with fail);generalize w.alloc _=W0 at *;refine(CS.out _).mono ?_;rintro e w0 ⟨rfl,hw0⟩;rw[hw0];clear hw0 w0;(go_wp2_with fail);refine(P1.out _).mono ?_;rintro e w1 ⟨vr,vl,rfl,t1,t2,b1⟩;obtain⟨r1,c1,rfl,_⟩:=id t1;obtain⟨q1,d1,rfl,_⟩:=id t2
 try unfold pepV
 obtain⟨V,hV,nP,nF,bV,sV⟩:=qm w1 #[.string (qd x.ep),.slice r1 x.rel.length c1,.int .u8 x.c,.string (qd x.n),.bool x.b,.string (qd x.m),.bool x.d,.string (qd x.k),.slice q1 x.loc.length d1] #[.int .i64 0,.int .i64 0] 44 25;obtain⟨s0,s1,s2,s3,s4,s5,s6,s7,s8,_⟩:=qbw nP;have HV:=qb hV;obtain⟨u0,u1,_,_⟩:=qv nF;clear hV nP nF;have HVB:=qb ((bV.block _ (qbtv hlw b1.size)).trans ((b1.block _ hlw).trans hB));have HBV:=qb ((hbW.trans (b1.mono (qbsx hlw))).trans (bV.mono (qbtt (qbsx hlw) b1.size)));have hlV:w.heap.size<V.heap.size:=qbtv (qbtv hlw b1.size) bV.size;clear bV b1 hB hbW;go_upto_region 13 with fail
 rw[HV.out];(go_wp2_with fail);refine(BR.out _ _ _ _ _).mono ?_;rintro e w2 ⟨rfl,b2⟩;rw[hb.out];obtain⟨k1,k2⟩:=qbh (w:=w) (.string ⟨#[]⟩) (.string ⟨#[]⟩) (.bool false) ((b2.block _ hlV).trans HVB.out) (HBV.out.trans (b2.mono (qbsx hlV)));have hVB:=(b2.block _ hlV).trans HVB.out;have x0:=qc 0 hVB rfl;have x1:=qc 1 hVB rfl;have x2:=qc 2 hVB rfl;have y0:=qf 0 hVB;have y1:=qf 1 hVB;have y2:=qf 2 hVB;have K1:=qb k1;have K2:=qb k2;clear k1 k2 hVB;(go_wp2_with fail);refine qdq _ _ w.heap.size _ _ _ _ _ rfl rfl rfl K1.out ?_;exact⟨by unfold wdT;rfl,K2.out⟩
theorem qbdx (s:QY) (a:Nat) (w:World) (hs:s.size≤256) (ha:a≤256) (hE:qcm s.data.toList=true) (h:okP (s.extract 0 (s.size-2)).data.toList=true) (hb:qff (ql (qk (s.extract 0 (s.size-2)).data.toList))=true) :
  Calls Tryz.prog 65 #[.string ⟨#[33,61]⟩,.string s,.int .i64 (a:Int)] w fun e w'=>e=.returned (wdT 2 a (.ok (ql (qk (s.extract 0 (s.size-2)).data.toList)) (s.extract 0 (s.size-2)).data.toList true))∧QE w.heap.size w w':=by
 have CS:=fun W=>qfn s W (by omega)
 rw[hE]at CS;rw[if_pos rfl]at CS;generalize s.extract 0 (s.size-2)=T at *;have CS:=qb CS;clear hE;have P1:=fun w=>qcc T w h;generalize ql (qk T.data.toList)=x at *;have P1:=qb P1;clear h;have BR:=qb (fun r1 q1 c1 d1 W=>qnk x r1 q1 c1 d1 W);replace hb:=qb hb;have hB:=qbtk w (.cells #[.string ⟨#[]⟩,.string ⟨#[]⟩,.bool false] 32);have hbW:QE w.heap.size w (w.alloc (.cells #[.string ⟨#[]⟩,.string ⟨#[]⟩,.bool false] 32)):=(qbtn _ w).alloc (qbtm _) _;have hlw:w.heap.size<(w.alloc (.cells #[.string ⟨#[]⟩,.string ⟨#[]⟩,.bool false] 32)).heap.size:=by simp
 go_enter Tryz.func65,Tryz.ntmps65
 (go_wp2_with fail);generalize w.alloc _=W0 at *;refine(CS.out _).mono ?_;rintro e w0 ⟨rfl,hw0⟩;rw[hw0];clear hw0 w0;(go_wp2_with fail);refine(P1.out _).mono ?_;rintro e w1 ⟨vr,vl,rfl,t1,t2,b1⟩;obtain⟨r1,c1,rfl,_⟩:=id t1;obtain⟨q1,d1,rfl,_⟩:=id t2
 try unfold pepV
 obtain⟨V,hV,nP,nF,bV,sV⟩:=qm w1 #[.string (qd x.ep),.slice r1 x.rel.length c1,.int .u8 x.c,.string (qd x.n),.bool x.b,.string (qd x.m),.bool x.d,.string (qd x.k),.slice q1 x.loc.length d1] #[.int .i64 0,.int .i64 0] 44 25;obtain⟨s0,s1,s2,s3,s4,s5,s6,s7,s8,_⟩:=qbw nP;have HV:=qb hV;obtain⟨u0,u1,_,_⟩:=qv nF;clear hV nP nF;have HVB:=qb ((bV.block _ (qbtv hlw b1.size)).trans ((b1.block _ hlw).trans hB));have HBV:=qb ((hbW.trans (b1.mono (qbsx hlw))).trans (bV.mono (qbtt (qbsx hlw) b1.size)));have hlV:w.heap.size<V.heap.size:=qbtv (qbtv hlw b1.size) bV.size;clear bV b1 hB hbW;go_upto_region 13 with fail
 rw[HV.out];(go_wp2_with fail);refine(BR.out _ _ _ _ _).mono ?_;rintro e w2 ⟨rfl,b2⟩;rw[hb.out];obtain⟨k1,k2⟩:=qbh (w:=w) (.string ⟨#[33,61]⟩) (.string T) (.bool true) ((b2.block _ hlV).trans HVB.out) (HBV.out.trans (b2.mono (qbsx hlV)));have hVB:=(b2.block _ hlV).trans HVB.out;have x0:=qc 0 hVB rfl;have x1:=qc 1 hVB rfl;have x2:=qc 2 hVB rfl;have y0:=qf 0 hVB;have y1:=qf 1 hVB;have y2:=qf 2 hVB;have K1:=qb k1;have K2:=qb k2;clear k1 k2 hVB;(go_wp2_with fail);refine qdq _ _ w.heap.size _ _ _ _ _ rfl rfl rfl K1.out ?_;exact⟨by rw[qkk];rfl,K2.out⟩
theorem qms (k:Nat) (hk:k<8) (s:QY) (a:Nat) (w:World) (hs:s.size≤256) (ha:a≤256) :
  Calls Tryz.prog 65 #[.string (qd (sgn k)),.string s,.int .i64 (a:Int)] w fun e w'=>e=.returned (wdT k a (wdR k s.data.toList))∧Below w.heap.size w w':=by
 have hx:(s.extract 0 (s.size-2)).data.toList=s.data.toList.take (s.data.toList.length-2):=by rw[qfc,List.drop_zero,qg];simp[qd]
 match k,hk with
 | 0, _=>
  show Calls Tryz.prog 65 #[.string ⟨#[126,61]⟩,.string s,.int .i64 (a:Int)] w fun e w'=>e=.returned (wdT 0 a (qbn (fun x=>pubB x&&decide (1<x.rel.length)) s.data.toList))∧Below w.heap.size w w';unfold qbn;cases h:okP s.data.toList
  ·rw[if_neg (by simp)]
   exact qbjm s a w hs ha h
  ·rw [if_pos rfl]
   by_cases hr:1<(ql (qk s.data.toList)).rel.length
   ·cases hl:(ql (qk s.data.toList)).loc.isEmpty
    ·rw[if_neg (by simp[pubB,hl])]
     exact qbhh s a w hs ha h hr hl
    ·rw[if_pos (by simp[pubB,hl,hr])]
     exact qbkd s a w hs ha h hr hl
   ·rw[if_neg (by simp[hr])]
    exact qbfh s a w hs ha h hr
 | 1, _=>
  show Calls Tryz.prog 65 #[.string ⟨#[61,61]⟩,.string s,.int .i64 (a:Int)] w fun e w'=>e=.returned (wdT 1 a (if qcm s.data.toList then qbmx (qbn qff (s.data.toList.take (s.data.toList.length-2))) else qbn (fun _=>true) s.data.toList))∧Below w.heap.size w w';cases hE:qcm s.data.toList
  ·rw [if_neg (by simp)]
   unfold qbn;cases h:okP s.data.toList
   ·rw[if_neg (by simp)]
    exact qbjw s a w hs ha hE h
   ·rw[if_pos rfl,if_pos rfl];exact qbjq s a w hs ha hE h
  ·rw [if_pos rfl,←hx];unfold qbn;cases h:okP (s.extract 0 (s.size-2)).data.toList
   ·rw[if_neg (by simp)]
    exact qbdl s a w hs ha hE h
   ·rw [if_pos rfl];cases hb:qff (ql (qk (s.extract 0 (s.size-2)).data.toList))
    ·rw[if_neg (by simp)]
     exact qbbn s a w hs ha hE h hb
    ·rw[if_pos rfl];exact qbfv s a w hs ha hE h hb
 | 2, _=>
  show Calls Tryz.prog 65 #[.string ⟨#[33,61]⟩,.string s,.int .i64 (a:Int)] w fun e w'=>e=.returned (wdT 2 a (if qcm s.data.toList then qbmx (qbn qff (s.data.toList.take (s.data.toList.length-2))) else qbn (fun _=>true) s.data.toList))∧Below w.heap.size w w';cases hE:qcm s.data.toList
  ·rw [if_neg (by simp)]
   unfold qbn;cases h:okP s.data.toList
   ·rw[if_neg (by simp)]
    exact qbkb s a w hs ha hE h
   ·rw[if_pos rfl,if_pos rfl];exact qbkq s a w hs ha hE h
  ·rw [if_pos rfl,←hx];unfold qbn;cases h:okP (s.extract 0 (s.size-2)).data.toList
   ·rw[if_neg (by simp)]
    exact qbgz s a w hs ha hE h
   ·rw [if_pos rfl];cases hb:qff (ql (qk (s.extract 0 (s.size-2)).data.toList))
    ·rw[if_neg (by simp)]
     exact qbcx s a w hs ha hE h hb
    ·rw[if_pos rfl];exact qbdx s a w hs ha hE h hb
 | 3,_=>
  show Calls Tryz.prog 65 #[.string ⟨#[60,61]⟩,.string s,.int .i64 (a:Int)] w fun e w'=>e=.returned (wdT 3 a (qbn (pubB) s.data.toList))∧Below w.heap.size w w';unfold qbn;cases h:okP s.data.toList
  ·rw[if_neg (by simp)]
   exact qbkh s a w hs ha h
  ·rw [if_pos rfl];cases hl:(ql (qk s.data.toList)).loc.isEmpty
   ·rw[if_neg (by unfold pubB;rw[hl];simp)]
    exact qbds s a w hs ha h hl
   ·rw[if_pos (by unfold pubB;exact hl)]
    exact qblc s a w hs ha h hl
 | 4,_=>
  show Calls Tryz.prog 65 #[.string ⟨#[62,61]⟩,.string s,.int .i64 (a:Int)] w fun e w'=>e=.returned (wdT 4 a (qbn (pubB) s.data.toList))∧Below w.heap.size w w';unfold qbn;cases h:okP s.data.toList
  ·rw[if_neg (by simp)]
   exact qbmk s a w hs ha h
  ·rw [if_pos rfl];cases hl:(ql (qk s.data.toList)).loc.isEmpty
   ·rw[if_neg (by unfold pubB;rw[hl];simp)]
    exact qbhg s a w hs ha h hl
   ·rw[if_pos (by unfold pubB;exact hl)]
    exact qbmm s a w hs ha h hl
 | 5,_=>
  show Calls Tryz.prog 65 #[.string ⟨#[60]⟩,.string s,.int .i64 (a:Int)] w fun e w'=>e=.returned (wdT 5 a (qbn (pubB) s.data.toList))∧Below w.heap.size w w';unfold qbn;cases h:okP s.data.toList
  ·rw[if_neg (by simp)]
   exact qbmh s a w hs ha h
  ·rw [if_pos rfl];cases hl:(ql (qk s.data.toList)).loc.isEmpty
   ·rw[if_neg (by unfold pubB;rw[hl];simp)]
    exact qbgf s a w hs ha h hl
   ·rw[if_pos (by unfold pubB;exact hl)]
    exact qblz s a w hs ha h hl
 | 6,_=>
  show Calls Tryz.prog 65 #[.string ⟨#[62]⟩,.string s,.int .i64 (a:Int)] w fun e w'=>e=.returned (wdT 6 a (qbn (pubB) s.data.toList))∧Below w.heap.size w w';unfold qbn;cases h:okP s.data.toList
  ·rw[if_neg (by simp)]
   exact qbmb s a w hs ha h
  ·rw [if_pos rfl];cases hl:(ql (qk s.data.toList)).loc.isEmpty
   ·rw[if_neg (by unfold pubB;rw[hl];simp)]
    exact qbhl s a w hs ha h hl
   ·rw[if_pos (by unfold pubB;exact hl)]
    exact qbkp s a w hs ha h hl
 | 7,_=>
  exact qbld s a w hs ha
end Go.Proofs.YtabmfdedbpmfmaaGreat
