/- Walks: the document: blanks, stars, versions with an epoch a -/
import Derived.Deep.Cut
import Derived.Test.YtabmfdedbpmfmaaGreatUXb
import Derived.Test.YtabmfdedbpmfmaaGreatUYc
import Derived.Test.YtabmfdedbpmfmaaGreatUGb
import Derived.Test.YtabmfdedbpmfmaaGreatUGlb
namespace Go.Proofs.YtabmfdedbpmfmaaGreat
open Go.RowKit Go.Shelf
open Below renaming refl → qbsv
open Nat renaming le_of_lt → qbsg, le_refl → qbst, le_trans → qbtc, lt_of_lt_of_le → qbtd
open World renaming alloc_heap_new → qbsr
open Go renaming World → QW
open Go.RowKit renaming Below → QE
open Go.Proofs.Tryz (prog)
set_option linter.unusedVariables false
set_option maxHeartbeats 4000000
set_option maxRecDepth 100000
theorem qbkm (s:QY) (a:Nat) (w:QW) (hs:s.size≤256) (ha:a≤256) (h:okP s.data.toList=false) :
  Calls prog 65 #[.string ⟨#[126,61]⟩,.string s,.int .i64 (a:Int)] w fun e w'=>e=.returned (wdT 0 a (.bad (errX s.data.toList).1 (errX s.data.toList).2))∧QE w.heap.size w w':=by
 have P1:=fun w=>qfp s w h;have hE2:=qhl s.data.toList;have n1:=qdw _ h;generalize (errX s.data.toList).1=E1 at *;generalize (errX s.data.toList).2=E2 at *;have m1:(E1 != 0)=true:=by rw[bne,n1];rfl
 unfold pepZ at P1;have P1:=qb P1;clear h;have hB:=qbsr w (.cells #[.string ⟨#[]⟩,.string ⟨#[]⟩,.bool false] 32);have hbW:QE w.heap.size w (w.alloc (.cells #[.string ⟨#[]⟩,.string ⟨#[]⟩,.bool false] 32)):=(qbsv _ w).alloc (qbst _) _;have hlw:w.heap.size<(w.alloc (.cells #[.string ⟨#[]⟩,.string ⟨#[]⟩,.bool false] 32)).heap.size:=by simp
 go_enter Tryz.func65,Tryz.ntmps65
 (go_wp2_with fail);generalize w.alloc _=W0 at *;refine(P1.out _).mono ?_;rintro e w1 ⟨rfl,b1⟩;obtain⟨V,hV,nP,nF,bV,sV⟩:=ql w1 #[.string ⟨#[]⟩,.slice none 0 0,.int .u8 0,.string ⟨#[]⟩,.bool false,.string ⟨#[]⟩,.bool false,.string ⟨#[]⟩,.slice none 0 0] #[.int .i64 E1,.int .i64 (E2:Int)] 44 25;have HV:=qb hV;obtain⟨u0,u1,_,_⟩:=qv nF;clear hV nP nF;obtain⟨k1,k2⟩:=qbh (w:=w) (.string ⟨#[]⟩) (.string ⟨#[]⟩) (.bool false) ((bV.block _ (qbtd hlw b1.size)).trans ((b1.block _ hlw).trans hB)) ((hbW.trans (b1.mono (qbsg hlw))).trans (bV.mono (qbtc (qbsg hlw) b1.size)));have hVB:V.heap[w.heap.size]? = some (.cells #[.string ⟨#[]⟩,.string ⟨#[]⟩,.bool false] 32 (0,0)):=(bV.block _ (qbtd hlw b1.size)).trans ((b1.block _ hlw).trans hB);have x0:=qc 0 hVB rfl;have x1:=qc 1 hVB rfl;have x2:=qc 2 hVB rfl;have y0:=qf 0 hVB;have y1:=qf 1 hVB;have y2:=qf 2 hVB;have K1:=qb k1;have K2:=qb k2;have hq:w.heap.size<w1.heap.size:=qbtd hlw b1.size;clear k1 k2 hVB;go_upto_region 13 with fail
 rw[HV.out];(go_wp2_with fail);go_region
 all_goals
  (go_wp2_with fail);refine qdq _ _ w.heap.size _ _ _ _ _ rfl rfl rfl K1.out ?_;exact⟨by unfold wdT;push_cast;rfl,K2.out.drew⟩
theorem qbfg (s:QY) (a:Nat) (w:QW) (hs:s.size≤256) (ha:a≤256) (h:okP s.data.toList=true) (hr:¬ 1<(qm (qk s.data.toList)).rel.length) :
  Calls prog 65 #[.string ⟨#[126,61]⟩,.string s,.int .i64 (a:Int)] w fun e w'=>e=.returned (wdT 0 a (.bad 19 0))∧QE w.heap.size w w':=by
 have P1:=fun w=>qck s w h;generalize qm (qk s.data.toList)=x at *;have P1:=qb P1;clear h;have hr2:¬ (2:Int)≤(x.rel.length:Int):=by omega
 have hB:=qbsr w (.cells #[.string ⟨#[]⟩,.string ⟨#[]⟩,.bool false] 32);have hbW:QE w.heap.size w (w.alloc (.cells #[.string ⟨#[]⟩,.string ⟨#[]⟩,.bool false] 32)):=(qbsv _ w).alloc (qbst _) _;have hlw:w.heap.size<(w.alloc (.cells #[.string ⟨#[]⟩,.string ⟨#[]⟩,.bool false] 32)).heap.size:=by simp
 go_enter Tryz.func65,Tryz.ntmps65
 (go_wp2_with fail);generalize w.alloc _=W0 at *;refine(P1.out _).mono ?_;rintro e w1 ⟨vr,vl,rfl,t1,t2,b1⟩;obtain⟨r1,c1,rfl,_⟩:=id t1;obtain⟨q1,d1,rfl,_⟩:=id t2
 try unfold pepV
 obtain⟨V,hV,nP,nF,bV,sV⟩:=ql w1 #[.string (qd x.ep),.slice r1 x.rel.length c1,.int .u8 x.c,.string (qd x.n),.bool x.b,.string (qd x.m),.bool x.d,.string (qd x.k),.slice q1 x.loc.length d1] #[.int .i64 0,.int .i64 0] 44 25;obtain⟨s0,s1,s2,s3,s4,s5,s6,s7,s8,_⟩:=qcd nP;have HV:=qb hV;obtain⟨u0,u1,_,_⟩:=qv nF;clear hV nP nF;obtain⟨k1,k2⟩:=qbh (w:=w) (.string ⟨#[]⟩) (.string ⟨#[]⟩) (.bool false) ((bV.block _ (qbtd hlw b1.size)).trans ((b1.block _ hlw).trans hB)) ((hbW.trans (b1.mono (qbsg hlw))).trans (bV.mono (qbtc (qbsg hlw) b1.size)));have hVB:V.heap[w.heap.size]? = some (.cells #[.string ⟨#[]⟩,.string ⟨#[]⟩,.bool false] 32 (0,0)):=(bV.block _ (qbtd hlw b1.size)).trans ((b1.block _ hlw).trans hB);have x0:=qc 0 hVB rfl;have x1:=qc 1 hVB rfl;have x2:=qc 2 hVB rfl;have y0:=qf 0 hVB;have y1:=qf 1 hVB;have y2:=qf 2 hVB;have K1:=qb k1;have K2:=qb k2;have hq:w.heap.size<w1.heap.size:=qbtd hlw b1.size;clear k1 k2 hVB;go_upto_region 13 with fail
 rw[HV.out];(go_wp2_with fail);refine qdq _ _ w.heap.size _ _ _ _ _ rfl rfl rfl K1.out ?_;exact⟨by unfold wdT;rfl,K2.out⟩
theorem qbgj (s:QY) (a:Nat) (w:QW) (hs:s.size≤256) (ha:a≤256) (h:okP s.data.toList=true) (hr:1<(qm (qk s.data.toList)).rel.length) (hl:((qm (qk s.data.toList)).loc.isEmpty)=false) :
  Calls prog 65 #[.string ⟨#[126,61]⟩,.string s,.int .i64 (a:Int)] w fun e w'=>e=.returned (wdT 0 a (.bad 19 0))∧QE w.heap.size w w':=by
 have P1:=fun w=>qck s w h;generalize qm (qk s.data.toList)=x at *;have P1:=qb P1;clear h;have hr2:(2:Int)≤(x.rel.length:Int):=by omega
 have hl2:=qcq x.loc;rw[hl]at hl2;have hB:=qbsr w (.cells #[.string ⟨#[]⟩,.string ⟨#[]⟩,.bool false] 32);have hbW:QE w.heap.size w (w.alloc (.cells #[.string ⟨#[]⟩,.string ⟨#[]⟩,.bool false] 32)):=(qbsv _ w).alloc (qbst _) _;have hlw:w.heap.size<(w.alloc (.cells #[.string ⟨#[]⟩,.string ⟨#[]⟩,.bool false] 32)).heap.size:=by simp
 go_enter Tryz.func65,Tryz.ntmps65
 (go_wp2_with fail);generalize w.alloc _=W0 at *;refine(P1.out _).mono ?_;rintro e w1 ⟨vr,vl,rfl,t1,t2,b1⟩;obtain⟨r1,c1,rfl,_⟩:=id t1;obtain⟨q1,d1,rfl,_⟩:=id t2
 try unfold pepV
 obtain⟨V,hV,nP,nF,bV,sV⟩:=ql w1 #[.string (qd x.ep),.slice r1 x.rel.length c1,.int .u8 x.c,.string (qd x.n),.bool x.b,.string (qd x.m),.bool x.d,.string (qd x.k),.slice q1 x.loc.length d1] #[.int .i64 0,.int .i64 0] 44 25;obtain⟨s0,s1,s2,s3,s4,s5,s6,s7,s8,_⟩:=qcd nP;have HV:=qb hV;obtain⟨u0,u1,_,_⟩:=qv nF;clear hV nP nF;obtain⟨k1,k2⟩:=qbh (w:=w) (.string ⟨#[]⟩) (.string ⟨#[]⟩) (.bool false) ((bV.block _ (qbtd hlw b1.size)).trans ((b1.block _ hlw).trans hB)) ((hbW.trans (b1.mono (qbsg hlw))).trans (bV.mono (qbtc (qbsg hlw) b1.size)));have hVB:V.heap[w.heap.size]? = some (.cells #[.string ⟨#[]⟩,.string ⟨#[]⟩,.bool false] 32 (0,0)):=(bV.block _ (qbtd hlw b1.size)).trans ((b1.block _ hlw).trans hB);have x0:=qc 0 hVB rfl;have x1:=qc 1 hVB rfl;have x2:=qc 2 hVB rfl;have y0:=qf 0 hVB;have y1:=qf 1 hVB;have y2:=qf 2 hVB;have K1:=qb k1;have K2:=qb k2;have hq:w.heap.size<w1.heap.size:=qbtd hlw b1.size;clear k1 k2 hVB;go_upto_region 13 with fail
 rw[HV.out];(go_wp2_with fail);refine qdq _ _ w.heap.size _ _ _ _ _ rfl rfl rfl K1.out ?_;exact⟨by unfold wdT;rfl,K2.out⟩
theorem qblw (s:QY) (a:Nat) (w:QW) (hs:s.size≤256) (ha:a≤256) (h:okP s.data.toList=true) (hr:1<(qm (qk s.data.toList)).rel.length) (hl:((qm (qk s.data.toList)).loc.isEmpty)=true) :
  Calls prog 65 #[.string ⟨#[126,61]⟩,.string s,.int .i64 (a:Int)] w fun e w'=>e=.returned (wdT 0 a (.ok (qm (qk s.data.toList)) s.data.toList false))∧QE w.heap.size w w':=by
 have P1:=fun w=>qck s w h;generalize qm (qk s.data.toList)=x at *;have P1:=qb P1;clear h;have hr2:(2:Int)≤(x.rel.length:Int):=by omega
 have hl2:=qcq x.loc;rw[hl]at hl2;have hB:=qbsr w (.cells #[.string ⟨#[]⟩,.string ⟨#[]⟩,.bool false] 32);have hbW:QE w.heap.size w (w.alloc (.cells #[.string ⟨#[]⟩,.string ⟨#[]⟩,.bool false] 32)):=(qbsv _ w).alloc (qbst _) _;have hlw:w.heap.size<(w.alloc (.cells #[.string ⟨#[]⟩,.string ⟨#[]⟩,.bool false] 32)).heap.size:=by simp
 go_enter Tryz.func65,Tryz.ntmps65
 (go_wp2_with fail);generalize w.alloc _=W0 at *;refine(P1.out _).mono ?_;rintro e w1 ⟨vr,vl,rfl,t1,t2,b1⟩;obtain⟨r1,c1,rfl,_⟩:=id t1;obtain⟨q1,d1,rfl,_⟩:=id t2
 try unfold pepV
 obtain⟨V,hV,nP,nF,bV,sV⟩:=ql w1 #[.string (qd x.ep),.slice r1 x.rel.length c1,.int .u8 x.c,.string (qd x.n),.bool x.b,.string (qd x.m),.bool x.d,.string (qd x.k),.slice q1 x.loc.length d1] #[.int .i64 0,.int .i64 0] 44 25;obtain⟨s0,s1,s2,s3,s4,s5,s6,s7,s8,_⟩:=qcd nP;have HV:=qb hV;obtain⟨u0,u1,_,_⟩:=qv nF;clear hV nP nF;obtain⟨k1,k2⟩:=qbh (w:=w) (.string ⟨#[126,61]⟩) (.string s) (.bool false) ((bV.block _ (qbtd hlw b1.size)).trans ((b1.block _ hlw).trans hB)) ((hbW.trans (b1.mono (qbsg hlw))).trans (bV.mono (qbtc (qbsg hlw) b1.size)));have hVB:V.heap[w.heap.size]? = some (.cells #[.string ⟨#[]⟩,.string ⟨#[]⟩,.bool false] 32 (0,0)):=(bV.block _ (qbtd hlw b1.size)).trans ((b1.block _ hlw).trans hB);have x0:=qc 0 hVB rfl;have x1:=qc 1 hVB rfl;have x2:=qc 2 hVB rfl;have y0:=qf 0 hVB;have y1:=qf 1 hVB;have y2:=qf 2 hVB;have K1:=qb k1;have K2:=qb k2;have hq:w.heap.size<w1.heap.size:=qbtd hlw b1.size;clear k1 k2 hVB;go_upto_region 13 with fail
 rw[HV.out];(go_wp2_with fail);refine qdq _ _ w.heap.size _ _ _ _ _ rfl rfl rfl K1.out ?_;exact⟨by rw[qkd];rfl,K2.out⟩
theorem qbkr (s:QY) (a:Nat) (w:QW) (hs:s.size≤256) (ha:a≤256) (h:okP s.data.toList=false) :
  Calls prog 65 #[.string ⟨#[60,61]⟩,.string s,.int .i64 (a:Int)] w fun e w'=>e=.returned (wdT 3 a (.bad (errX s.data.toList).1 (errX s.data.toList).2))∧QE w.heap.size w w':=by
 have P1:=fun w=>qfp s w h;have hE2:=qhl s.data.toList;have n1:=qdw _ h;generalize (errX s.data.toList).1=E1 at *;generalize (errX s.data.toList).2=E2 at *;have m1:(E1 != 0)=true:=by rw[bne,n1];rfl
 unfold pepZ at P1;have P1:=qb P1;clear h;have hB:=qbsr w (.cells #[.string ⟨#[]⟩,.string ⟨#[]⟩,.bool false] 32);have hbW:QE w.heap.size w (w.alloc (.cells #[.string ⟨#[]⟩,.string ⟨#[]⟩,.bool false] 32)):=(qbsv _ w).alloc (qbst _) _;have hlw:w.heap.size<(w.alloc (.cells #[.string ⟨#[]⟩,.string ⟨#[]⟩,.bool false] 32)).heap.size:=by simp
 go_enter Tryz.func65,Tryz.ntmps65
 (go_wp2_with fail);generalize w.alloc _=W0 at *;refine(P1.out _).mono ?_;rintro e w1 ⟨rfl,b1⟩;obtain⟨V,hV,nP,nF,bV,sV⟩:=ql w1 #[.string ⟨#[]⟩,.slice none 0 0,.int .u8 0,.string ⟨#[]⟩,.bool false,.string ⟨#[]⟩,.bool false,.string ⟨#[]⟩,.slice none 0 0] #[.int .i64 E1,.int .i64 (E2:Int)] 44 25;have HV:=qb hV;obtain⟨u0,u1,_,_⟩:=qv nF;clear hV nP nF;obtain⟨k1,k2⟩:=qbh (w:=w) (.string ⟨#[]⟩) (.string ⟨#[]⟩) (.bool false) ((bV.block _ (qbtd hlw b1.size)).trans ((b1.block _ hlw).trans hB)) ((hbW.trans (b1.mono (qbsg hlw))).trans (bV.mono (qbtc (qbsg hlw) b1.size)));have hVB:V.heap[w.heap.size]? = some (.cells #[.string ⟨#[]⟩,.string ⟨#[]⟩,.bool false] 32 (0,0)):=(bV.block _ (qbtd hlw b1.size)).trans ((b1.block _ hlw).trans hB);have x0:=qc 0 hVB rfl;have x1:=qc 1 hVB rfl;have x2:=qc 2 hVB rfl;have y0:=qf 0 hVB;have y1:=qf 1 hVB;have y2:=qf 2 hVB;have K1:=qb k1;have K2:=qb k2;have hq:w.heap.size<w1.heap.size:=qbtd hlw b1.size;clear k1 k2 hVB;go_upto_region 13 with fail
 rw[HV.out];(go_wp2_with fail);go_region
 all_goals
  (go_wp2_with fail);refine qdq _ _ w.heap.size _ _ _ _ _ rfl rfl rfl K1.out ?_;exact⟨by unfold wdT;push_cast;rfl,K2.out.drew⟩
theorem qbfx (s:QY) (a:Nat) (w:QW) (hs:s.size≤256) (ha:a≤256) (h:okP s.data.toList=true) (hl:((qm (qk s.data.toList)).loc.isEmpty)=false) :
  Calls prog 65 #[.string ⟨#[60,61]⟩,.string s,.int .i64 (a:Int)] w fun e w'=>e=.returned (wdT 3 a (.bad 19 0))∧QE w.heap.size w w':=by
 have P1:=fun w=>qck s w h;generalize qm (qk s.data.toList)=x at *;have P1:=qb P1;clear h;have hl2:=qcq x.loc;rw[hl]at hl2;have hB:=qbsr w (.cells #[.string ⟨#[]⟩,.string ⟨#[]⟩,.bool false] 32);have hbW:QE w.heap.size w (w.alloc (.cells #[.string ⟨#[]⟩,.string ⟨#[]⟩,.bool false] 32)):=(qbsv _ w).alloc (qbst _) _;have hlw:w.heap.size<(w.alloc (.cells #[.string ⟨#[]⟩,.string ⟨#[]⟩,.bool false] 32)).heap.size:=by simp
 go_enter Tryz.func65,Tryz.ntmps65
 (go_wp2_with fail);generalize w.alloc _=W0 at *;refine(P1.out _).mono ?_;rintro e w1 ⟨vr,vl,rfl,t1,t2,b1⟩;obtain⟨r1,c1,rfl,_⟩:=id t1;obtain⟨q1,d1,rfl,_⟩:=id t2
 try unfold pepV
 obtain⟨V,hV,nP,nF,bV,sV⟩:=ql w1 #[.string (qd x.ep),.slice r1 x.rel.length c1,.int .u8 x.c,.string (qd x.n),.bool x.b,.string (qd x.m),.bool x.d,.string (qd x.k),.slice q1 x.loc.length d1] #[.int .i64 0,.int .i64 0] 44 25;obtain⟨s0,s1,s2,s3,s4,s5,s6,s7,s8,_⟩:=qcd nP;have HV:=qb hV;obtain⟨u0,u1,_,_⟩:=qv nF;clear hV nP nF;obtain⟨k1,k2⟩:=qbh (w:=w) (.string ⟨#[]⟩) (.string ⟨#[]⟩) (.bool false) ((bV.block _ (qbtd hlw b1.size)).trans ((b1.block _ hlw).trans hB)) ((hbW.trans (b1.mono (qbsg hlw))).trans (bV.mono (qbtc (qbsg hlw) b1.size)));have hVB:V.heap[w.heap.size]? = some (.cells #[.string ⟨#[]⟩,.string ⟨#[]⟩,.bool false] 32 (0,0)):=(bV.block _ (qbtd hlw b1.size)).trans ((b1.block _ hlw).trans hB);have x0:=qc 0 hVB rfl;have x1:=qc 1 hVB rfl;have x2:=qc 2 hVB rfl;have y0:=qf 0 hVB;have y1:=qf 1 hVB;have y2:=qf 2 hVB;have K1:=qb k1;have K2:=qb k2;have hq:w.heap.size<w1.heap.size:=qbtd hlw b1.size;clear k1 k2 hVB;go_upto_region 13 with fail
 rw[HV.out];(go_wp2_with fail);refine qdq _ _ w.heap.size _ _ _ _ _ rfl rfl rfl K1.out ?_;exact⟨by unfold wdT;rfl,K2.out⟩
theorem qbkj (s:QY) (a:Nat) (w:QW) (hs:s.size≤256) (ha:a≤256) (h:okP s.data.toList=true) (hl:((qm (qk s.data.toList)).loc.isEmpty)=true) :
  Calls prog 65 #[.string ⟨#[60,61]⟩,.string s,.int .i64 (a:Int)] w fun e w'=>e=.returned (wdT 3 a (.ok (qm (qk s.data.toList)) s.data.toList false))∧QE w.heap.size w w':=by
 have P1:=fun w=>qck s w h;generalize qm (qk s.data.toList)=x at *;have P1:=qb P1;clear h;have hl2:=qcq x.loc;rw[hl]at hl2;have hB:=qbsr w (.cells #[.string ⟨#[]⟩,.string ⟨#[]⟩,.bool false] 32);have hbW:QE w.heap.size w (w.alloc (.cells #[.string ⟨#[]⟩,.string ⟨#[]⟩,.bool false] 32)):=(qbsv _ w).alloc (qbst _) _;have hlw:w.heap.size<(w.alloc (.cells #[.string ⟨#[]⟩,.string ⟨#[]⟩,.bool false] 32)).heap.size:=by simp
 go_enter Tryz.func65,Tryz.ntmps65
 (go_wp2_with fail);generalize w.alloc _=W0 at *;refine(P1.out _).mono ?_;rintro e w1 ⟨vr,vl,rfl,t1,t2,b1⟩;obtain⟨r1,c1,rfl,_⟩:=id t1;obtain⟨q1,d1,rfl,_⟩:=id t2
 try unfold pepV
 obtain⟨V,hV,nP,nF,bV,sV⟩:=ql w1 #[.string (qd x.ep),.slice r1 x.rel.length c1,.int .u8 x.c,.string (qd x.n),.bool x.b,.string (qd x.m),.bool x.d,.string (qd x.k),.slice q1 x.loc.length d1] #[.int .i64 0,.int .i64 0] 44 25;obtain⟨s0,s1,s2,s3,s4,s5,s6,s7,s8,_⟩:=qcd nP;have HV:=qb hV;obtain⟨u0,u1,_,_⟩:=qv nF;clear hV nP nF;obtain⟨k1,k2⟩:=qbh (w:=w) (.string ⟨#[60,61]⟩) (.string s) (.bool false) ((bV.block _ (qbtd hlw b1.size)).trans ((b1.block _ hlw).trans hB)) ((hbW.trans (b1.mono (qbsg hlw))).trans (bV.mono (qbtc (qbsg hlw) b1.size)));have hVB:V.heap[w.heap.size]? = some (.cells #[.string ⟨#[]⟩,.string ⟨#[]⟩,.bool false] 32 (0,0)):=(bV.block _ (qbtd hlw b1.size)).trans ((b1.block _ hlw).trans hB);have x0:=qc 0 hVB rfl;have x1:=qc 1 hVB rfl;have x2:=qc 2 hVB rfl;have y0:=qf 0 hVB;have y1:=qf 1 hVB;have y2:=qf 2 hVB;have K1:=qb k1;have K2:=qb k2;have hq:w.heap.size<w1.heap.size:=qbtd hlw b1.size;clear k1 k2 hVB;go_upto_region 13 with fail
 rw[HV.out];(go_wp2_with fail);refine qdq _ _ w.heap.size _ _ _ _ _ rfl rfl rfl K1.out ?_;exact⟨by rw[qkd];rfl,K2.out⟩
theorem qblv (s:QY) (a:Nat) (w:QW) (hs:s.size≤256) (ha:a≤256) (h:okP s.data.toList=false) :
  Calls prog 65 #[.string ⟨#[62,61]⟩,.string s,.int .i64 (a:Int)] w fun e w'=>e=.returned (wdT 4 a (.bad (errX s.data.toList).1 (errX s.data.toList).2))∧QE w.heap.size w w':=by
 have P1:=fun w=>qfp s w h;have hE2:=qhl s.data.toList;have n1:=qdw _ h;generalize (errX s.data.toList).1=E1 at *;generalize (errX s.data.toList).2=E2 at *;have m1:(E1 != 0)=true:=by rw[bne,n1];rfl
 unfold pepZ at P1;have P1:=qb P1;clear h;have hB:=qbsr w (.cells #[.string ⟨#[]⟩,.string ⟨#[]⟩,.bool false] 32);have hbW:QE w.heap.size w (w.alloc (.cells #[.string ⟨#[]⟩,.string ⟨#[]⟩,.bool false] 32)):=(qbsv _ w).alloc (qbst _) _;have hlw:w.heap.size<(w.alloc (.cells #[.string ⟨#[]⟩,.string ⟨#[]⟩,.bool false] 32)).heap.size:=by simp
 go_enter Tryz.func65,Tryz.ntmps65
 (go_wp2_with fail);generalize w.alloc _=W0 at *;refine(P1.out _).mono ?_;rintro e w1 ⟨rfl,b1⟩;obtain⟨V,hV,nP,nF,bV,sV⟩:=ql w1 #[.string ⟨#[]⟩,.slice none 0 0,.int .u8 0,.string ⟨#[]⟩,.bool false,.string ⟨#[]⟩,.bool false,.string ⟨#[]⟩,.slice none 0 0] #[.int .i64 E1,.int .i64 (E2:Int)] 44 25;have HV:=qb hV;obtain⟨u0,u1,_,_⟩:=qv nF;clear hV nP nF;obtain⟨k1,k2⟩:=qbh (w:=w) (.string ⟨#[]⟩) (.string ⟨#[]⟩) (.bool false) ((bV.block _ (qbtd hlw b1.size)).trans ((b1.block _ hlw).trans hB)) ((hbW.trans (b1.mono (qbsg hlw))).trans (bV.mono (qbtc (qbsg hlw) b1.size)));have hVB:V.heap[w.heap.size]? = some (.cells #[.string ⟨#[]⟩,.string ⟨#[]⟩,.bool false] 32 (0,0)):=(bV.block _ (qbtd hlw b1.size)).trans ((b1.block _ hlw).trans hB);have x0:=qc 0 hVB rfl;have x1:=qc 1 hVB rfl;have x2:=qc 2 hVB rfl;have y0:=qf 0 hVB;have y1:=qf 1 hVB;have y2:=qf 2 hVB;have K1:=qb k1;have K2:=qb k2;have hq:w.heap.size<w1.heap.size:=qbtd hlw b1.size;clear k1 k2 hVB;go_upto_region 13 with fail
 rw[HV.out];(go_wp2_with fail);go_region
 all_goals
  (go_wp2_with fail);refine qdq _ _ w.heap.size _ _ _ _ _ rfl rfl rfl K1.out ?_;exact⟨by unfold wdT;push_cast;rfl,K2.out.drew⟩
theorem qbgl (s:QY) (a:Nat) (w:QW) (hs:s.size≤256) (ha:a≤256) (h:okP s.data.toList=true) (hl:((qm (qk s.data.toList)).loc.isEmpty)=false) :
  Calls prog 65 #[.string ⟨#[62,61]⟩,.string s,.int .i64 (a:Int)] w fun e w'=>e=.returned (wdT 4 a (.bad 19 0))∧QE w.heap.size w w':=by
 have P1:=fun w=>qck s w h;generalize qm (qk s.data.toList)=x at *;have P1:=qb P1;clear h;have hl2:=qcq x.loc;rw[hl]at hl2;have hB:=qbsr w (.cells #[.string ⟨#[]⟩,.string ⟨#[]⟩,.bool false] 32);have hbW:QE w.heap.size w (w.alloc (.cells #[.string ⟨#[]⟩,.string ⟨#[]⟩,.bool false] 32)):=(qbsv _ w).alloc (qbst _) _;have hlw:w.heap.size<(w.alloc (.cells #[.string ⟨#[]⟩,.string ⟨#[]⟩,.bool false] 32)).heap.size:=by simp
 go_enter Tryz.func65,Tryz.ntmps65
 (go_wp2_with fail);generalize w.alloc _=W0 at *;refine(P1.out _).mono ?_;rintro e w1 ⟨vr,vl,rfl,t1,t2,b1⟩;obtain⟨r1,c1,rfl,_⟩:=id t1;obtain⟨q1,d1,rfl,_⟩:=id t2
 try unfold pepV
 obtain⟨V,hV,nP,nF,bV,sV⟩:=ql w1 #[.string (qd x.ep),.slice r1 x.rel.length c1,.int .u8 x.c,.string (qd x.n),.bool x.b,.string (qd x.m),.bool x.d,.string (qd x.k),.slice q1 x.loc.length d1] #[.int .i64 0,.int .i64 0] 44 25;obtain⟨s0,s1,s2,s3,s4,s5,s6,s7,s8,_⟩:=qcd nP;have HV:=qb hV;obtain⟨u0,u1,_,_⟩:=qv nF;clear hV nP nF;obtain⟨k1,k2⟩:=qbh (w:=w) (.string ⟨#[]⟩) (.string ⟨#[]⟩) (.bool false) ((bV.block _ (qbtd hlw b1.size)).trans ((b1.block _ hlw).trans hB)) ((hbW.trans (b1.mono (qbsg hlw))).trans (bV.mono (qbtc (qbsg hlw) b1.size)));have hVB:V.heap[w.heap.size]? = some (.cells #[.string ⟨#[]⟩,.string ⟨#[]⟩,.bool false] 32 (0,0)):=(bV.block _ (qbtd hlw b1.size)).trans ((b1.block _ hlw).trans hB);have x0:=qc 0 hVB rfl;have x1:=qc 1 hVB rfl;have x2:=qc 2 hVB rfl;have y0:=qf 0 hVB;have y1:=qf 1 hVB;have y2:=qf 2 hVB;have K1:=qb k1;have K2:=qb k2;have hq:w.heap.size<w1.heap.size:=qbtd hlw b1.size;clear k1 k2 hVB;go_upto_region 13 with fail
 rw[HV.out];(go_wp2_with fail);refine qdq _ _ w.heap.size _ _ _ _ _ rfl rfl rfl K1.out ?_;exact⟨by unfold wdT;rfl,K2.out⟩
theorem qbks (s:QY) (a:Nat) (w:QW) (hs:s.size≤256) (ha:a≤256) (h:okP s.data.toList=true) (hl:((qm (qk s.data.toList)).loc.isEmpty)=true) :
  Calls prog 65 #[.string ⟨#[62,61]⟩,.string s,.int .i64 (a:Int)] w fun e w'=>e=.returned (wdT 4 a (.ok (qm (qk s.data.toList)) s.data.toList false))∧QE w.heap.size w w':=by
 have P1:=fun w=>qck s w h;generalize qm (qk s.data.toList)=x at *;have P1:=qb P1;clear h;have hl2:=qcq x.loc;rw[hl]at hl2;have hB:=qbsr w (.cells #[.string ⟨#[]⟩,.string ⟨#[]⟩,.bool false] 32);have hbW:QE w.heap.size w (w.alloc (.cells #[.string ⟨#[]⟩,.string ⟨#[]⟩,.bool false] 32)):=(qbsv _ w).alloc (qbst _) _;have hlw:w.heap.size<(w.alloc (.cells #[.string ⟨#[]⟩,.string ⟨#[]⟩,.bool false] 32)).heap.size:=by simp
 go_enter Tryz.func65,Tryz.ntmps65
 (go_wp2_with fail);generalize w.alloc _=W0 at *;refine(P1.out _).mono ?_;rintro e w1 ⟨vr,vl,rfl,t1,t2,b1⟩;obtain⟨r1,c1,rfl,_⟩:=id t1;obtain⟨q1,d1,rfl,_⟩:=id t2
 try unfold pepV
 obtain⟨V,hV,nP,nF,bV,sV⟩:=ql w1 #[.string (qd x.ep),.slice r1 x.rel.length c1,.int .u8 x.c,.string (qd x.n),.bool x.b,.string (qd x.m),.bool x.d,.string (qd x.k),.slice q1 x.loc.length d1] #[.int .i64 0,.int .i64 0] 44 25;obtain⟨s0,s1,s2,s3,s4,s5,s6,s7,s8,_⟩:=qcd nP;have HV:=qb hV;obtain⟨u0,u1,_,_⟩:=qv nF;clear hV nP nF;obtain⟨k1,k2⟩:=qbh (w:=w) (.string ⟨#[62,61]⟩) (.string s) (.bool false) ((bV.block _ (qbtd hlw b1.size)).trans ((b1.block _ hlw).trans hB)) ((hbW.trans (b1.mono (qbsg hlw))).trans (bV.mono (qbtc (qbsg hlw) b1.size)));have hVB:V.heap[w.heap.size]? = some (.cells #[.string ⟨#[]⟩,.string ⟨#[]⟩,.bool false] 32 (0,0)):=(bV.block _ (qbtd hlw b1.size)).trans ((b1.block _ hlw).trans hB);have x0:=qc 0 hVB rfl;have x1:=qc 1 hVB rfl;have x2:=qc 2 hVB rfl;have y0:=qf 0 hVB;have y1:=qf 1 hVB;have y2:=qf 2 hVB;have K1:=qb k1;have K2:=qb k2;have hq:w.heap.size<w1.heap.size:=qbtd hlw b1.size;clear k1 k2 hVB;go_upto_region 13 with fail
 rw[HV.out];(go_wp2_with fail);refine qdq _ _ w.heap.size _ _ _ _ _ rfl rfl rfl K1.out ?_;exact⟨by rw[qkd];rfl,K2.out⟩
theorem qbjk (s:QY) (a:Nat) (w:QW) (hs:s.size≤256) (ha:a≤256) (h:okP s.data.toList=false) :
  Calls prog 65 #[.string ⟨#[60]⟩,.string s,.int .i64 (a:Int)] w fun e w'=>e=.returned (wdT 5 a (.bad (errX s.data.toList).1 (errX s.data.toList).2))∧QE w.heap.size w w':=by
 have P1:=fun w=>qfp s w h;have hE2:=qhl s.data.toList;have n1:=qdw _ h;generalize (errX s.data.toList).1=E1 at *;generalize (errX s.data.toList).2=E2 at *;have m1:(E1 != 0)=true:=by rw[bne,n1];rfl
 unfold pepZ at P1;have P1:=qb P1;clear h;have hB:=qbsr w (.cells #[.string ⟨#[]⟩,.string ⟨#[]⟩,.bool false] 32);have hbW:QE w.heap.size w (w.alloc (.cells #[.string ⟨#[]⟩,.string ⟨#[]⟩,.bool false] 32)):=(qbsv _ w).alloc (qbst _) _;have hlw:w.heap.size<(w.alloc (.cells #[.string ⟨#[]⟩,.string ⟨#[]⟩,.bool false] 32)).heap.size:=by simp
 go_enter Tryz.func65,Tryz.ntmps65
 (go_wp2_with fail);generalize w.alloc _=W0 at *;refine(P1.out _).mono ?_;rintro e w1 ⟨rfl,b1⟩;obtain⟨V,hV,nP,nF,bV,sV⟩:=ql w1 #[.string ⟨#[]⟩,.slice none 0 0,.int .u8 0,.string ⟨#[]⟩,.bool false,.string ⟨#[]⟩,.bool false,.string ⟨#[]⟩,.slice none 0 0] #[.int .i64 E1,.int .i64 (E2:Int)] 44 25;have HV:=qb hV;obtain⟨u0,u1,_,_⟩:=qv nF;clear hV nP nF;obtain⟨k1,k2⟩:=qbh (w:=w) (.string ⟨#[]⟩) (.string ⟨#[]⟩) (.bool false) ((bV.block _ (qbtd hlw b1.size)).trans ((b1.block _ hlw).trans hB)) ((hbW.trans (b1.mono (qbsg hlw))).trans (bV.mono (qbtc (qbsg hlw) b1.size)));have hVB:V.heap[w.heap.size]? = some (.cells #[.string ⟨#[]⟩,.string ⟨#[]⟩,.bool false] 32 (0,0)):=(bV.block _ (qbtd hlw b1.size)).trans ((b1.block _ hlw).trans hB);have x0:=qc 0 hVB rfl;have x1:=qc 1 hVB rfl;have x2:=qc 2 hVB rfl;have y0:=qf 0 hVB;have y1:=qf 1 hVB;have y2:=qf 2 hVB;have K1:=qb k1;have K2:=qb k2;have hq:w.heap.size<w1.heap.size:=qbtd hlw b1.size;clear k1 k2 hVB;go_upto_region 13 with fail
 rw[HV.out];(go_wp2_with fail);go_region
 all_goals
  (go_wp2_with fail);refine qdq _ _ w.heap.size _ _ _ _ _ rfl rfl rfl K1.out ?_;exact⟨by unfold wdT;push_cast;rfl,K2.out.drew⟩
theorem qbfk (s:QY) (a:Nat) (w:QW) (hs:s.size≤256) (ha:a≤256) (h:okP s.data.toList=true) (hl:((qm (qk s.data.toList)).loc.isEmpty)=false) :
  Calls prog 65 #[.string ⟨#[60]⟩,.string s,.int .i64 (a:Int)] w fun e w'=>e=.returned (wdT 5 a (.bad 19 0))∧QE w.heap.size w w':=by
 have P1:=fun w=>qck s w h;generalize qm (qk s.data.toList)=x at *;have P1:=qb P1;clear h;have hl2:=qcq x.loc;rw[hl]at hl2;have hB:=qbsr w (.cells #[.string ⟨#[]⟩,.string ⟨#[]⟩,.bool false] 32);have hbW:QE w.heap.size w (w.alloc (.cells #[.string ⟨#[]⟩,.string ⟨#[]⟩,.bool false] 32)):=(qbsv _ w).alloc (qbst _) _;have hlw:w.heap.size<(w.alloc (.cells #[.string ⟨#[]⟩,.string ⟨#[]⟩,.bool false] 32)).heap.size:=by simp
 go_enter Tryz.func65,Tryz.ntmps65
 (go_wp2_with fail);generalize w.alloc _=W0 at *;refine(P1.out _).mono ?_;rintro e w1 ⟨vr,vl,rfl,t1,t2,b1⟩;obtain⟨r1,c1,rfl,_⟩:=id t1;obtain⟨q1,d1,rfl,_⟩:=id t2
 try unfold pepV
 obtain⟨V,hV,nP,nF,bV,sV⟩:=ql w1 #[.string (qd x.ep),.slice r1 x.rel.length c1,.int .u8 x.c,.string (qd x.n),.bool x.b,.string (qd x.m),.bool x.d,.string (qd x.k),.slice q1 x.loc.length d1] #[.int .i64 0,.int .i64 0] 44 25;obtain⟨s0,s1,s2,s3,s4,s5,s6,s7,s8,_⟩:=qcd nP;have HV:=qb hV;obtain⟨u0,u1,_,_⟩:=qv nF;clear hV nP nF;obtain⟨k1,k2⟩:=qbh (w:=w) (.string ⟨#[]⟩) (.string ⟨#[]⟩) (.bool false) ((bV.block _ (qbtd hlw b1.size)).trans ((b1.block _ hlw).trans hB)) ((hbW.trans (b1.mono (qbsg hlw))).trans (bV.mono (qbtc (qbsg hlw) b1.size)));have hVB:V.heap[w.heap.size]? = some (.cells #[.string ⟨#[]⟩,.string ⟨#[]⟩,.bool false] 32 (0,0)):=(bV.block _ (qbtd hlw b1.size)).trans ((b1.block _ hlw).trans hB);have x0:=qc 0 hVB rfl;have x1:=qc 1 hVB rfl;have x2:=qc 2 hVB rfl;have y0:=qf 0 hVB;have y1:=qf 1 hVB;have y2:=qf 2 hVB;have K1:=qb k1;have K2:=qb k2;have hq:w.heap.size<w1.heap.size:=qbtd hlw b1.size;clear k1 k2 hVB;go_upto_region 13 with fail
 rw[HV.out];(go_wp2_with fail);refine qdq _ _ w.heap.size _ _ _ _ _ rfl rfl rfl K1.out ?_;exact⟨by unfold wdT;rfl,K2.out⟩
theorem qbjv (s:QY) (a:Nat) (w:QW) (hs:s.size≤256) (ha:a≤256) (h:okP s.data.toList=true) (hl:((qm (qk s.data.toList)).loc.isEmpty)=true) :
  Calls prog 65 #[.string ⟨#[60]⟩,.string s,.int .i64 (a:Int)] w fun e w'=>e=.returned (wdT 5 a (.ok (qm (qk s.data.toList)) s.data.toList false))∧QE w.heap.size w w':=by
 have P1:=fun w=>qck s w h;generalize qm (qk s.data.toList)=x at *;have P1:=qb P1;clear h;have hl2:=qcq x.loc;rw[hl]at hl2;have hB:=qbsr w (.cells #[.string ⟨#[]⟩,.string ⟨#[]⟩,.bool false] 32);have hbW:QE w.heap.size w (w.alloc (.cells #[.string ⟨#[]⟩,.string ⟨#[]⟩,.bool false] 32)):=(qbsv _ w).alloc (qbst _) _;have hlw:w.heap.size<(w.alloc (.cells #[.string ⟨#[]⟩,.string ⟨#[]⟩,.bool false] 32)).heap.size:=by simp
 go_enter Tryz.func65,Tryz.ntmps65
 (go_wp2_with fail);generalize w.alloc _=W0 at *;refine(P1.out _).mono ?_;rintro e w1 ⟨vr,vl,rfl,t1,t2,b1⟩;obtain⟨r1,c1,rfl,_⟩:=id t1;obtain⟨q1,d1,rfl,_⟩:=id t2
 try unfold pepV
 obtain⟨V,hV,nP,nF,bV,sV⟩:=ql w1 #[.string (qd x.ep),.slice r1 x.rel.length c1,.int .u8 x.c,.string (qd x.n),.bool x.b,.string (qd x.m),.bool x.d,.string (qd x.k),.slice q1 x.loc.length d1] #[.int .i64 0,.int .i64 0] 44 25;obtain⟨s0,s1,s2,s3,s4,s5,s6,s7,s8,_⟩:=qcd nP;have HV:=qb hV;obtain⟨u0,u1,_,_⟩:=qv nF;clear hV nP nF;obtain⟨k1,k2⟩:=qbh (w:=w) (.string ⟨#[60]⟩) (.string s) (.bool false) ((bV.block _ (qbtd hlw b1.size)).trans ((b1.block _ hlw).trans hB)) ((hbW.trans (b1.mono (qbsg hlw))).trans (bV.mono (qbtc (qbsg hlw) b1.size)));have hVB:V.heap[w.heap.size]? = some (.cells #[.string ⟨#[]⟩,.string ⟨#[]⟩,.bool false] 32 (0,0)):=(bV.block _ (qbtd hlw b1.size)).trans ((b1.block _ hlw).trans hB);have x0:=qc 0 hVB rfl;have x1:=qc 1 hVB rfl;have x2:=qc 2 hVB rfl;have y0:=qf 0 hVB;have y1:=qf 1 hVB;have y2:=qf 2 hVB;have K1:=qb k1;have K2:=qb k2;have hq:w.heap.size<w1.heap.size:=qbtd hlw b1.size;clear k1 k2 hVB;go_upto_region 13 with fail
 rw[HV.out];(go_wp2_with fail);refine qdq _ _ w.heap.size _ _ _ _ _ rfl rfl rfl K1.out ?_;exact⟨by rw[qkd];rfl,K2.out⟩
theorem qbkq (s:QY) (a:Nat) (w:QW) (hs:s.size≤256) (ha:a≤256) (h:okP s.data.toList=false) :
  Calls prog 65 #[.string ⟨#[62]⟩,.string s,.int .i64 (a:Int)] w fun e w'=>e=.returned (wdT 6 a (.bad (errX s.data.toList).1 (errX s.data.toList).2))∧QE w.heap.size w w':=by
 have P1:=fun w=>qfp s w h;have hE2:=qhl s.data.toList;have n1:=qdw _ h;generalize (errX s.data.toList).1=E1 at *;generalize (errX s.data.toList).2=E2 at *;have m1:(E1 != 0)=true:=by rw[bne,n1];rfl
 unfold pepZ at P1;have P1:=qb P1;clear h;have hB:=qbsr w (.cells #[.string ⟨#[]⟩,.string ⟨#[]⟩,.bool false] 32);have hbW:QE w.heap.size w (w.alloc (.cells #[.string ⟨#[]⟩,.string ⟨#[]⟩,.bool false] 32)):=(qbsv _ w).alloc (qbst _) _;have hlw:w.heap.size<(w.alloc (.cells #[.string ⟨#[]⟩,.string ⟨#[]⟩,.bool false] 32)).heap.size:=by simp
 go_enter Tryz.func65,Tryz.ntmps65
 (go_wp2_with fail);generalize w.alloc _=W0 at *;refine(P1.out _).mono ?_;rintro e w1 ⟨rfl,b1⟩;obtain⟨V,hV,nP,nF,bV,sV⟩:=ql w1 #[.string ⟨#[]⟩,.slice none 0 0,.int .u8 0,.string ⟨#[]⟩,.bool false,.string ⟨#[]⟩,.bool false,.string ⟨#[]⟩,.slice none 0 0] #[.int .i64 E1,.int .i64 (E2:Int)] 44 25;have HV:=qb hV;obtain⟨u0,u1,_,_⟩:=qv nF;clear hV nP nF;obtain⟨k1,k2⟩:=qbh (w:=w) (.string ⟨#[]⟩) (.string ⟨#[]⟩) (.bool false) ((bV.block _ (qbtd hlw b1.size)).trans ((b1.block _ hlw).trans hB)) ((hbW.trans (b1.mono (qbsg hlw))).trans (bV.mono (qbtc (qbsg hlw) b1.size)));have hVB:V.heap[w.heap.size]? = some (.cells #[.string ⟨#[]⟩,.string ⟨#[]⟩,.bool false] 32 (0,0)):=(bV.block _ (qbtd hlw b1.size)).trans ((b1.block _ hlw).trans hB);have x0:=qc 0 hVB rfl;have x1:=qc 1 hVB rfl;have x2:=qc 2 hVB rfl;have y0:=qf 0 hVB;have y1:=qf 1 hVB;have y2:=qf 2 hVB;have K1:=qb k1;have K2:=qb k2;have hq:w.heap.size<w1.heap.size:=qbtd hlw b1.size;clear k1 k2 hVB;go_upto_region 13 with fail
 rw[HV.out];(go_wp2_with fail);go_region
 all_goals
  (go_wp2_with fail);refine qdq _ _ w.heap.size _ _ _ _ _ rfl rfl rfl K1.out ?_;exact⟨by unfold wdT;push_cast;rfl,K2.out.drew⟩
theorem qbhq (s:QY) (a:Nat) (w:QW) (hs:s.size≤256) (ha:a≤256) (h:okP s.data.toList=true) (hl:((qm (qk s.data.toList)).loc.isEmpty)=false) :
  Calls prog 65 #[.string ⟨#[62]⟩,.string s,.int .i64 (a:Int)] w fun e w'=>e=.returned (wdT 6 a (.bad 19 0))∧QE w.heap.size w w':=by
 have P1:=fun w=>qck s w h;generalize qm (qk s.data.toList)=x at *;have P1:=qb P1;clear h;have hl2:=qcq x.loc;rw[hl]at hl2;have hB:=qbsr w (.cells #[.string ⟨#[]⟩,.string ⟨#[]⟩,.bool false] 32);have hbW:QE w.heap.size w (w.alloc (.cells #[.string ⟨#[]⟩,.string ⟨#[]⟩,.bool false] 32)):=(qbsv _ w).alloc (qbst _) _;have hlw:w.heap.size<(w.alloc (.cells #[.string ⟨#[]⟩,.string ⟨#[]⟩,.bool false] 32)).heap.size:=by simp
 go_enter Tryz.func65,Tryz.ntmps65
 (go_wp2_with fail);generalize w.alloc _=W0 at *;refine(P1.out _).mono ?_;rintro e w1 ⟨vr,vl,rfl,t1,t2,b1⟩;obtain⟨r1,c1,rfl,_⟩:=id t1;obtain⟨q1,d1,rfl,_⟩:=id t2
 try unfold pepV
 obtain⟨V,hV,nP,nF,bV,sV⟩:=ql w1 #[.string (qd x.ep),.slice r1 x.rel.length c1,.int .u8 x.c,.string (qd x.n),.bool x.b,.string (qd x.m),.bool x.d,.string (qd x.k),.slice q1 x.loc.length d1] #[.int .i64 0,.int .i64 0] 44 25;obtain⟨s0,s1,s2,s3,s4,s5,s6,s7,s8,_⟩:=qcd nP;have HV:=qb hV;obtain⟨u0,u1,_,_⟩:=qv nF;clear hV nP nF;obtain⟨k1,k2⟩:=qbh (w:=w) (.string ⟨#[]⟩) (.string ⟨#[]⟩) (.bool false) ((bV.block _ (qbtd hlw b1.size)).trans ((b1.block _ hlw).trans hB)) ((hbW.trans (b1.mono (qbsg hlw))).trans (bV.mono (qbtc (qbsg hlw) b1.size)));have hVB:V.heap[w.heap.size]? = some (.cells #[.string ⟨#[]⟩,.string ⟨#[]⟩,.bool false] 32 (0,0)):=(bV.block _ (qbtd hlw b1.size)).trans ((b1.block _ hlw).trans hB);have x0:=qc 0 hVB rfl;have x1:=qc 1 hVB rfl;have x2:=qc 2 hVB rfl;have y0:=qf 0 hVB;have y1:=qf 1 hVB;have y2:=qf 2 hVB;have K1:=qb k1;have K2:=qb k2;have hq:w.heap.size<w1.heap.size:=qbtd hlw b1.size;clear k1 k2 hVB;go_upto_region 13 with fail
 rw[HV.out];(go_wp2_with fail);refine qdq _ _ w.heap.size _ _ _ _ _ rfl rfl rfl K1.out ?_;exact⟨by unfold wdT;rfl,K2.out⟩
theorem qbjf (s:QY) (a:Nat) (w:QW) (hs:s.size≤256) (ha:a≤256) (h:okP s.data.toList=true) (hl:((qm (qk s.data.toList)).loc.isEmpty)=true) :
  Calls prog 65 #[.string ⟨#[62]⟩,.string s,.int .i64 (a:Int)] w fun e w'=>e=.returned (wdT 6 a (.ok (qm (qk s.data.toList)) s.data.toList false))∧QE w.heap.size w w':=by
 have P1:=fun w=>qck s w h;generalize qm (qk s.data.toList)=x at *;have P1:=qb P1;clear h;have hl2:=qcq x.loc;rw[hl]at hl2;have hB:=qbsr w (.cells #[.string ⟨#[]⟩,.string ⟨#[]⟩,.bool false] 32);have hbW:QE w.heap.size w (w.alloc (.cells #[.string ⟨#[]⟩,.string ⟨#[]⟩,.bool false] 32)):=(qbsv _ w).alloc (qbst _) _;have hlw:w.heap.size<(w.alloc (.cells #[.string ⟨#[]⟩,.string ⟨#[]⟩,.bool false] 32)).heap.size:=by simp
 go_enter Tryz.func65,Tryz.ntmps65
 (go_wp2_with fail);generalize w.alloc _=W0 at *;refine(P1.out _).mono ?_;rintro e w1 ⟨vr,vl,rfl,t1,t2,b1⟩;obtain⟨r1,c1,rfl,_⟩:=id t1;obtain⟨q1,d1,rfl,_⟩:=id t2
 try unfold pepV
 obtain⟨V,hV,nP,nF,bV,sV⟩:=ql w1 #[.string (qd x.ep),.slice r1 x.rel.length c1,.int .u8 x.c,.string (qd x.n),.bool x.b,.string (qd x.m),.bool x.d,.string (qd x.k),.slice q1 x.loc.length d1] #[.int .i64 0,.int .i64 0] 44 25;obtain⟨s0,s1,s2,s3,s4,s5,s6,s7,s8,_⟩:=qcd nP;have HV:=qb hV;obtain⟨u0,u1,_,_⟩:=qv nF;clear hV nP nF;obtain⟨k1,k2⟩:=qbh (w:=w) (.string ⟨#[62]⟩) (.string s) (.bool false) ((bV.block _ (qbtd hlw b1.size)).trans ((b1.block _ hlw).trans hB)) ((hbW.trans (b1.mono (qbsg hlw))).trans (bV.mono (qbtc (qbsg hlw) b1.size)));have hVB:V.heap[w.heap.size]? = some (.cells #[.string ⟨#[]⟩,.string ⟨#[]⟩,.bool false] 32 (0,0)):=(bV.block _ (qbtd hlw b1.size)).trans ((b1.block _ hlw).trans hB);have x0:=qc 0 hVB rfl;have x1:=qc 1 hVB rfl;have x2:=qc 2 hVB rfl;have y0:=qf 0 hVB;have y1:=qf 1 hVB;have y2:=qf 2 hVB;have K1:=qb k1;have K2:=qb k2;have hq:w.heap.size<w1.heap.size:=qbtd hlw b1.size;clear k1 k2 hVB;go_upto_region 13 with fail
 rw[HV.out];(go_wp2_with fail);refine qdq _ _ w.heap.size _ _ _ _ _ rfl rfl rfl K1.out ?_;exact⟨by rw[qkd];rfl,K2.out⟩
set_option maxHeartbeats 2000000
set_option maxRecDepth 100000
theorem blk_is (c:Int):isC c 6=(c==32||c==9):=by
 unfold isC;rw[if_neg (by decide),if_neg (by decide),if_neg (by decide),if_neg (by decide),if_neg (by decide),if_pos rfl]
 by_cases h1:c=32
 ·subst h1;rfl
 ·by_cases h2:c=9
  ·subst h2;rfl
  ·rw[decide_eq_false h1,decide_eq_false h2,beq_eq_false_iff_ne.2 h1,beq_eq_false_iff_ne.2 h2]
theorem qwf (c:Int) (w:World):Calls Tryz.prog 64 #[.int .u8 c] w fun e w'=>e=.returned (.bool (isC c 6))∧w'=w:=by
 rw[blk_is];cases h1:(c==32)
 ·go_enter Tryz.func64,Tryz.ntmps64
  (go_wp2_with fail);go_ret
  exact⟨rfl,rfl⟩
 ·go_enter Tryz.func64,Tryz.ntmps64
  (go_wp2_with fail);go_ret
  exact⟨rfl,rfl⟩
theorem qrr (s:QY) (a:Nat) (w:World) (hs:s.size≤256) (ha:a≤s.size):Calls Tryz.prog 62 #[.string s,.int .i64 (a:Int)] w fun e w'=>e=.returned (.int .i64 (skL s.data.toList a:Int))∧w'=w:=by
 have hk:skL s.data.toList a=a+qp 6 (s.data.toList.drop a):=rfl;generalize skL s.data.toList a=z at *;have HK:=qb hk;clear hk;go_enter Tryz.func62,Tryz.ntmps62
 (go_wp2_with fail);go_loopw [1] (fun y wr=>∃ i:Nat,i≤s.size∧y=.int .i64 i∧Hid (z=i+qp 6 (s.data.toList.drop i))∧wr=w) (fun y _=>s.size-(intOf y).toNat)
 case atStart=>exact⟨a,ha,rfl,HK,rfl⟩
 case round=>
  obtain⟨i,hi,rfl,HZ,rfl⟩:=hrel
  by_cases hlt:i<s.size
  ·have hlt':(i:Int)<(s.size:Int):=by omega
   have B0:=fun W=>qwf (s[i].toNat:Int) W;cases hc:isC (s[i].toNat:Int) 6
   ·rw[hc]at B0;have B0:=qb B0;have HZ2:Hid (z=i):=qb (by rw[HZ.out,qqx 6 s i hlt hc,Nat.add_zero])
    clear hc;go_wp2_with (go_at_call 64;refine(B0.out _).mono ?_;rintro e w9 ⟨rfl,rfl⟩)
    go_ret
    exact⟨by rw[HZ2.out];rfl,rfl⟩
   ·rw[hc]at B0;have B0:=qb B0;have HZ2:Hid (z=i+1+qp 6 (s.data.toList.drop (i+1))):=qb (by rw[HZ.out,qvt 6 s i hlt hc];omega)
    clear hc;go_wp2_with (go_at_call 64;refine(B0.out _).mono ?_;rintro e w9 ⟨rfl,rfl⟩)
    go_roundw
    case rel=>exact⟨i+1,by omega,by go_num,HZ2,by trivial⟩
    case measure=>simp[intOf];omega
  ·have hlt':¬ (i:Int)<(s.size:Int):=by omega
   have HZ2:Hid (z=i):=qb (by rw[HZ.out,qtl 6 s i (by omega),Nat.add_zero])
   (go_wp2_with fail);go_ret
   exact⟨by rw[HZ2.out];rfl,rfl⟩
theorem qfq (s:QY) (w:World) (hs:s.size≤140737488351232) :
  Calls Tryz.prog 90 #[.string s] w fun e w'=>e=.returned (.tuple #[.string (if qcr s.data.toList=true then s.extract 0 (s.size-2) else s),.bool (qcr s.data.toList)])∧w'=w:=by
 generalize hT:(if qcr s.data.toList=true then s.extract 0 (s.size-2) else s)=T;have HT:=qb hT;clear hT
 by_cases h2:2≤s.size
 ·have hE:=qbgd s h2;have h3:(2:Int)≤(s.size:Int):=by omega
  have hsub:((s.size:Int)-2)=((s.size-2:Nat):Int):=by omega
  cases hB:qcr s.data.toList
  ·rw[hB]at hE;have HT2:Hid (T=s):=qb (by rw[←HT.out,hB];rfl)
   clear hB;go_enter Tryz.func90,Tryz.ntmps90
   (go_wp2_with fail);go_ret2
   exact⟨by rw[HT2.out];rfl,rfl⟩
  ·rw[hB]at hE;have HT2:Hid (T=s.extract 0 (s.size-2)):=qb (by rw[←HT.out,hB];rfl)
   clear hB;go_enter Tryz.func90,Tryz.ntmps90
   (go_wp2_with fail);go_ret2
   exact⟨by rw[HT2.out];rfl,rfl⟩
 ·have h3:¬ (2:Int)≤(s.size:Int):=by omega
  have hB:qcr s.data.toList=false:=by unfold qcr;rw[qg,decide_eq_false h2];rfl
  have HT2:Hid (T=s):=qb (by rw[←HT.out,hB];rfl)
  rw[hB];clear hB;go_enter Tryz.func90,Tryz.ntmps90
  (go_wp2_with fail);go_ret2
  exact⟨by rw[HT2.out];rfl,rfl⟩
theorem qmp (x:PepL) (r1 q1:Option Addr) (c1 d1:Nat) (w:World) :
  Calls Tryz.prog 91 #[.agg #[.string (qd x.ep),.slice r1 x.rel.length c1,.int .u8 x.c,.string (qd x.n),.bool x.b,.string (qd x.m),.bool x.d,.string (qd x.k),.slice q1 x.loc.length d1]] w fun e w'=>e=.returned (.bool (qgb x))∧Below w.heap.size w w':=by
 have h0:=qcq x.loc;have hBB:qgb x=((x.c==0)&&!x.b&&!x.d&&x.loc.isEmpty):=by
  unfold qgb pubB;cases x.loc.isEmpty<;>cases (x.c==0)<;>cases x.b<;>cases x.d<;>rfl
 rw[hBB];clear hBB;generalize x.loc.isEmpty=le at *;have n0:=World.alloc_heap_new w (.cells #[.string (qd x.ep),.slice r1 x.rel.length c1,.int .u8 x.c,.string (qd x.n),.bool x.b,.string (qd x.m),.bool x.d,.string (qd x.k),.slice q1 x.loc.length d1] 44);have hb:Below w.heap.size w (w.alloc (.cells #[.string (qd x.ep),.slice r1 x.rel.length c1,.int .u8 x.c,.string (qd x.n),.bool x.b,.string (qd x.m),.bool x.d,.string (qd x.k),.slice q1 x.loc.length d1] 44)):=(Below.refl _ w).alloc (Nat.le_refl _) _;obtain⟨V,hV⟩:∃ V,w.alloc (.cells #[.string (qd x.ep),.slice r1 x.rel.length c1,.int .u8 x.c,.string (qd x.n),.bool x.b,.string (qd x.m),.bool x.d,.string (qd x.k),.slice q1 x.loc.length d1] 44)=V:=⟨_,rfl⟩;rw[hV]at n0 hb;obtain⟨s0,s1,s2,s3,s4,s5,s6,s7,s8,_⟩:=qcd n0;clear n0;generalize h1:x.b=xb at *;generalize h2:x.d=xd at *;cases hc:(x.c==0)
 ·go_enter Tryz.func91,Tryz.ntmps91
  (go_wp2_with fail);go_ret
  exact⟨rfl,hb⟩
 ·cases xb
  ·cases xd
   ·go_enter Tryz.func91,Tryz.ntmps91
    (go_wp2_with fail);go_ret
    exact⟨rfl,hb⟩
   ·go_enter Tryz.func91,Tryz.ntmps91
    (go_wp2_with fail);go_ret
    exact⟨rfl,hb⟩
  ·go_enter Tryz.func91,Tryz.ntmps91
   (go_wp2_with fail);go_ret
   exact⟨rfl,hb⟩
end Go.Proofs.YtabmfdedbpmfmaaGreat
