/- Walks: less. -/
import Derived.Test.YtabmfdedbpmfmaaGreatVZe
import Derived.Deep.Cut
import Derived.Deep.RegionHeld3
import Derived.Test.YtabmfdedbpmfmaaGreatVQc
import Derived.Test.YtabmfdedbpmfmaaGreatVPu
import Derived.Test.YtabmfdedbpmfmaaGreatVYc
namespace Go.Proofs.YtabmfdedbpmfmaaGreat
open Go.RowKit Go.Shelf
set_option linter.unusedVariables false
set_option maxHeartbeats 4000000
set_option maxRecDepth 100000
theorem upTo_any (x y:PepL) (r1 r2 q1 q2:Option Addr) (c1 c2 d1 d2:Nat) (t u:QY) (st su:Bool) (w:World) (ra:qx w (.slice r1 x.rel.length c1) x.rel) (rb:qx w (.slice r2 y.rel.length c2) y.rel) (la:qx w (.slice q1 x.loc.length d1) x.loc) (lb:qx w (.slice q2 y.loc.length d2) y.loc) (O:Int)
  (OP:∀ W,qx W (.slice r1 x.rel.length c1) x.rel→qx W (.slice r2 y.rel.length c2) y.rel→qx W (.slice q1 x.loc.length d1) x.loc→qx W (.slice q2 y.loc.length d2) y.loc→Calls Tryz.prog 175 #[.agg #[.string (qd x.ep),.slice r1 x.rel.length c1,.int .u8 x.c,.string (qd x.n),.bool x.b,.string (qd x.m),.bool x.d,.string (qd x.k),.slice q1 x.loc.length d1,.string t,.bool st],.agg #[.string (qd y.ep),.slice r2 y.rel.length c2,.int .u8 y.c,.string (qd y.n),.bool y.b,.string (qd y.m),.bool y.d,.string (qd y.k),.slice q2 y.loc.length d2,.string u,.bool su]] W fun e W'=>e=.returned (.int .i64 O)∧Below W.heap.size W W') :
  Calls Tryz.prog 155 #[.agg #[.string (qd x.ep),.slice r1 x.rel.length c1,.int .u8 x.c,.string (qd x.n),.bool x.b,.string (qd x.m),.bool x.d,.string (qd x.k),.slice q1 x.loc.length d1,.string t,.bool st],.agg #[.string (qd y.ep),.slice r2 y.rel.length c2,.int .u8 y.c,.string (qd y.n),.bool y.b,.string (qd y.m),.bool y.d,.string (qd y.k),.slice q2 y.loc.length d2,.string u,.bool su]] w fun e w'=>e=.returned (.bool (decide (O≤0)))∧Below w.heap.size w w':=by
 have S0:=VB.start ra rb la lb t u st su;have OP:=qb OP;clear ra rb la lb;go_enter Tryz.func155,Tryz.ntmps155
 (go_wp2_with fail);generalize (w.alloc _).alloc _=W0 at *;obtain⟨s0,s1,s2,s3,s4,s5,s6,s7,s8,s9,s10,_⟩:=qh S0.ea;obtain⟨v0,v1,v2,v3,v4,v5,v6,v7,v8,v9,v10,_⟩:=qh S0.eb;(go_wp2_with fail);refine(OP.out _ S0.ra S0.rb S0.la S0.lb).mono ?_;rintro e w6 ⟨rfl,b6⟩;have Q2:=S0.next b6;(go_wp2_with fail);go_ret
 exact⟨rfl,Q2.bel⟩
theorem qbhs (x y:PepL) (r1 r2 q1 q2:Option Addr) (c1 c2 d1 d2:Nat) (t u:QY) (st su:Bool) (w:World) (ra:qx w (.slice r1 x.rel.length c1) x.rel) (rb:qx w (.slice r2 y.rel.length c2) y.rel) (la:qx w (.slice q1 x.loc.length d1) x.loc) (lb:qx w (.slice q2 y.loc.length d2) y.loc) (O:Int)
  (OP:∀ W,qx W (.slice r1 x.rel.length c1) x.rel→qx W (.slice r2 y.rel.length c2) y.rel→qx W (.slice q1 x.loc.length d1) x.loc→qx W (.slice q2 y.loc.length d2) y.loc→Calls Tryz.prog 175 #[.agg #[.string (qd x.ep),.slice r1 x.rel.length c1,.int .u8 x.c,.string (qd x.n),.bool x.b,.string (qd x.m),.bool x.d,.string (qd x.k),.slice q1 x.loc.length d1,.string t,.bool st],.agg #[.string (qd y.ep),.slice r2 y.rel.length c2,.int .u8 y.c,.string (qd y.n),.bool y.b,.string (qd y.m),.bool y.d,.string (qd y.k),.slice q2 y.loc.length d2,.string u,.bool su]] W fun e W'=>e=.returned (.int .i64 O)∧Below W.heap.size W W') :
  Calls Tryz.prog 156 #[.agg #[.string (qd x.ep),.slice r1 x.rel.length c1,.int .u8 x.c,.string (qd x.n),.bool x.b,.string (qd x.m),.bool x.d,.string (qd x.k),.slice q1 x.loc.length d1,.string t,.bool st],.agg #[.string (qd y.ep),.slice r2 y.rel.length c2,.int .u8 y.c,.string (qd y.n),.bool y.b,.string (qd y.m),.bool y.d,.string (qd y.k),.slice q2 y.loc.length d2,.string u,.bool su]] w fun e w'=>e=.returned (.bool (decide (0≤O)))∧Below w.heap.size w w':=by
 have S0:=VB.start ra rb la lb t u st su;have OP:=qb OP;clear ra rb la lb;go_enter Tryz.func156,Tryz.ntmps156
 (go_wp2_with fail);generalize (w.alloc _).alloc _=W0 at *;obtain⟨s0,s1,s2,s3,s4,s5,s6,s7,s8,s9,s10,_⟩:=qh S0.ea;obtain⟨v0,v1,v2,v3,v4,v5,v6,v7,v8,v9,v10,_⟩:=qh S0.eb;(go_wp2_with fail);refine(OP.out _ S0.ra S0.rb S0.la S0.lb).mono ?_;rintro e w6 ⟨rfl,b6⟩;have Q2:=S0.next b6;(go_wp2_with fail);go_ret
 exact⟨rfl,Q2.bel⟩
theorem qbfx {W:World} {B:Nat} {z0 z1 z2 z3 z4 z5 z6 z7 z8:Value} (h:W.heap[B]? = some (.cells #[z0,z1,z2,z3,z4,z5,z6,z7,z8] 44 (0,0))) (a0 a1 a2 a3 a4 a5 a6 a7 a8:Value) :
  ∃ W',W'=((((((((W.setCell ⟨B,0,none⟩ a0).setCell ⟨B,1,none⟩ a1).setCell ⟨B,2,none⟩ a2).setCell ⟨B,3,none⟩ a3).setCell ⟨B,4,none⟩ a4).setCell ⟨B,5,none⟩ a5).setCell ⟨B,6,none⟩ a6).setCell ⟨B,7,none⟩ a7).setCell ⟨B,8,none⟩ a8∧W'.heap[B]? = some (.cells #[a0,a1,a2,a3,a4,a5,a6,a7,a8] 44 (0,0))∧Turn B W W':=by
 refine⟨putL W B 0 [a0,a1,a2,a3,a4,a5,a6,a7,a8],rfl,?_,qcg _ W B 0⟩;have k:=qcn [a0,a1,a2,a3,a4,a5,a6,a7,a8] W B 0 _ _ h;have hc:qfj #[z0,z1,z2,z3,z4,z5,z6,z7,z8] 0 [a0,a1,a2,a3,a4,a5,a6,a7,a8]=#[a0,a1,a2,a3,a4,a5,a6,a7,a8]:=by simp[qfj]
 rw[←hc];exact k
theorem qwn (x:PepL) (r1 q1:Option Addr) (c1 d1:Nat) (w:World) :
  Calls Tryz.prog 171 #[.agg #[.string (qd x.ep),.slice r1 x.rel.length c1,.int .u8 x.c,.string (qd x.n),.bool x.b,.string (qd x.m),.bool x.d,.string (qd x.k),.slice q1 x.loc.length d1]] w fun e w'=>e=.returned (.agg #[.string (qd x.ep),.slice r1 x.rel.length c1,.int .u8 0,.string ⟨#[]⟩,.bool false,.string ⟨#[]⟩,.bool false,.string ⟨#[]⟩,.slice none 0 0])∧Below w.heap.size w w':=by
 obtain⟨V,hV,n1,n2,bV,sV⟩:=qm w #[.string (qd x.ep),.slice r1 x.rel.length c1,.int .u8 x.c,.string (qd x.n),.bool x.b,.string (qd x.m),.bool x.d,.string (qd x.k),.slice q1 x.loc.length d1] #[.string ⟨#[]⟩,.slice none 0 0,.int .u8 0,.string ⟨#[]⟩,.bool false,.string ⟨#[]⟩,.bool false,.string ⟨#[]⟩,.slice none 0 0] 44 44;obtain⟨s0,s1,s2,s3,s4,s5,s6,s7,s8,_⟩:=qbw n1;obtain⟨x0,x1,x2,x3,x4,x5,x6,x7,x8,y0,y1,y2,y3,y4,y5,y6,y7,y8⟩:=qbw n2;obtain⟨W9,hW9,h9,T9⟩:=qbfx n2 (.string (qd x.ep)) (.slice r1 x.rel.length c1) (.int .u8 0) (.string ⟨#[]⟩) (.bool false) (.string ⟨#[]⟩) (.bool false) (.string ⟨#[]⟩) (.slice none 0 0);have HW9:=qb hW9;have H9:=qb h9;have HB:=qb (bV.trans (T9.below (by omega) bV.size))
 clear n1 n2 bV hW9 h9 T9;go_enter Tryz.func171,Tryz.ntmps171
 (go_wp2_with fail);rw[←HW9.out];refine bodyPost_ret (results_cell_row rfl _ _ (w.heap.size+1) 44 _ (0,0) _ rfl H9.out Tryz.underlying44 rfl qrz) rfl ?_;exact⟨rfl,HB.out⟩
theorem qbck (x y:PepL) (r1 r2 q1 q2:Option Addr) (c1 c2 d1 d2:Nat) (t u:QY) (st su:Bool) (w:World) (ra:qx w (.slice r1 x.rel.length c1) x.rel) (rb:qx w (.slice r2 y.rel.length c2) y.rel) (la:qx w (.slice q1 x.loc.length d1) x.loc) (lb:qx w (.slice q2 y.loc.length d2) y.loc) (O:Int)
 (OD:∀ W,qx W (.slice r1 x.rel.length c1) x.rel→qx W (.slice r2 y.rel.length c2) y.rel→Calls Tryz.prog 176 #[.agg #[.string (qd x.ep),.slice r1 x.rel.length c1,.int .u8 0,.string ⟨#[]⟩,.bool false,.string ⟨#[]⟩,.bool false,.string ⟨#[]⟩,.slice none 0 0],.agg #[.string (qd y.ep),.slice r2 y.rel.length c2,.int .u8 0,.string ⟨#[]⟩,.bool false,.string ⟨#[]⟩,.bool false,.string ⟨#[]⟩,.slice none 0 0]] W fun e W'=>e=.returned (.int .i64 O)∧Below W.heap.size W W') :
 Calls Tryz.prog 177 #[.agg #[.string (qd x.ep),.slice r1 x.rel.length c1,.int .u8 x.c,.string (qd x.n),.bool x.b,.string (qd x.m),.bool x.d,.string (qd x.k),.slice q1 x.loc.length d1,.string t,.bool st],.agg #[.string (qd y.ep),.slice r2 y.rel.length c2,.int .u8 y.c,.string (qd y.n),.bool y.b,.string (qd y.m),.bool y.d,.string (qd y.k),.slice q2 y.loc.length d2,.string u,.bool su]] w fun e w'=>e=.returned (.bool (O==0))∧Below w.heap.size w w':=by
  have S0:=VB.start ra rb la lb t u st su;have B1:=qb (fun W=>qwn x r1 q1 c1 d1 W);have B2:=qb (fun W=>qwn y r2 q2 c2 d2 W);have OD:=qb OD;clear ra rb la lb;go_enter Tryz.func177,Tryz.ntmps177
  (go_wp2_with fail);generalize (w.alloc _).alloc _=W0 at *;obtain⟨s0,s1,s2,s3,s4,s5,s6,s7,s8,s9,s10,_⟩:=qh S0.ea;obtain⟨v0,v1,v2,v3,v4,v5,v6,v7,v8,v9,v10,_⟩:=qh S0.eb;have D0:=S0.next (Below.refl _ _).drew
  go_region_held3 (fun w'=>w'.cell? ⟨w.heap.size,0,none⟩=some (.string (qd x.ep))∧w'.cell? ⟨w.heap.size,1,none⟩=some (.slice r1 x.rel.length c1)∧w'.cell? ⟨w.heap.size,2,none⟩=some (.int .u8 x.c)∧w'.cell? ⟨w.heap.size,3,none⟩=some (.string (qd x.n))∧w'.cell? ⟨w.heap.size,4,none⟩=some (.bool x.b)∧w'.cell? ⟨w.heap.size,5,none⟩=some (.string (qd x.m))∧w'.cell? ⟨w.heap.size,6,none⟩=some (.bool x.d)∧w'.cell? ⟨w.heap.size,7,none⟩=some (.string (qd x.k))∧w'.cell? ⟨w.heap.size,8,none⟩=some (.slice q1 x.loc.length d1)∧w'.cell? ⟨w.heap.size+1,0,none⟩=some (.string (qd y.ep))∧w'.cell? ⟨w.heap.size+1,1,none⟩=some (.slice r2 y.rel.length c2)∧w'.cell? ⟨w.heap.size+1,2,none⟩=some (.int .u8 y.c)∧w'.cell? ⟨w.heap.size+1,3,none⟩=some (.string (qd y.n))∧w'.cell? ⟨w.heap.size+1,4,none⟩=some (.bool y.b)∧w'.cell? ⟨w.heap.size+1,5,none⟩=some (.string (qd y.m))∧w'.cell? ⟨w.heap.size+1,6,none⟩=some (.bool y.d)∧w'.cell? ⟨w.heap.size+1,7,none⟩=some (.string (qd y.k))∧w'.cell? ⟨w.heap.size+1,8,none⟩=some (.slice q2 y.loc.length d2))
    (go_keep)
    ((first
      | (have hq:=Q3;go_at_call 176;refine(OD.out _ Q3.ra Q3.rb).mono ?_;rintro e w7 ⟨rfl,b7⟩;have Q4:=Q3.next b7;obtain⟨k0,k1,k2,k3,k4,k5,k6,k7,k8,k9,k10,_⟩:=qh Q4.ea;obtain⟨l0,l1,l2,l3,l4,l5,l6,l7,l8,l9,l10,_⟩:=qh Q4.eb)
      | (have hq:=Q1;go_at_call 171;refine(B2.out _).mono ?_;rintro e w6 ⟨rfl,b6⟩;have Q3:=Q1.next b6;obtain⟨g0,g1,g2,g3,g4,g5,g6,g7,g8,g9,g10,_⟩:=qh Q3.ea;obtain⟨h0,h1,h2,h3,h4,h5,h6,h7,h8,h9,h10,_⟩:=qh Q3.eb)
      | (go_at_call 171;refine(B1.out _).mono ?_;rintro e w5 ⟨rfl,b5⟩;have Q1:=D0.next b5;obtain⟨e0,e1,e2,e3,e4,e5,e6,e7,e8,e9,e10,_⟩:=qh Q1.ea;obtain⟨f0,f1,f2,f3,f4,f5,f6,f7,f8,f9,f10,_⟩:=qh Q1.eb)
      | fail))
  (go_wp2_with fail);go_ret
  exact⟨rfl,Q4.bel⟩
open List renaming length_take → qbsz
set_option maxHeartbeats 4000000
set_option maxRecDepth 100000
def begB (e1:QB) (r1:List QB) (e2:QB) (r2:List QB):Bool:=(e1==e2)&&((r1++List.replicate (r2.length-r1.length) [48]).take r2.length==r2)
theorem txtP_of {W:World} {g o n c:Nat} {ts:List QB} (h:qx W (.slice (some ⟨g,o,none⟩) n c) ts) (hne:ts≠[]):TxtP W ⟨g,o,none⟩ ts∧g<W.heap.size:=by
 obtain⟨a,cap,e,h0|⟨b,off,rfl,hlt,hc⟩⟩:=h
 ·exact absurd h0 hne
 ·cases e;exact⟨qvk hc,hlt⟩
theorem qqh {W:World} {base:Nat} {v:Value} {ts:List QB} (h:W.ownsRow base 9 1 v ts.length (valT ts)):∃ a c,v=.slice a ts.length c∧ts.length≤c∧∀ k,k≤ts.length→qx W (.slice a k c) (ts.take k):=by
 rcases h.2 with ⟨rfl,h0⟩|⟨g,cap,cur,rfl,hg,hh,hcap,_,hsz,ht⟩
 ·exact⟨none,0,by rw[h0],by omega,fun k hk=>⟨none,0,by rw[qbsz,show k=0 by omega];simp,.inl (by rw[List.length_eq_zero_iff.1 h0];simp)⟩⟩
 ·refine ⟨_,cap,rfl,hcap,fun k hk=>?_⟩;have ho:W.ownsRow base 9 1 (.slice (some ⟨g,0,none⟩) (ts.take k).length cap) (ts.take k).length (valT (ts.take k)):=by
   refine⟨by simp[valT],.inr ⟨g,cap,cur,rfl,hg,hh,by rw[qbsz];omega,by assumption,hsz,?_⟩⟩
   rw[qbsz,Nat.min_eq_left hk,Nat.mul_one];have e:(valT ts).take k=valT (ts.take k):=by simp[valT]
   rw[←e,←ht,List.take_take,Nat.mul_one,Nat.min_eq_left hk]
  have:=qtf ho
  rwa [qbsz,Nat.min_eq_left hk]at this
theorem qbml (x:PepL) (ep:QB) (rs:List QB) (g1 o1 c1 d1 c2:Nat) (q1 r2:Option Addr) (v2 v3 v4 v5 v6 v7 v8:Value) (w:World) (ra:qx w (.slice (some ⟨g1,o1,none⟩) x.rel.length c1) x.rel) (hx:x.rel≠[]) (rb:qx w (.slice r2 rs.length c2) rs) (la:x.rel.length≤100) (lb:rs.length≤100) :
 Calls Tryz.prog 172 #[.agg #[.string (qd x.ep),.slice (some ⟨g1,o1,none⟩) x.rel.length c1,.int .u8 x.c,.string (qd x.n),.bool x.b,.string (qd x.m),.bool x.d,.string (qd x.k),.slice q1 x.loc.length d1],.agg #[.string (qd ep),.slice r2 rs.length c2,v2,v3,v4,v5,v6,v7,v8]] w fun e w'=>e=.returned (.bool (begB x.ep x.rel ep rs))∧Below w.heap.size w w':=by
  obtain⟨ta,hga⟩:=txtP_of ra hx;obtain⟨V,hV,n1,n2,bV,sV⟩:=qm w #[.string (qd x.ep),.slice (some ⟨g1,o1,none⟩) x.rel.length c1,.int .u8 x.c,.string (qd x.n),.bool x.b,.string (qd x.m),.bool x.d,.string (qd x.k),.slice q1 x.loc.length d1] #[.string (qd ep),.slice r2 rs.length c2,v2,v3,v4,v5,v6,v7,v8] 44 44;obtain⟨s0,s1,s2,s3,s4,s5,s6,s7,s8,_⟩:=qbw n1;obtain⟨t0,t1,t2,t3,t4,t5,t6,t7,t8,_⟩:=qbw n2;have HTA:=qb (qkg ta bV hga);have HRB:=qb (rb.below bV);have HBV:=qb bV;have hgV:g1<V.heap.size:=by omega
  have hwV:w.heap.size<V.heap.size:=by omega
  have hwV1:w.heap.size+1<V.heap.size:=by omega
  obtain⟨N,hN⟩:∃ N,rs.length-x.rel.length=N:=⟨_,rfl⟩;have hmax:max 0 ((rs.length:Int)-(x.rel.length:Int))=(N:Int):=by omega
  have hNl:N≤524288:=by omega
  clear ta hga ra rb bV sV;go_enter Tryz.func172,Tryz.ntmps172
  go_upto_region 2 with fail
  try rw[hV]
  go_cut [6] from 7 (fun v W'=>Hid (Below V.heap.size V W')∧Hid (W'.ownsRow V.heap.size 9 1 v (x.rel++List.replicate N [48]).length (valT (x.rel++List.replicate N [48]))))
  case first=>
    have K1:=qb (World.alloc_heap_new V.drew (.cells #[qhx] 9))
    go_region_held3 (fun w'=>w'.cell? ⟨w.heap.size,1,none⟩=some (.slice (some ⟨g1,o1,none⟩) x.rel.length c1)) (go_keep)
      ((first
        | (
           go_at_call 182;refine(qbkl V.heap.size N _ hNl (qc 0 K1.out rfl) (by simp)).mono ?_;rintro e w3 ⟨g2,rfl,hg2,hp2,b3⟩
           have b30:Below V.heap.size V w3:=((Below.refl V.heap.size V).drew.alloc (Nat.le_refl _) _).trans (b3.mono (by simp))
           have d3:w3.cell? ⟨w.heap.size,1,none⟩=some (.slice (some ⟨g1,o1,none⟩) x.rel.length c1):=(b30.cell hwV).trans s1)
        | (
           go_at_call 181
           have b4:Below V.heap.size V (w3.alloc (.cells #[.slice (some ⟨g1,o1,none⟩) x.rel.length c1,.slice (some ⟨g2,0,none⟩) N N] 37)):=b30.alloc b30.size _;have n4:=World.alloc_heap_new w3 (.cells #[.slice (some ⟨g1,o1,none⟩) x.rel.length c1,.slice (some ⟨g2,0,none⟩) N N] 37);refine(qbjh x.rel (List.replicate N [48]) g1 o1 c1 g2 0 N w3.heap.size _ (qkg HTA.out b4 hgV) (qkg hp2 ((Below.refl _ w3).alloc (Nat.le_refl _) _) hg2) (Nat.lt_of_lt_of_le hgV b4.size) (Nat.lt_of_lt_of_le hg2 (by simp)) (qc 0 n4 rfl) (by rw[List.length_replicate];exact qc 1 n4 rfl) (by simp) (by omega) (by rw[List.length_replicate];exact hNl)).mono ?_
           rintro e w5 ⟨v,rfl,ho5,b5⟩;have b50:Below V.heap.size V w5:=b4.trans (b5.mono b4.size);have d5:w5.cell? ⟨w.heap.size,1,none⟩=some (.slice (some ⟨g1,o1,none⟩) x.rel.length c1):=(b50.cell hwV).trans s1)
        | fail))
    all_goals
      (go_wp2_with fail);go_meet
      case rel=>exact⟨qb b50,qb (qfg ho5 b4.size)⟩
  case rest =>
    obtain⟨HB5,HO5⟩:=hcut;obtain⟨av,cv,rfl,hcap,htk⟩:=qqh HO5.out;have hlen:(x.rel++List.replicate N [48]).length=x.rel.length+N:=by simp
    have hle:rs.length≤(x.rel++List.replicate N [48]).length:=by omega
    have htl:((x.rel++List.replicate N [48]).take rs.length).length=rs.length:=by rw[qbsz];omega
    have hT:=htk rs.length hle
    have EQ:Hid (∀ W,Below wc.heap.size wc W→Calls Tryz.prog 183 #[.slice av rs.length cv,.slice r2 rs.length c2] W fun e w'=>e=.returned (.bool ((x.rel++List.replicate N [48]).take rs.length==rs))∧Below W.heap.size W w'):=qb fun W hb=>by
      have:=qbkf av r2 cv c2 ((x.rel++List.replicate N [48]).take rs.length) rs W (by rw[htl];exact hT.below hb) ((HRB.out.below HB5.out).below hb) (by omega) (by omega)
      rw[htl]at this;exact this
    have n1':=(HB5.out.block _ hwV).trans n1;have n2':=(HB5.out.block _ hwV1).trans n2;clear s0 s1 s2 s3 s4 s5 s6 s7 s8 t0 t1 t2 t3 t4 t5 t6 t7 t8 n1 n2;have s0:=qc 0 n1' rfl;have t0:=qc 0 n2' rfl;have t1:=qc 1 n2' rfl;have HRES:Hid (begB x.ep x.rel ep rs=((x.ep==ep)&&((x.rel++List.replicate N [48]).take rs.length==rs))):=qb (by unfold begB;rw[hN])
    have heq:=ofL_nq x.ep ep;have hci:(rs.length:Int)≤(cv:Int):=by omega
    generalize ((x.rel++List.replicate N [48]).take rs.length==rs)=RB at *;generalize (x.ep==ep)=EB at *;have HFIN:Hid (∀ W,Below wc.heap.size wc W→Below w.heap.size w W):=qb fun W hb=>(HBV.out.trans (HB5.out.mono (Nat.le_of_lt hwV))).trans (hb.mono (Nat.le_trans (Nat.le_of_lt hwV) HB5.out.size));have hww:w.heap.size+1<wc.heap.size:=by have:=HB5.out.size;omega
    clear hT htk hcap hlen htl hle HO5 HTA HRB n1' n2';cases EB
    · go_wp2_with fail
      go_quiet (fail)
      (go_wp2_with fail);go_ret
      exact⟨by rw[HRES.out];rfl,HFIN.out _ (qz _ _ _)⟩
    · go_wp2_with fail
      have hw0:w.heap.size<wc.heap.size:=by omega
      go_region_held3 (fun w'=>w'.cell? ⟨w.heap.size,0,none⟩=some (.string (qd x.ep))∧w'.cell? ⟨w.heap.size+1,0,none⟩=some (.string (qd ep))∧w'.cell? ⟨w.heap.size+1,1,none⟩=some (.slice r2 rs.length c2)) (go_keep)
        ((first
          | (
             go_at_call 183;refine(EQ.out _ ((Below.refl _ wc).drew)).mono ?_;rintro e w6 ⟨rfl,b6⟩
             have d0:w6.cell? ⟨w.heap.size,0,none⟩=some (.string (qd x.ep)):=(b6.cell (p:=⟨w.heap.size,0,none⟩) hw0).trans s0;have d1:w6.cell? ⟨w.heap.size+1,0,none⟩=some (.string (qd ep)):=(b6.cell (p:=⟨w.heap.size+1,0,none⟩) hww).trans t0;have d2:w6.cell? ⟨w.heap.size+1,1,none⟩=some (.slice r2 rs.length c2):=(b6.cell (p:=⟨w.heap.size+1,1,none⟩) hww).trans t1;have B6:=qb (((Below.refl _ wc).drew).trans b6))
          | fail))
      all_goals
        (go_wp2_with fail);go_ret
        exact⟨by rw[HRES.out];simp,HFIN.out _ B6.out⟩
set_option maxHeartbeats 4000000
set_option maxRecDepth 100000
theorem qbhc (x y:PepL) (r1 r2 q1 q2:Option Addr) (c1 c2 d1 d2:Nat) (t u:QY) (st su:Bool) (w:World) (ra:qx w (.slice r1 x.rel.length c1) x.rel) (rb:qx w (.slice r2 y.rel.length c2) y.rel) (la:qx w (.slice q1 x.loc.length d1) x.loc) (lb:qx w (.slice q2 y.loc.length d2) y.loc)
  (E:Bool) (EQ:∀ W,qx W (.slice r1 x.rel.length c1) x.rel→qx W (.slice r2 y.rel.length c2) y.rel→qx W (.slice q1 x.loc.length d1) x.loc→qx W (.slice q2 y.loc.length d2) y.loc→Calls Tryz.prog 152 #[.agg #[.string (qd x.ep),.slice r1 x.rel.length c1,.int .u8 x.c,.string (qd x.n),.bool x.b,.string (qd x.m),.bool x.d,.string (qd x.k),.slice q1 x.loc.length d1,.string t,.bool st],.agg #[.string (qd y.ep),.slice r2 y.rel.length c2,.int .u8 y.c,.string (qd y.n),.bool y.b,.string (qd y.m),.bool y.d,.string (qd y.k),.slice q2 y.loc.length d2,.string u,.bool su]] W fun e W'=>e=.returned (.bool E)∧Below W.heap.size W W') :
  Calls Tryz.prog 153 #[.agg #[.string (qd x.ep),.slice r1 x.rel.length c1,.int .u8 x.c,.string (qd x.n),.bool x.b,.string (qd x.m),.bool x.d,.string (qd x.k),.slice q1 x.loc.length d1,.string t,.bool st],.agg #[.string (qd y.ep),.slice r2 y.rel.length c2,.int .u8 y.c,.string (qd y.n),.bool y.b,.string (qd y.m),.bool y.d,.string (qd y.k),.slice q2 y.loc.length d2,.string u,.bool su]] w fun e w'=>e=.returned (.bool (!E))∧Below w.heap.size w w':=by
 have S0:=VB.start ra rb la lb t u st su;have EQ:=qb EQ;clear ra rb la lb;go_enter Tryz.func153,Tryz.ntmps153
 (go_wp2_with fail);generalize (w.alloc _).alloc _=W0 at *;obtain⟨s0,s1,s2,s3,s4,s5,s6,s7,s8,s9,s10,_⟩:=qh S0.ea;obtain⟨v0,v1,v2,v3,v4,v5,v6,v7,v8,v9,v10,_⟩:=qh S0.eb;(go_wp2_with fail);refine(EQ.out _ S0.ra S0.rb S0.la S0.lb).mono ?_;rintro e w1 ⟨rfl,b1⟩;have S1:=S0.next b1;clear s0 s1 s2 s3 s4 s5 s6 s7 s8 s9 s10 v0 v1 v2 v3 v4 v5 v6 v7 v8 v9 v10 b1;obtain⟨s0,s1,s2,s3,s4,s5,s6,s7,s8,s9,s10,_⟩:=qh S1.ea;obtain⟨v0,v1,v2,v3,v4,v5,v6,v7,v8,v9,v10,_⟩:=qh S1.eb;(go_wp2_with fail);go_ret
 exact⟨rfl,S1.bel⟩
theorem qbrk (x y:PepL) (r1 r2 q1 q2:Option Addr) (c1 c2 d1 d2:Nat) (t u:QY) (st su:Bool) (w:World) (ra:qx w (.slice r1 x.rel.length c1) x.rel) (rb:qx w (.slice r2 y.rel.length c2) y.rel) (la:qx w (.slice q1 x.loc.length d1) x.loc) (lb:qx w (.slice q2 y.loc.length d2) y.loc)
  (B:Bool) (O1 O2:Int) (BG:∀ W,qx W (.slice r1 x.rel.length c1) x.rel→qx W (.slice r2 y.rel.length c2) y.rel→qx W (.slice q1 x.loc.length d1) x.loc→qx W (.slice q2 y.loc.length d2) y.loc→Calls Tryz.prog 172 #[.agg #[.string (qd x.ep),.slice r1 x.rel.length c1,.int .u8 x.c,.string (qd x.n),.bool x.b,.string (qd x.m),.bool x.d,.string (qd x.k),.slice q1 x.loc.length d1],.agg #[.string (qd y.ep),.slice r2 y.rel.length c2,.int .u8 y.c,.string (qd y.n),.bool y.b,.string (qd y.m),.bool y.d,.string (qd y.k),.slice q2 y.loc.length d2]] W fun e W'=>e=.returned (.bool B)∧Below W.heap.size W W') (OP:∀ W,qx W (.slice r1 x.rel.length c1) x.rel→qx W (.slice r2 y.rel.length c2) y.rel→qx W (.slice q1 x.loc.length d1) x.loc→qx W (.slice q2 y.loc.length d2) y.loc→Calls Tryz.prog 175 #[.agg #[.string (qd x.ep),.slice r1 x.rel.length c1,.int .u8 x.c,.string (qd x.n),.bool x.b,.string (qd x.m),.bool x.d,.string (qd x.k),.slice q1 x.loc.length d1,.string t,.bool st],.agg #[.string (qd y.ep),.slice r2 y.rel.length c2,.int .u8 y.c,.string (qd y.n),.bool y.b,.string (qd y.m),.bool y.d,.string (qd y.k),.slice q2 y.loc.length d2,.string u,.bool su]] W fun e W'=>e=.returned (.int .i64 O1)∧Below W.heap.size W W') (OD:∀ W,qx W (.slice r1 x.rel.length c1) x.rel→qx W (.slice r2 y.rel.length c2) y.rel→qx W (.slice q1 x.loc.length d1) x.loc→qx W (.slice q2 y.loc.length d2) y.loc→Calls Tryz.prog 176 #[.agg #[.string (qd x.ep),.slice r1 x.rel.length c1,.int .u8 x.c,.string (qd x.n),.bool x.b,.string (qd x.m),.bool x.d,.string (qd x.k),.slice q1 x.loc.length d1],.agg #[.string (qd y.ep),.slice r2 y.rel.length c2,.int .u8 y.c,.string (qd y.n),.bool y.b,.string (qd y.m),.bool y.d,.string (qd y.k),.slice q2 y.loc.length d2]] W fun e W'=>e=.returned (.int .i64 O2)∧Below W.heap.size W W') :
  Calls Tryz.prog 152 #[.agg #[.string (qd x.ep),.slice r1 x.rel.length c1,.int .u8 x.c,.string (qd x.n),.bool x.b,.string (qd x.m),.bool x.d,.string (qd x.k),.slice q1 x.loc.length d1,.string t,.bool st],.agg #[.string (qd y.ep),.slice r2 y.rel.length c2,.int .u8 y.c,.string (qd y.n),.bool y.b,.string (qd y.m),.bool y.d,.string (qd y.k),.slice q2 y.loc.length d2,.string u,.bool su]] w fun e w'=>e=.returned (.bool (if su=true then B else if pubB y=true then O1==0 else O2==0))∧Below w.heap.size w w':=by
 have S0:=VB.start ra rb la lb t u st su;have BG:=qb BG;have OP:=qb OP;have OD:=qb OD;clear ra rb la lb;have PB:=qb (fun W=>qhb y r2 q2 c2 d2 W);generalize hR:(if su=true then B else if pubB y=true then O1==0 else O2==0)=R;have HR:=qb hR;clear hR;cases su
 ·have HR2:Hid (R=if pubB y=true then O1==0 else O2==0):=qb (by rw[←HR.out];simp)
  generalize pubB y=pb at *;cases pb
  ·have HR3:Hid (R=(O2==0)):=qb (by rw[HR2.out];simp)
   go_enter Tryz.func152,Tryz.ntmps152
   (go_wp2_with fail);generalize (w.alloc _).alloc _=W0 at *;obtain⟨s0,s1,s2,s3,s4,s5,s6,s7,s8,s9,s10,_⟩:=qh S0.ea;obtain⟨v0,v1,v2,v3,v4,v5,v6,v7,v8,v9,v10,_⟩:=qh S0.eb;(go_wp2_with fail);refine(PB.out _).mono ?_;rintro e w1 ⟨rfl,b1⟩;have S1:=S0.next b1;clear s0 s1 s2 s3 s4 s5 s6 s7 s8 s9 s10 v0 v1 v2 v3 v4 v5 v6 v7 v8 v9 v10 b1;obtain⟨s0,s1,s2,s3,s4,s5,s6,s7,s8,s9,s10,_⟩:=qh S1.ea;obtain⟨v0,v1,v2,v3,v4,v5,v6,v7,v8,v9,v10,_⟩:=qh S1.eb;(go_wp2_with fail);refine(OD.out _ S1.ra S1.rb S1.la S1.lb).mono ?_;rintro e w2 ⟨rfl,b2⟩;have S2:=S1.next b2;clear s0 s1 s2 s3 s4 s5 s6 s7 s8 s9 s10 v0 v1 v2 v3 v4 v5 v6 v7 v8 v9 v10 b2;obtain⟨s0,s1,s2,s3,s4,s5,s6,s7,s8,s9,s10,_⟩:=qh S2.ea;obtain⟨v0,v1,v2,v3,v4,v5,v6,v7,v8,v9,v10,_⟩:=qh S2.eb;(go_wp2_with fail);go_ret
   exact⟨by rw[HR3.out];rfl,S2.bel⟩
  ·have HR3:Hid (R=(O1==0)):=qb (by rw[HR2.out];simp)
   go_enter Tryz.func152,Tryz.ntmps152
   (go_wp2_with fail);generalize (w.alloc _).alloc _=W0 at *;obtain⟨s0,s1,s2,s3,s4,s5,s6,s7,s8,s9,s10,_⟩:=qh S0.ea;obtain⟨v0,v1,v2,v3,v4,v5,v6,v7,v8,v9,v10,_⟩:=qh S0.eb;(go_wp2_with fail);refine(PB.out _).mono ?_;rintro e w1 ⟨rfl,b1⟩;have S1:=S0.next b1;clear s0 s1 s2 s3 s4 s5 s6 s7 s8 s9 s10 v0 v1 v2 v3 v4 v5 v6 v7 v8 v9 v10 b1;obtain⟨s0,s1,s2,s3,s4,s5,s6,s7,s8,s9,s10,_⟩:=qh S1.ea;obtain⟨v0,v1,v2,v3,v4,v5,v6,v7,v8,v9,v10,_⟩:=qh S1.eb;(go_wp2_with fail);refine(OP.out _ S1.ra S1.rb S1.la S1.lb).mono ?_;rintro e w2 ⟨rfl,b2⟩;have S2:=S1.next b2;clear s0 s1 s2 s3 s4 s5 s6 s7 s8 s9 s10 v0 v1 v2 v3 v4 v5 v6 v7 v8 v9 v10 b2;obtain⟨s0,s1,s2,s3,s4,s5,s6,s7,s8,s9,s10,_⟩:=qh S2.ea;obtain⟨v0,v1,v2,v3,v4,v5,v6,v7,v8,v9,v10,_⟩:=qh S2.eb;(go_wp2_with fail);go_ret
   exact⟨by rw[HR3.out];rfl,S2.bel⟩
 ·have HR3:Hid (R=B):=qb (by rw[←HR.out];simp)
  go_enter Tryz.func152,Tryz.ntmps152
  (go_wp2_with fail);generalize (w.alloc _).alloc _=W0 at *;obtain⟨s0,s1,s2,s3,s4,s5,s6,s7,s8,s9,s10,_⟩:=qh S0.ea;obtain⟨v0,v1,v2,v3,v4,v5,v6,v7,v8,v9,v10,_⟩:=qh S0.eb;(go_wp2_with fail);refine(BG.out _ S0.ra S0.rb S0.la S0.lb).mono ?_;rintro e w1 ⟨rfl,b1⟩;have S1:=S0.next b1;clear s0 s1 s2 s3 s4 s5 s6 s7 s8 s9 s10 v0 v1 v2 v3 v4 v5 v6 v7 v8 v9 v10 b1;obtain⟨s0,s1,s2,s3,s4,s5,s6,s7,s8,s9,s10,_⟩:=qh S1.ea;obtain⟨v0,v1,v2,v3,v4,v5,v6,v7,v8,v9,v10,_⟩:=qh S1.eb;(go_wp2_with fail);go_ret
  exact⟨by rw[HR3.out];rfl,S1.bel⟩
set_option maxHeartbeats 1000000
set_option maxRecDepth 100000
theorem qtd (x:PepL) (r1 q1:Option Addr) (c1 d1:Nat) (w:World) (rr:qx w (.slice r1 x.rel.length c1) x.rel) (ll:qx w (.slice q1 x.loc.length d1) x.loc) :
  Calls Tryz.prog 77 #[.agg #[.string (qd x.ep),.slice r1 x.rel.length c1,.int .u8 x.c,.string (qd x.n),.bool x.b,.string (qd x.m),.bool x.d,.string (qd x.k),.slice q1 x.loc.length d1]] w fun e w'=>e=.returned (.bool (x.c != 0||x.d))∧Below w.heap.size w w':=by
 have S0:=TB.start rr ll;clear rr ll;obtain⟨s0,s1,s2,s3,s4,s5,s6,s7,s8⟩:=S0.seen;have sb:=S0.bel;cases hc:(x.c != 0)
 ·go_enter Tryz.func77,Tryz.ntmps77
  (go_wp2_with fail);go_ret
  exact⟨rfl,sb⟩
 ·go_enter Tryz.func77,Tryz.ntmps77
  (go_wp2_with fail);go_ret
  exact⟨rfl,sb⟩
theorem RPre_any (x:PepL) (r1 q1:Option Addr) (c1 d1:Nat) (w:World) (rr:qx w (.slice r1 x.rel.length c1) x.rel) (ll:qx w (.slice q1 x.loc.length d1) x.loc) :
  Calls Tryz.prog 27 #[.agg #[.string (qd x.ep),.slice r1 x.rel.length c1,.int .u8 x.c,.string (qd x.n),.bool x.b,.string (qd x.m),.bool x.d,.string (qd x.k),.slice q1 x.loc.length d1]] w fun e w'=>e=.returned (.bool (x.c != 0||x.d))∧Below w.heap.size w w':=by
 have S0:=TB.start rr ll;clear rr ll;obtain⟨s0,s1,s2,s3,s4,s5,s6,s7,s8⟩:=S0.seen;have sb:=S0.bel;cases hc:(x.c != 0)
 ·go_enter Tryz.func27,Tryz.ntmps27
  (go_wp2_with fail);go_ret
  exact⟨rfl,sb⟩
 ·go_enter Tryz.func27,Tryz.ntmps27
  (go_wp2_with fail);go_ret
  exact⟨rfl,sb⟩
set_option maxHeartbeats 4000000
set_option maxRecDepth 100000
theorem less_any (x y:PepL) (r1 r2 q1 q2:Option Addr) (c1 c2 d1 d2:Nat) (t u:QY) (st su:Bool) (w:World) (ra:qx w (.slice r1 x.rel.length c1) x.rel) (rb:qx w (.slice r2 y.rel.length c2) y.rel) (la:qx w (.slice q1 x.loc.length d1) x.loc) (lb:qx w (.slice q2 y.loc.length d2) y.loc)
  (S:Bool) (O:Int) (SB:∀ W,qx W (.slice r1 x.rel.length c1) x.rel→qx W (.slice r2 y.rel.length c2) y.rel→qx W (.slice q1 x.loc.length d1) x.loc→qx W (.slice q2 y.loc.length d2) y.loc→Calls Tryz.prog 177 #[.agg #[.string (qd x.ep),.slice r1 x.rel.length c1,.int .u8 x.c,.string (qd x.n),.bool x.b,.string (qd x.m),.bool x.d,.string (qd x.k),.slice q1 x.loc.length d1,.string t,.bool st],.agg #[.string (qd y.ep),.slice r2 y.rel.length c2,.int .u8 y.c,.string (qd y.n),.bool y.b,.string (qd y.m),.bool y.d,.string (qd y.k),.slice q2 y.loc.length d2,.string u,.bool su]] W fun e W'=>e=.returned (.bool S)∧Below W.heap.size W W') (OD:∀ W,qx W (.slice r1 x.rel.length c1) x.rel→qx W (.slice r2 y.rel.length c2) y.rel→qx W (.slice q1 x.loc.length d1) x.loc→qx W (.slice q2 y.loc.length d2) y.loc→Calls Tryz.prog 176 #[.agg #[.string (qd x.ep),.slice r1 x.rel.length c1,.int .u8 x.c,.string (qd x.n),.bool x.b,.string (qd x.m),.bool x.d,.string (qd x.k),.slice q1 x.loc.length d1],.agg #[.string (qd y.ep),.slice r2 y.rel.length c2,.int .u8 y.c,.string (qd y.n),.bool y.b,.string (qd y.m),.bool y.d,.string (qd y.k),.slice q2 y.loc.length d2]] W fun e W'=>e=.returned (.int .i64 O)∧Below W.heap.size W W') :
  Calls Tryz.prog 157 #[.agg #[.string (qd x.ep),.slice r1 x.rel.length c1,.int .u8 x.c,.string (qd x.n),.bool x.b,.string (qd x.m),.bool x.d,.string (qd x.k),.slice q1 x.loc.length d1,.string t,.bool st],.agg #[.string (qd y.ep),.slice r2 y.rel.length c2,.int .u8 y.c,.string (qd y.n),.bool y.b,.string (qd y.m),.bool y.d,.string (qd y.k),.slice q2 y.loc.length d2,.string u,.bool su]] w fun e w'=>e=.returned (.bool (!(S&&(x.c != 0||x.d)&&!(y.c != 0||y.d))&&decide (O<0)))∧Below w.heap.size w w':=by
 have S0:=VB.start ra rb la lb t u st su;have SB:=qb SB;have OD:=qb OD;clear ra rb la lb;have PX9:=qb (fun W h1 h2=>qtd x r1 q1 c1 d1 W h1 h2);have PY9:=qb (fun W h1 h2=>qtd y r2 q2 c2 d2 W h1 h2);generalize (x.c != 0||x.d)=px at *;generalize (y.c != 0||y.d)=py at *;cases S
 ·go_enter Tryz.func157,Tryz.ntmps157
  (go_wp2_with fail);generalize (w.alloc _).alloc _=W0 at *;obtain⟨s0,s1,s2,s3,s4,s5,s6,s7,s8,s9,s10,_⟩:=qh S0.ea;obtain⟨v0,v1,v2,v3,v4,v5,v6,v7,v8,v9,v10,_⟩:=qh S0.eb;(go_wp2_with fail);refine(SB.out _ S0.ra S0.rb S0.la S0.lb).mono ?_;rintro e w1 ⟨rfl,b1⟩;have S1:=S0.next b1;clear s0 s1 s2 s3 s4 s5 s6 s7 s8 s9 s10 v0 v1 v2 v3 v4 v5 v6 v7 v8 v9 v10 b1;obtain⟨s0,s1,s2,s3,s4,s5,s6,s7,s8,s9,s10,_⟩:=qh S1.ea;obtain⟨v0,v1,v2,v3,v4,v5,v6,v7,v8,v9,v10,_⟩:=qh S1.eb;(go_wp2_with fail);refine(OD.out _ S1.ra S1.rb S1.la S1.lb).mono ?_;rintro e w9 ⟨rfl,b9⟩;have S9:=S1.next b9;clear s0 s1 s2 s3 s4 s5 s6 s7 s8 s9 s10 v0 v1 v2 v3 v4 v5 v6 v7 v8 v9 v10 b9;obtain⟨s0,s1,s2,s3,s4,s5,s6,s7,s8,s9,s10,_⟩:=qh S9.ea;obtain⟨v0,v1,v2,v3,v4,v5,v6,v7,v8,v9,v10,_⟩:=qh S9.eb;(go_wp2_with fail);go_ret
  exact⟨rfl,S9.bel⟩
 ·cases px
  ·go_enter Tryz.func157,Tryz.ntmps157
   (go_wp2_with fail);generalize (w.alloc _).alloc _=W0 at *;obtain⟨s0,s1,s2,s3,s4,s5,s6,s7,s8,s9,s10,_⟩:=qh S0.ea;obtain⟨v0,v1,v2,v3,v4,v5,v6,v7,v8,v9,v10,_⟩:=qh S0.eb;(go_wp2_with fail);refine(SB.out _ S0.ra S0.rb S0.la S0.lb).mono ?_;rintro e w1 ⟨rfl,b1⟩;have S1:=S0.next b1;clear s0 s1 s2 s3 s4 s5 s6 s7 s8 s9 s10 v0 v1 v2 v3 v4 v5 v6 v7 v8 v9 v10 b1;obtain⟨s0,s1,s2,s3,s4,s5,s6,s7,s8,s9,s10,_⟩:=qh S1.ea;obtain⟨v0,v1,v2,v3,v4,v5,v6,v7,v8,v9,v10,_⟩:=qh S1.eb;(go_wp2_with fail);refine(PX9.out _ S1.ra S1.la).mono ?_;rintro e w2 ⟨rfl,b2⟩;have S2:=S1.next b2;clear s0 s1 s2 s3 s4 s5 s6 s7 s8 s9 s10 v0 v1 v2 v3 v4 v5 v6 v7 v8 v9 v10 b2;obtain⟨s0,s1,s2,s3,s4,s5,s6,s7,s8,s9,s10,_⟩:=qh S2.ea;obtain⟨v0,v1,v2,v3,v4,v5,v6,v7,v8,v9,v10,_⟩:=qh S2.eb;(go_wp2_with fail);refine(OD.out _ S2.ra S2.rb S2.la S2.lb).mono ?_;rintro e w9 ⟨rfl,b9⟩;have S9:=S2.next b9;clear s0 s1 s2 s3 s4 s5 s6 s7 s8 s9 s10 v0 v1 v2 v3 v4 v5 v6 v7 v8 v9 v10 b9;obtain⟨s0,s1,s2,s3,s4,s5,s6,s7,s8,s9,s10,_⟩:=qh S9.ea;obtain⟨v0,v1,v2,v3,v4,v5,v6,v7,v8,v9,v10,_⟩:=qh S9.eb;(go_wp2_with fail);go_ret
   exact⟨rfl,S9.bel⟩
  ·cases py
   ·go_enter Tryz.func157,Tryz.ntmps157
    (go_wp2_with fail);generalize (w.alloc _).alloc _=W0 at *;obtain⟨s0,s1,s2,s3,s4,s5,s6,s7,s8,s9,s10,_⟩:=qh S0.ea;obtain⟨v0,v1,v2,v3,v4,v5,v6,v7,v8,v9,v10,_⟩:=qh S0.eb;(go_wp2_with fail);refine(SB.out _ S0.ra S0.rb S0.la S0.lb).mono ?_;rintro e w1 ⟨rfl,b1⟩;have S1:=S0.next b1;clear s0 s1 s2 s3 s4 s5 s6 s7 s8 s9 s10 v0 v1 v2 v3 v4 v5 v6 v7 v8 v9 v10 b1;obtain⟨s0,s1,s2,s3,s4,s5,s6,s7,s8,s9,s10,_⟩:=qh S1.ea;obtain⟨v0,v1,v2,v3,v4,v5,v6,v7,v8,v9,v10,_⟩:=qh S1.eb;(go_wp2_with fail);refine(PX9.out _ S1.ra S1.la).mono ?_;rintro e w2 ⟨rfl,b2⟩;have S2:=S1.next b2;clear s0 s1 s2 s3 s4 s5 s6 s7 s8 s9 s10 v0 v1 v2 v3 v4 v5 v6 v7 v8 v9 v10 b2;obtain⟨s0,s1,s2,s3,s4,s5,s6,s7,s8,s9,s10,_⟩:=qh S2.ea;obtain⟨v0,v1,v2,v3,v4,v5,v6,v7,v8,v9,v10,_⟩:=qh S2.eb;(go_wp2_with fail);refine(PY9.out _ S2.rb S2.lb).mono ?_;rintro e w3 ⟨rfl,b3⟩;have S3:=S2.next b3;clear s0 s1 s2 s3 s4 s5 s6 s7 s8 s9 s10 v0 v1 v2 v3 v4 v5 v6 v7 v8 v9 v10 b3;obtain⟨s0,s1,s2,s3,s4,s5,s6,s7,s8,s9,s10,_⟩:=qh S3.ea;obtain⟨v0,v1,v2,v3,v4,v5,v6,v7,v8,v9,v10,_⟩:=qh S3.eb;(go_wp2_with fail);go_ret
    exact⟨rfl,S3.bel⟩
   ·go_enter Tryz.func157,Tryz.ntmps157
    (go_wp2_with fail);generalize (w.alloc _).alloc _=W0 at *;obtain⟨s0,s1,s2,s3,s4,s5,s6,s7,s8,s9,s10,_⟩:=qh S0.ea;obtain⟨v0,v1,v2,v3,v4,v5,v6,v7,v8,v9,v10,_⟩:=qh S0.eb;(go_wp2_with fail);refine(SB.out _ S0.ra S0.rb S0.la S0.lb).mono ?_;rintro e w1 ⟨rfl,b1⟩;have S1:=S0.next b1;clear s0 s1 s2 s3 s4 s5 s6 s7 s8 s9 s10 v0 v1 v2 v3 v4 v5 v6 v7 v8 v9 v10 b1;obtain⟨s0,s1,s2,s3,s4,s5,s6,s7,s8,s9,s10,_⟩:=qh S1.ea;obtain⟨v0,v1,v2,v3,v4,v5,v6,v7,v8,v9,v10,_⟩:=qh S1.eb;(go_wp2_with fail);refine(PX9.out _ S1.ra S1.la).mono ?_;rintro e w2 ⟨rfl,b2⟩;have S2:=S1.next b2;clear s0 s1 s2 s3 s4 s5 s6 s7 s8 s9 s10 v0 v1 v2 v3 v4 v5 v6 v7 v8 v9 v10 b2;obtain⟨s0,s1,s2,s3,s4,s5,s6,s7,s8,s9,s10,_⟩:=qh S2.ea;obtain⟨v0,v1,v2,v3,v4,v5,v6,v7,v8,v9,v10,_⟩:=qh S2.eb;(go_wp2_with fail);refine(PY9.out _ S2.rb S2.lb).mono ?_;rintro e w3 ⟨rfl,b3⟩;have S3:=S2.next b3;clear s0 s1 s2 s3 s4 s5 s6 s7 s8 s9 s10 v0 v1 v2 v3 v4 v5 v6 v7 v8 v9 v10 b3;obtain⟨s0,s1,s2,s3,s4,s5,s6,s7,s8,s9,s10,_⟩:=qh S3.ea;obtain⟨v0,v1,v2,v3,v4,v5,v6,v7,v8,v9,v10,_⟩:=qh S3.eb;(go_wp2_with fail);refine(OD.out _ S3.ra S3.rb S3.la S3.lb).mono ?_;rintro e w9 ⟨rfl,b9⟩;have S9:=S3.next b9;clear s0 s1 s2 s3 s4 s5 s6 s7 s8 s9 s10 v0 v1 v2 v3 v4 v5 v6 v7 v8 v9 v10 b9;obtain⟨s0,s1,s2,s3,s4,s5,s6,s7,s8,s9,s10,_⟩:=qh S9.ea
    obtain⟨v0,v1,v2,v3,v4,v5,v6,v7,v8,v9,v10,_⟩:=qh S9.eb;(go_wp2_with fail);go_ret
    exact⟨rfl,S9.bel⟩
end Go.Proofs.YtabmfdedbpmfmaaGreat
