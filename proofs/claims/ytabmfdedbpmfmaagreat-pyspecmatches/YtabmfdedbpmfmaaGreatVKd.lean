/- Walks: the document's Holds at the operators of versions. -/
import Derived.Deep.Cut
import Derived.Deep.RegionWith
import Derived.Test.YtabmfdedbpmfmaaGreatVKf
namespace Go.Proofs.YtabmfdedbpmfmaaGreat
open Go.RowKit Go.Shelf
open _root_.Array renaming getElem?_eq_some_iff → qbth
set_option linter.unusedVariables false
set_option maxHeartbeats 8000000
set_option maxRecDepth 100000
theorem sgn_not7:∀ k,k<7→(sgn k==[61,61,61])=false
 | 0,_=>rfl
 | 1,_=>rfl
 | 2,_=>rfl
 | 3,_=>rfl
 | 4,_=>rfl
 | 5,_=>rfl
 | 6,_=>rfl
theorem RHolds_k (k:Nat) (hk:k<7) (x y:PepL) (U T:QY) (ST:Bool) (w:World) (hx:VerOK x) (hy:VerOK y) (h2:k=0→2≤y.rel.length) (PX:∀ W,Calls Tryz.prog 25 #[.string U] W (qns x W)) (PY:∀ W,Calls Tryz.prog 25 #[.string T] W (qns y W))
 (FT:∀ W,Calls Tryz.prog 37 #[.agg #[.string (qd (sgn k)),.string T,.bool ST]] W fun e w'=>e=.returned (.bool true)∧Below W.heap.size W w') :
 Calls Tryz.prog 17 #[.agg #[.string (qd (sgn k)),.string T,.bool ST],.string U] w fun e w'=>e=.returned (.bool (qfp k x U.data.toList y T.data.toList ST))∧Below w.heap.size w w':=by
  have n0:=World.alloc_heap_new w (.cells #[.string (qd (sgn k)),.string T,.bool ST] 32);have hb0:Below w.heap.size w (w.alloc (.cells #[.string (qd (sgn k)),.string T,.bool ST] 32)):=(Below.refl _ w).alloc (Nat.le_refl _) _
  have hop:((qd (sgn k)).toList==[61,61,61])=false:=by
    rw[toL,qj];exact sgn_not7 k hk
  have PX:=qb PX;have PY:=qb PY;have FT:=qb FT;go_enter Tryz.func17,Tryz.ntmps17
  (go_wp2_with fail);generalize w.alloc _=W0 at *;refine(PX.out _).mono ?_;rintro e w1 ⟨r1,c1,q1,d1,rfl,ra,la,hn,hc1,b1⟩;obtain⟨V,hV,n1,n2,bV,sV⟩:=qm w1 #[.string (qd x.ep),.slice r1 x.rel.length c1,.int .u8 x.c,.string (qd x.n),.bool x.b,.string (qd x.m),.bool x.d,.string (qd x.k),.slice q1 x.loc.length d1] #[.int .i64 0,.int .i64 0] 44 25;obtain⟨u0,u1,_⟩:=qv n2;have X1:=qb (⟨n1,ra.below bV,la.below bV⟩:V9 V w1.heap.size x r1 q1 c1 d1);have M1:=qb ((bV.block _ (Nat.lt_of_lt_of_le (qbth.1 n0).1 b1.size)).trans ((b1.block _ (qbth.1 n0).1).trans n0));have HB1:=qb ((hb0.trans (b1.mono hb0.size)).trans (bV.mono (hb0.trans (b1.mono hb0.size)).size));have HVV:=qb hV;have HN:=qb hn;have p0:=qc 0 M1.out rfl;have p1:=qc 1 M1.out rfl;have p2:=qc 2 M1.out rfl;clear n0 hb0 PX ra la b1 hV n1 n2 bV hn hc1;go_upto_region 2 with fail
  rw[HVV.out];clear HVV;(go_wp2_with fail);refine(FT.out _).mono ?_;rintro e w2 ⟨rfl,b2⟩;have X2:=qb (X1.out.next b2);have M2:=qb ((b2.block _ (qbth.1 M1.out).1).trans M1.out);have HB2:=qb (HB1.out.trans (b2.mono HB1.out.size));clear p0 p1 p2 u0 u1 X1 M1 HB1 b2 FT;have p0:=qc 0 M2.out rfl;have p1:=qc 1 M2.out rfl;have p2:=qc 2 M2.out rfl;(go_wp2_with fail);refine(PY.out _).mono ?_;rintro e w3 ⟨r2,c2,q2,d2,rfl,rb,lb,hn2,hc2,b3⟩;obtain⟨V3,hV3,n3,n4,bV3,sV3⟩:=qm w3 #[.string (qd y.ep),.slice r2 y.rel.length c2,.int .u8 y.c,.string (qd y.n),.bool y.b,.string (qd y.m),.bool y.d,.string (qd y.k),.slice q2 y.loc.length d2] #[.int .i64 0,.int .i64 0] 44 25;have Y3:=qb (⟨n3,rb.below bV3,lb.below bV3⟩:V9 V3 w3.heap.size y r2 q2 c2 d2);have bb:=b3.trans (bV3.mono b3.size);have X3:=qb (X2.out.next bb);have M3:=qb ((bb.block _ (qbth.1 M2.out).1).trans M2.out);have HB3:=qb (HB2.out.trans (bb.mono HB2.out.size));have HVV:=qb hV3;have HC2:=qb hc2;clear PY rb lb b3 hc2 hV3 n3 n4 bV3 bb X2 M2 HB2 p0 p1 p2;obtain⟨s0,s1,s2,s3,s4,s5,s6,s7,s8⟩:=X3.out.seen;go_upto_region 7 with fail
  rw[HVV.out];clear HVV;(go_wp2_with fail);refine(qsj x r1 q1 c1 d1 _ X3.out.rel X3.out.loc (by have:=hx.len;omega) HN.out).mono ?_
  rintro e w4 ⟨v3,rfl,ho,b4⟩;obtain⟨a3,k3,rfl,_⟩:=qqh ho;have hT3:=qtf ho;have n4:=World.alloc_heap_new w4 (.cells #[.string (qd x.ep),.slice a3 x.rel.length k3,.int .u8 x.c,.string (qd x.n),.bool x.b,.string (qd x.m),.bool x.d,.string (qd x.k),.slice none 0 0] 44);have bA:Below w4.heap.size w4 (w4.alloc (.cells #[.string (qd x.ep),.slice a3 x.rel.length k3,.int .u8 x.c,.string (qd x.n),.bool x.b,.string (qd x.m),.bool x.d,.string (qd x.k),.slice none 0 0] 44)):=(Below.refl _ w4).alloc (Nat.le_refl _) _;have bb:=b4.trans (bA.mono b4.size);have P4:=qb (⟨n4,hT3.below bA,qtc _⟩:V9 (w4.alloc (.cells #[.string (qd x.ep),.slice a3 x.rel.length k3,.int .u8 x.c,.string (qd x.n),.bool x.b,.string (qd x.m),.bool x.d,.string (qd x.k),.slice none 0 0] 44)) w4.heap.size (hpub x) a3 none k3 0);have X4:=qb (X3.out.next bb);have Y4:=qb (Y3.out.next bb);have M4:=qb ((bb.block _ (qbth.1 M3.out).1).trans M3.out);have HB4:=qb (HB3.out.trans (bb.mono HB3.out.size));clear ho b4 hT3 n4 bA bb X3 Y3 M3 HB3 s0 s1 s2 s3 s4 s5 s6 s7 s8;go_upto_region 8 with fail
  generalize w4.alloc _=V4 at *;generalize w1.heap.size=B5 at *;generalize w3.heap.size=B7 at *;generalize w4.heap.size=B9 at *;have HD:=qb (Below.refl V4.heap.size V4).drew;obtain⟨s0,s1,s2,s3,s4,s5,s6,s7,s8⟩:=(X4.out.next HD.out).seen;obtain⟨t0,t1,t2,t3,t4,t5,t6,t7,t8⟩:=(Y4.out.next HD.out).seen
  go_region_held3 (fun w'=>w'.cell? ⟨B5,0,none⟩=some (.string (qd x.ep))∧w'.cell? ⟨B5,1,none⟩=some (.slice r1 x.rel.length c1)∧w'.cell? ⟨B5,2,none⟩=some (.int .u8 x.c)∧w'.cell? ⟨B5,3,none⟩=some (.string (qd x.n))∧w'.cell? ⟨B5,4,none⟩=some (.bool x.b)∧w'.cell? ⟨B5,5,none⟩=some (.string (qd x.m))∧w'.cell? ⟨B5,6,none⟩=some (.bool x.d)∧w'.cell? ⟨B5,7,none⟩=some (.string (qd x.k))∧w'.cell? ⟨B5,8,none⟩=some (.slice q1 x.loc.length d1)∧w'.cell? ⟨B7,0,none⟩=some (.string (qd y.ep))∧w'.cell? ⟨B7,1,none⟩=some (.slice r2 y.rel.length c2)∧w'.cell? ⟨B7,2,none⟩=some (.int .u8 y.c)∧w'.cell? ⟨B7,3,none⟩=some (.string (qd y.n))∧w'.cell? ⟨B7,4,none⟩=some (.bool y.b)∧w'.cell? ⟨B7,5,none⟩=some (.string (qd y.m))∧w'.cell? ⟨B7,6,none⟩=some (.bool y.d)∧w'.cell? ⟨B7,7,none⟩=some (.string (qd y.k))∧w'.cell? ⟨B7,8,none⟩=some (.slice q2 y.loc.length d2)) (go_keep)
    ((first
      | (
         go_at_call_of 41 (Value.slice r1 x.rel.length c1);refine(qzk x r1 q1 c1 d1 _).mono ?_;rintro e wz ⟨rfl,bz⟩
         have HBz:Hid (Below V4.heap.size V4 wz):=qb (by first|exact HD.out.trans (bz.mono HD.out.size)|exact HBz.out.trans (bz.mono HBz.out.size))
         obtain⟨f0,f1,f2,f3,f4,f5,f6,f7,f8⟩:=(X4.out.next HBz.out).seen;obtain⟨g0,g1,g2,g3,g4,g5,g6,g7,g8⟩:=(Y4.out.next HBz.out).seen)
      | (
         go_at_call_of 41 (Value.slice r2 y.rel.length c2);refine(qzk y r2 q2 c2 d2 _).mono ?_;rintro e wz ⟨rfl,bz⟩
         have HBz:Hid (Below V4.heap.size V4 wz):=qb (by first|exact HD.out.trans (bz.mono HD.out.size)|exact HBz.out.trans (bz.mono HBz.out.size))
         obtain⟨f0,f1,f2,f3,f4,f5,f6,f7,f8⟩:=(X4.out.next HBz.out).seen;obtain⟨g0,g1,g2,g3,g4,g5,g6,g7,g8⟩:=(Y4.out.next HBz.out).seen)
      | (
         go_at_call 40;refine(qbjj x y r1 r2 c1 c2 _ (X4.out.rel.below HBz.out) (Y4.out.rel.below HBz.out) hx hy).mono ?_;rintro e wz ⟨rfl,bz⟩
         have HBz:Hid (Below V4.heap.size V4 wz):=qb (HBz.out.trans (bz.mono HBz.out.size));obtain⟨f0,f1,f2,f3,f4,f5,f6,f7,f8⟩:=(X4.out.next HBz.out).seen;obtain⟨g0,g1,g2,g3,g4,g5,g6,g7,g8⟩:=(Y4.out.next HBz.out).seen)
      | fail))
  have hsb:(ordP (qjb x) (qjb y)==0)=qwt x y:=rfl;have HB5:=HBz;clear s0 s1 s2 s3 s4 s5 s6 s7 s8 t0 t1 t2 t3 t4 t5 t6 t7 t8 f0 f1 f2 f3 f4 f5 f6 f7 f8 g0 g1 g2 g3 g4 g5 g6 g7 g8;have X5:=qb (X4.out.next HB5.out);have Y5:=qb (Y4.out.next HB5.out);have P5:=qb (P4.out.next HB5.out);have M5:=qb ((HB5.out.block _ (qbth.1 M4.out).1).trans M4.out);have HB6:=qb (HB4.out.trans (HB5.out.mono HB4.out.size));clear X4 Y4 P4 M4 HB4 HB5;have p0:=qc 0 M5.out rfl;have p1:=qc 1 M5.out rfl;have p2:=qc 2 M5.out rfl;obtain⟨s0,s1,s2,s3,s4,s5,s6,s7,s8⟩:=X5.out.seen;obtain⟨t0,t1,t2,t3,t4,t5,t6,t7,t8⟩:=Y5.out.seen;obtain⟨v0,v1,v2,v3,v4,v5,v6,v7,v8⟩:=P5.out.seen;clear hop;obtain rfl|rfl|rfl|rfl|rfl|rfl|rfl:k=0∨k=1∨k=2∨k=3∨k=4∨k=5∨k=6:=by omega
  · have hsg : qd (sgn 0)=⟨#[126,61]⟩:=rfl
    rw[hsg]at p0;clear hsg;obtain⟨b2,o2,rfl,_⟩:=Y5.out.rel.some (by have:=h2 rfl;omega)
    obtain⟨n,hn1⟩:∃ n,y.rel.length=n+1:=⟨y.rel.length-1,by omega⟩
    have hdl:y.rel.dropLast.length=n:=by rw[List.length_dropLast];omega
    have hnn:((y.rel.length:Int)-1)=(n:Int):=by omega
    have hn0:(0:Int)≤(n:Int):=by omega
    have hcc:(n:Int)≤(c2:Int):=by have:=HC2.out;omega
    have hyl:=hy.len;have hc:∀ W,qx W (.slice a3 x.rel.length k3) x.rel→qx W (.slice (some ⟨b2,o2,none⟩) y.rel.length c2) y.rel→qx W (.slice q2 y.loc.length d2) y.loc→Calls Tryz.prog 40 #[.agg #[.string (qd x.ep),.slice a3 x.rel.length k3,.int .u8 x.c,.string (qd x.n),.bool x.b,.string (qd x.m),.bool x.d,.string (qd x.k),.slice none 0 0],.agg #[.string (qd y.ep),.slice (some ⟨b2,o2,none⟩) y.rel.length c2,.int .u8 y.c,.string (qd y.n),.bool y.b,.string (qd y.m),.bool y.d,.string (qd y.k),.slice q2 y.loc.length d2]] W fun e w'=>e=.returned (.int .i64 (ordP (hpub x) y))∧Below W.heap.size W w':=fun W h1 h2 h3=>qsw x y a3 _ q2 k3 c2 d2 W h1 h2 h3 hx hy;have HC:=qb hc;have HG:=qb (fun (W:World) (h1:qx W (.slice r1 x.rel.length c1) x.rel) (h2:qx W (.slice (some ⟨b2,o2,none⟩) n c2) y.rel.dropLast)=>qsd x y.ep y.rel.dropLast r1 (some ⟨b2,o2,none⟩) c1 c2 (.int .u8 x.c) (.string (qd x.n)) (.bool x.b) (.string (qd x.m)) (.bool x.d) (.string (qd x.k)) (.slice q1 x.loc.length d1) W h1 (by rw[hdl];exact h2) hx hy.fit.f1 (fun t ht=>List.all_eq_true.1 hy.fit.f3 t ((List.dropLast_sublist y.rel).subset ht)) hy.small.e (fun t ht=>hy.small.r.2 t ((List.dropLast_sublist y.rel).subset ht)) (by omega))
    rw[hdl]at HG;have HT5:=qb (fun (W:World) (h:qx W (.slice (some ⟨b2,o2,none⟩) y.rel.length c2) y.rel)=>qbbv h hn1);clear hc hdl hn1;have HD:=qb (Below.refl wz.heap.size wz).drew;clear s0 s1 s2 s3 s4 s5 s6 s7 s8 t0 t1 t2 t3 t4 t5 t6 t7 t8 v0 v1 v2 v3 v4 v5 v6 v7 v8;have hcn:n≤c2:=by omega
    have hw1:IntKind.i64.wrap ((y.rel.length:Int)-1)=(n:Int):=by rw[hnn,IntKind.wrap_i64];omega
    have hw2:IntKind.i64.wrap (n:Int)=(n:Int):=by rw[IntKind.wrap_i64];omega
    by_cases ho:0≤ordP (hpub x) y
    · go_upto_region 15 with fail
      obtain⟨s0,s1,s2,s3,s4,s5,s6,s7,s8⟩:=(X5.out.next HD.out).seen;obtain⟨t0,t1,t2,t3,t4,t5,t6,t7,t8⟩:=(Y5.out.next HD.out).seen;obtain⟨v0,v1,v2,v3,v4,v5,v6,v7,v8⟩:=qbhx (P5.out.next HD.out)
      go_region_held3 (fun w'=>w'.cell? ⟨B5,0,none⟩=some (.string (qd x.ep))∧w'.cell? ⟨B5,1,none⟩=some (.slice r1 x.rel.length c1)∧w'.cell? ⟨B5,2,none⟩=some (.int .u8 x.c)∧w'.cell? ⟨B5,3,none⟩=some (.string (qd x.n))∧w'.cell? ⟨B5,4,none⟩=some (.bool x.b)∧w'.cell? ⟨B5,5,none⟩=some (.string (qd x.m))∧w'.cell? ⟨B5,6,none⟩=some (.bool x.d)∧w'.cell? ⟨B5,7,none⟩=some (.string (qd x.k))∧w'.cell? ⟨B5,8,none⟩=some (.slice q1 x.loc.length d1)∧w'.cell? ⟨B7,0,none⟩=some (.string (qd y.ep))∧w'.cell? ⟨B7,1,none⟩=some (.slice (some ⟨b2,o2,none⟩) y.rel.length c2)∧w'.cell? ⟨B7,2,none⟩=some (.int .u8 y.c)∧w'.cell? ⟨B7,3,none⟩=some (.string (qd y.n))∧w'.cell? ⟨B7,4,none⟩=some (.bool y.b)∧w'.cell? ⟨B7,5,none⟩=some (.string (qd y.m))∧w'.cell? ⟨B7,6,none⟩=some (.bool y.d)∧w'.cell? ⟨B7,7,none⟩=some (.string (qd y.k))∧w'.cell? ⟨B7,8,none⟩=some (.slice q2 y.loc.length d2)∧w'.cell? ⟨B9,0,none⟩=some (.string (qd x.ep))∧w'.cell? ⟨B9,1,none⟩=some (.slice a3 x.rel.length k3)∧w'.cell? ⟨B9,2,none⟩=some (.int .u8 x.c)∧w'.cell? ⟨B9,3,none⟩=some (.string (qd x.n))∧w'.cell? ⟨B9,4,none⟩=some (.bool x.b)∧w'.cell? ⟨B9,5,none⟩=some (.string (qd x.m))∧w'.cell? ⟨B9,6,none⟩=some (.bool x.d)∧w'.cell? ⟨B9,7,none⟩=some (.string (qd x.k))∧w'.cell? ⟨B9,8,none⟩=some (.slice none 0 0)) (go_keep)
        ((first
          | (
             go_at_call 40;refine(HC.out _ (P5.out.rel.below HD.out) (Y5.out.rel.below HD.out) (Y5.out.loc.below HD.out)).mono ?_;rintro e wy ⟨rfl,hby⟩
             have HBy:=qb (HD.out.trans (hby.mono HD.out.size));obtain⟨f0,f1,f2,f3,f4,f5,f6,f7,f8⟩:=(X5.out.next HBy.out).seen;obtain⟨g0,g1,g2,g3,g4,g5,g6,g7,g8⟩:=(Y5.out.next HBy.out).seen;obtain⟨i0,i1,i2,i3,i4,i5,i6,i7,i8⟩:=qbhx (P5.out.next HBy.out))
          | (
             go_at_call 43;refine(HG.out _ (X5.out.rel.below HBy.out) (HT5.out _ (Y5.out.rel.below HBy.out))).mono ?_;rintro e wx ⟨rfl,hbx⟩
             have HBx:=qb (HBy.out.trans (hbx.mono HBy.out.size));obtain⟨f0,f1,f2,f3,f4,f5,f6,f7,f8⟩:=(X5.out.next HBx.out).seen;obtain⟨g0,g1,g2,g3,g4,g5,g6,g7,g8⟩:=(Y5.out.next HBx.out).seen;obtain⟨i0,i1,i2,i3,i4,i5,i6,i7,i8⟩:=qbhx (P5.out.next HBx.out))
          | fail))
      all_goals
        (go_wp2_with fail);go_ret
        exact⟨by simp[qfp,ho],HB6.out.trans (HBx.out.mono HB6.out.size)⟩
    · obtain⟨m,hm⟩:∃ m:Nat,ordP (hpub x) y=Int.negSucc m:=by cases hO:ordP (hpub x) y with|ofNat j=>exact absurd (by rw[hO];exact Int.natCast_nonneg j) ho|negSucc m=>exact⟨m,rfl⟩
      simp only[hm]at HC;have HM:=qb hm;clear ho hm;go_upto_region 15 with fail
      have Y6:=Y5.out.next HD.out;have P6:=qbhx (P5.out.next HD.out);refine wp_region_held_drew (S:=fun w'=>(w'.cell? ⟨B7,0,none⟩=some (.string (qd y.ep))∧w'.cell? ⟨B7,1,none⟩=some (.slice (some ⟨b2,o2,none⟩) y.rel.length c2)∧w'.cell? ⟨B7,2,none⟩=some (.int .u8 y.c)∧w'.cell? ⟨B7,3,none⟩=some (.string (qd y.n))∧w'.cell? ⟨B7,4,none⟩=some (.bool y.b)∧w'.cell? ⟨B7,5,none⟩=some (.string (qd y.m))∧w'.cell? ⟨B7,6,none⟩=some (.bool y.d)∧w'.cell? ⟨B7,7,none⟩=some (.string (qd y.k))∧w'.cell? ⟨B7,8,none⟩=some (.slice q2 y.loc.length d2))∧(w'.cell? ⟨B9,0,none⟩=some (.string (qd x.ep))∧w'.cell? ⟨B9,1,none⟩=some (.slice a3 x.rel.length k3)∧w'.cell? ⟨B9,2,none⟩=some (.int .u8 x.c)∧w'.cell? ⟨B9,3,none⟩=some (.string (qd x.n))∧w'.cell? ⟨B9,4,none⟩=some (.bool x.b)∧w'.cell? ⟨B9,5,none⟩=some (.string (qd x.m))∧w'.cell? ⟨B9,6,none⟩=some (.bool x.d)∧w'.cell? ⟨B9,7,none⟩=some (.string (qd x.k))∧w'.cell? ⟨B9,8,none⟩=some (.slice none 0 0))) (by kernel_rfl) ⟨Y6.seen,P6⟩ (fun hHeld=>?_)
      refine wpAnyH_take (i:=0) (oi:=⟨some 64,.load 44 (.tmp 9),44, "ref.go:227",#[],none⟩) (v:=.agg #[.string (qd x.ep),.slice a3 x.rel.length k3,.int .u8 x.c,.string (qd x.n),.bool x.b,.string (qd x.m),.bool x.d,.string (qd x.k),.slice none 0 0]) rfl (by kernel_rfl) (by kernel_rfl) (by kernel_rfl) (fun _ _ _ h=>h) (Or.inl ⟨by rfl,fun w hS=>by obtain⟨_,v0,v1,v2,v3,v4,v5,v6,v7,v8⟩:=hS;go_simp⟩) hHeld ?_
      try simp only[Act.put,List.setIfInBounds_toArray,List.set_cons_zero,List.set_cons_succ]
      refine wpAnyH_take (i:=1) (oi:=⟨some 65,.load 44 (.tmp 7),44, "ref.go:227",#[],none⟩) (v:=.agg #[.string (qd y.ep),.slice (some ⟨b2,o2,none⟩) y.rel.length c2,.int .u8 y.c,.string (qd y.n),.bool y.b,.string (qd y.m),.bool y.d,.string (qd y.k),.slice q2 y.loc.length d2]) rfl (by kernel_rfl) (by kernel_rfl) (by kernel_rfl) (fun _ _ _ h=>h) (Or.inl ⟨by rfl,fun w hS=>by obtain⟨⟨t0,t1,t2,t3,t4,t5,t6,t7,t8⟩,_⟩:=hS;go_simp⟩) hHeld ?_
      try simp only[Act.put,List.setIfInBounds_toArray,List.set_cons_zero,List.set_cons_succ]
      refine wpAnyH_ready (rs:=[2]) (by kernel_rfl) (by simp) ?_
      refine AllReadyH.cons (o:=⟨some 66,.call ⟨.value (.func 40),#[.tmp 64,.tmp 65],#[44,44]⟩,3, "ref.go:227",#[⟨0,.data⟩,⟨1,.data⟩],none⟩) rfl (fun K hK=>?_) AllReadyH.nil;rw[if_pos (by rfl)]
      go_simp
      refine(HC.out _ (P5.out.rel.below HD.out) (Y5.out.rel.below HD.out) (Y5.out.loc.below HD.out)).mono ?_;rintro e wy ⟨rfl,hby⟩;have HBy:=qb (HD.out.trans (hby.mono HD.out.size));(go_wp2_with fail);refine hK.out _ _ ⟨(Y5.out.next HBy.out).seen,qbhx (P5.out.next HBy.out)⟩ (fun hHeld=>?_);clear hK K
      try simp only[Act.put,List.setIfInBounds_toArray,List.set_cons_zero,List.set_cons_succ]
      refine wpAnyH_take (i:=3) (oi:=⟨some 67,.binOp .geq 3 (.tmp 66) (.const (.int .i64 0)) 3,4, "ref.go:227",#[⟨2,.data⟩],none⟩) (v:=.bool false) rfl (by kernel_rfl) (by kernel_rfl) (by kernel_rfl) (fun _ _ _ h=>h) (Or.inl ⟨by rfl,fun w hS=>by go_simp⟩) hHeld ?_
      try simp only[Act.put,List.setIfInBounds_toArray,List.set_cons_zero,List.set_cons_succ]
      refine wpAnyH_take (i:=4) (oi:=⟨some 68,.move (.tmp 67),4, "ref.go:227",#[⟨3,.data⟩,⟨2,.chain⟩],none⟩) (v:=.bool false) rfl (by kernel_rfl) (by kernel_rfl) (by kernel_rfl) (fun _ _ _ h=>h) (Or.inl ⟨by rfl,fun w hS=>by go_simp⟩) hHeld ?_
      try simp only[Act.put,List.setIfInBounds_toArray,List.set_cons_zero,List.set_cons_succ]
      refine wpAnyH_take (i:=5) (oi:=⟨some 69,.load 44 (.tmp 5),44, "ref.go:227",#[⟨4,.guard⟩],some (4,true)⟩) (v:=undef) rfl (by kernel_rfl) (by kernel_rfl) (by kernel_rfl) (fun _ _ _ h=>h) (Or.inr ⟨by rfl,rfl⟩) hHeld ?_
      try simp only[Act.put,List.setIfInBounds_toArray,List.set_cons_zero,List.set_cons_succ]
      refine wpAnyH_take (i:=6) (oi:=⟨some 70,.fieldAddr 44 (.tmp 7) 0,0, "ref.go:227",#[⟨4,.guard⟩],some (4,true)⟩) (v:=undef) rfl (by kernel_rfl) (by kernel_rfl) (by kernel_rfl) (fun _ _ _ h=>h) (Or.inr ⟨by rfl,rfl⟩) hHeld ?_
      try simp only[Act.put,List.setIfInBounds_toArray,List.set_cons_zero,List.set_cons_succ]
      refine wpAnyH_take (i:=7) (oi:=⟨some 71,.load 9 (.tmp 70),9, "ref.go:227",#[⟨6,.data⟩,⟨4,.guard⟩],some (4,true)⟩) (v:=undef) rfl (by kernel_rfl) (by kernel_rfl) (by kernel_rfl) (fun _ _ _ h=>h) (Or.inr ⟨by rfl,rfl⟩) hHeld ?_
      try simp only[Act.put,List.setIfInBounds_toArray,List.set_cons_zero,List.set_cons_succ]
      refine wpAnyH_take (i:=8) (oi:=⟨some 72,.fieldAddr 44 (.tmp 7) 1,0, "ref.go:227",#[⟨4,.guard⟩],some (4,true)⟩) (v:=undef) rfl (by kernel_rfl) (by kernel_rfl) (by kernel_rfl) (fun _ _ _ h=>h) (Or.inr ⟨by rfl,rfl⟩) hHeld ?_
      try simp only[Act.put,List.setIfInBounds_toArray,List.set_cons_zero,List.set_cons_succ]
      refine wpAnyH_take (i:=9) (oi:=⟨some 73,.load 37 (.tmp 72),37, "ref.go:227",#[⟨8,.data⟩,⟨4,.guard⟩],some (4,true)⟩) (v:=undef) rfl (by kernel_rfl) (by kernel_rfl) (by kernel_rfl) (fun _ _ _ h=>h) (Or.inr ⟨by rfl,rfl⟩) hHeld ?_
      try simp only[Act.put,List.setIfInBounds_toArray,List.set_cons_zero,List.set_cons_succ]
      refine wpAnyH_take (i:=10) (oi:=⟨some 74,.fieldAddr 44 (.tmp 7) 1,0, "ref.go:227",#[⟨4,.guard⟩],some (4,true)⟩) (v:=undef) rfl (by kernel_rfl) (by kernel_rfl) (by kernel_rfl) (fun _ _ _ h=>h) (Or.inr ⟨by rfl,rfl⟩) hHeld ?_
      try simp only[Act.put,List.setIfInBounds_toArray,List.set_cons_zero,List.set_cons_succ]
      refine wpAnyH_take (i:=11) (oi:=⟨some 75,.load 37 (.tmp 74),37, "ref.go:227",#[⟨10,.data⟩,⟨4,.guard⟩],some (4,true)⟩) (v:=undef) rfl (by kernel_rfl) (by kernel_rfl) (by kernel_rfl) (fun _ _ _ h=>h) (Or.inr ⟨by rfl,rfl⟩) hHeld ?_
      try simp only[Act.put,List.setIfInBounds_toArray,List.set_cons_zero,List.set_cons_succ]
      refine wpAnyH_take (i:=12) (oi:=⟨some 76,.call ⟨.builtin .len,#[.tmp 75],#[37]⟩,3, "ref.go:227",#[⟨11,.data⟩,⟨4,.guard⟩],some (4,true)⟩) (v:=undef) rfl (by kernel_rfl) (by kernel_rfl) (by kernel_rfl) (fun _ _ _ h=>h) (Or.inr ⟨by rfl,rfl⟩) hHeld ?_
      try simp only[Act.put,List.setIfInBounds_toArray,List.set_cons_zero,List.set_cons_succ]
      refine wpAnyH_take (i:=13) (oi:=⟨some 77,.binOp .sub 3 (.tmp 76) (.const (.int .i64 1)) 3,3, "ref.go:227",#[⟨12,.data⟩,⟨4,.guard⟩],some (4,true)⟩) (v:=undef) rfl (by kernel_rfl) (by kernel_rfl) (by kernel_rfl) (fun _ _ _ h=>h) (Or.inr ⟨by rfl,rfl⟩) hHeld ?_
      try simp only[Act.put,List.setIfInBounds_toArray,List.set_cons_zero,List.set_cons_succ]
      refine wpAnyH_take (i:=14) (oi:=⟨some 78,.slice 37 (.tmp 73) none (some (.tmp 77)) none,37, "ref.go:227",#[⟨9,.data⟩,⟨13,.data⟩,⟨4,.guard⟩],some (4,true)⟩) (v:=undef) rfl (by kernel_rfl) (by kernel_rfl) (by kernel_rfl) (fun _ _ _ h=>h) (Or.inr ⟨by rfl,rfl⟩) hHeld ?_
      try simp only[Act.put,List.setIfInBounds_toArray,List.set_cons_zero,List.set_cons_succ]
      refine wpAnyH_take (i:=15) (oi:=⟨some 79,.call ⟨.value (.func 43),#[.tmp 69,.tmp 71,.tmp 78],#[44,9,37]⟩,4, "ref.go:227",#[⟨5,.data⟩,⟨7,.data⟩,⟨14,.data⟩,⟨4,.chain⟩,⟨4,.guard⟩],some (4,true)⟩) (v:=undef) rfl (by kernel_rfl) (by kernel_rfl) (by kernel_rfl) (fun _ _ _ h=>h) (Or.inr ⟨by rfl,rfl⟩) hHeld ?_
      try simp only[Act.put,List.setIfInBounds_toArray,List.set_cons_zero,List.set_cons_succ]
      refine wpAnyH_take (i:=16) (oi:=⟨some 80,.pick (.tmp 68) (.tmp 79) (.const (.bool false)),4, "ref.go:227",#[⟨4,.data⟩,⟨15,.data⟩],none⟩) (v:=.bool false) rfl (by kernel_rfl) (by kernel_rfl) (by kernel_rfl) (fun _ _ _ h=>h) (Or.inl ⟨by rfl,fun w hS=>by go_simp⟩) hHeld ?_
      try simp only[Act.put,List.setIfInBounds_toArray,List.set_cons_zero,List.set_cons_succ]
      refine wpAnyH_take (i:=17) (oi:=⟨some 4,.assign (.tmp 80),4, "ref.go:227",#[⟨16,.data⟩,⟨15,.chain⟩,⟨0,.phase⟩,⟨1,.phase⟩,⟨2,.phase⟩,⟨3,.phase⟩,⟨4,.phase⟩,⟨5,.phase⟩,⟨6,.phase⟩,⟨7,.phase⟩,⟨8,.phase⟩,⟨9,.phase⟩,⟨10,.phase⟩,⟨11,.phase⟩,⟨12,.phase⟩,⟨13,.phase⟩,⟨14,.phase⟩,⟨15,.phase⟩,⟨16,.phase⟩],none⟩) (v:=.bool false) rfl (by kernel_rfl) (by kernel_rfl) (by kernel_rfl) (fun _ _ _ h=>h) (Or.inl ⟨by rfl,fun w hS=>by go_simp⟩) hHeld ?_
      try simp only[Act.put,List.setIfInBounds_toArray,List.set_cons_zero,List.set_cons_succ]
      refine wpAnyH_done (by kernel_rfl) ?_ _
      (go_wp2_with fail);go_ret
      exact⟨by simp[qfp,HM.out],HB6.out.trans (HBy.out.mono HB6.out.size)⟩
  · have hsg:qd (sgn 1)=⟨#[61,61]⟩:=rfl
    rw[hsg]at p0;clear hsg;have HC:=qb (fun a b st=>qvp x y r1 r2 q1 q2 c1 c2 d1 d2 a b st _ X5.out.rel Y5.out.rel X5.out.loc Y5.out.loc hx hy HN.out);(go_wp2_with fail);refine(HC.out _ _ _).mono ?_;rintro e w6 ⟨rfl,b6⟩;(go_wp2_with fail);go_ret
    exact⟨by first|rfl|simp[qfp],HB6.out.trans (b6.mono HB6.out.size)⟩
  · have hsg:qd (sgn 2)=⟨#[33,61]⟩:=rfl
    rw[hsg]at p0;clear hsg;have HC:=qb (fun a b st=>qvp x y r1 r2 q1 q2 c1 c2 d1 d2 a b st _ X5.out.rel Y5.out.rel X5.out.loc Y5.out.loc hx hy HN.out);(go_wp2_with fail);refine(HC.out _ _ _).mono ?_;rintro e w6 ⟨rfl,b6⟩;(go_wp2_with fail);go_ret
    exact⟨by first|rfl|simp[qfp],HB6.out.trans (b6.mono HB6.out.size)⟩
  · have hsg:qd (sgn 3)=⟨#[60,61]⟩:=rfl
    rw[hsg]at p0;clear hsg;have hc:∀ W,qx W (.slice a3 x.rel.length k3) x.rel→qx W (.slice r2 y.rel.length c2) y.rel→qx W (.slice q2 y.loc.length d2) y.loc→Calls Tryz.prog 40 #[.agg #[.string (qd x.ep),.slice a3 x.rel.length k3,.int .u8 x.c,.string (qd x.n),.bool x.b,.string (qd x.m),.bool x.d,.string (qd x.k),.slice none 0 0],.agg #[.string (qd y.ep),.slice r2 y.rel.length c2,.int .u8 y.c,.string (qd y.n),.bool y.b,.string (qd y.m),.bool y.d,.string (qd y.k),.slice q2 y.loc.length d2]] W fun e w'=>e=.returned (.int .i64 (ordP (hpub x) y))∧Below W.heap.size W w':=fun W h1 h2 h3=>qsw x y a3 r2 q2 k3 c2 d2 W h1 h2 h3 hx hy;have HC:=qb (hc _ P5.out.rel Y5.out.rel Y5.out.loc);clear hc;(go_wp2_with fail);refine(HC.out).mono ?_;rintro e w6 ⟨rfl,b6⟩;(go_wp2_with fail);go_ret
    exact⟨by first|rfl|simp[qfp],HB6.out.trans (b6.mono HB6.out.size)⟩
  · have hsg:qd (sgn 4)=⟨#[62,61]⟩:=rfl
    rw[hsg]at p0;clear hsg;have hc:∀ W,qx W (.slice a3 x.rel.length k3) x.rel→qx W (.slice r2 y.rel.length c2) y.rel→qx W (.slice q2 y.loc.length d2) y.loc→Calls Tryz.prog 40 #[.agg #[.string (qd x.ep),.slice a3 x.rel.length k3,.int .u8 x.c,.string (qd x.n),.bool x.b,.string (qd x.m),.bool x.d,.string (qd x.k),.slice none 0 0],.agg #[.string (qd y.ep),.slice r2 y.rel.length c2,.int .u8 y.c,.string (qd y.n),.bool y.b,.string (qd y.m),.bool y.d,.string (qd y.k),.slice q2 y.loc.length d2]] W fun e w'=>e=.returned (.int .i64 (ordP (hpub x) y))∧Below W.heap.size W w':=fun W h1 h2 h3=>qsw x y a3 r2 q2 k3 c2 d2 W h1 h2 h3 hx hy;have HC:=qb (hc _ P5.out.rel Y5.out.rel Y5.out.loc);clear hc;(go_wp2_with fail);refine(HC.out).mono ?_;rintro e w6 ⟨rfl,b6⟩;(go_wp2_with fail);go_ret
    exact⟨by first|rfl|simp[qfp],HB6.out.trans (b6.mono HB6.out.size)⟩
  · have hsg:qd (sgn 5)=⟨#[60]⟩:=rfl
    rw[hsg]at p0;clear hsg;have HC:=qb (qjs x y r1 r2 q1 q2 c1 c2 d1 d2 _ X5.out.rel Y5.out.rel X5.out.loc Y5.out.loc hx.small hy.small hx.fit hy.fit);have RX:=qb (fun W h1 h2=>qnq x r1 q1 c1 d1 W h1 h2);have RY:=qb (fun W h1 h2=>qnq y r2 q2 c2 d2 W h1 h2)
    by_cases ho:ordP x y<0
    · cases hX:preP x
      · go_wp2_with fail
        refine(HC.out).mono ?_;rintro e w6 ⟨rfl,b6⟩;have X6:=qb (X5.out.next b6);have HB7:=qb (HB6.out.trans (b6.mono HB6.out.size));obtain⟨f0,f1,f2,f3,f4,f5,f6,f7,f8⟩:=X6.out.seen;(go_wp2_with fail);refine(RX.out _ X6.out.rel X6.out.loc).mono ?_;rintro e w7 ⟨rfl,b7⟩;(go_wp2_with fail);go_ret
        exact⟨by simp[qfp,ho,hX],HB7.out.trans (b7.mono HB7.out.size)⟩
      · go_wp2_with fail
        refine(HC.out).mono ?_;rintro e w6 ⟨rfl,b6⟩;have X6:=qb (X5.out.next b6);have Y6:=qb (Y5.out.next b6);have HB7:=qb (HB6.out.trans (b6.mono HB6.out.size));obtain⟨f0,f1,f2,f3,f4,f5,f6,f7,f8⟩:=X6.out.seen;(go_wp2_with fail);refine(RX.out _ X6.out.rel X6.out.loc).mono ?_;rintro e w7 ⟨rfl,b7⟩;have Y7:=qb (Y6.out.next b7);have HB8:=qb (HB7.out.trans (b7.mono HB7.out.size));obtain⟨g0,g1,g2,g3,g4,g5,g6,g7,g8⟩:=Y7.out.seen;(go_wp2_with fail);refine(RY.out _ Y7.out.rel Y7.out.loc).mono ?_;rintro e w8 ⟨rfl,b8⟩;have HB9:=qb (HB8.out.trans (b8.mono HB8.out.size));cases hY:preP y
        all_goals
          (go_wp2_with fail);go_ret
          exact⟨by simp[qfp,ho,hX,hY],HB9.out⟩
    · go_wp2_with fail
      refine(HC.out).mono ?_;rintro e w6 ⟨rfl,b6⟩;(go_wp2_with fail);go_ret
      exact⟨by simp[qfp,ho],HB6.out.trans (b6.mono HB6.out.size)⟩
  · have hsg : qd (sgn 6)=⟨#[62]⟩:=rfl
    rw[hsg]at p0;clear hsg;have HC:=qb (qjs x y r1 r2 q1 q2 c1 c2 d1 d2 _ X5.out.rel Y5.out.rel X5.out.loc Y5.out.loc hx.small hy.small hx.fit hy.fit)
    by_cases ho:0<ordP x y
    · cases hS:qwt x y
      · rw[hS]at hsb
        (go_wp2_with fail);refine(HC.out).mono ?_;rintro e w6 ⟨rfl,b6⟩;have X6:=qb (X5.out.next b6);have Y6:=qb (Y5.out.next b6);have HB7:=qb (HB6.out.trans (b6.mono HB6.out.size));obtain⟨f0,f1,f2,f3,f4,f5,f6,f7,f8⟩:=X6.out.seen;obtain⟨g0,g1,g2,g3,g4,g5,g6,g7,g8⟩:=Y6.out.seen;(go_wp2_with fail);go_ret
        exact⟨by simp[qfp,ho,hS],HB7.out⟩
      · rw [hS]at hsb
        cases hpb:pubB x
        · obtain⟨m,hm⟩:∃ m,x.loc.length=m+1:=by unfold pubB at hpb;cases hx:x.loc with|nil=>rw[hx]at hpb;cases hpb|cons a l=>exact⟨l.length,rfl⟩
          have HL:=qb hm;clear hm;have hm1:(0:Int)<(m:Int)+1:=by omega
          (go_wp2_with fail);refine(HC.out).mono ?_;rintro e w6 ⟨rfl,b6⟩;have X6:=qb (X5.out.next b6);have Y6:=qb (Y5.out.next b6);have HB7:=qb (HB6.out.trans (b6.mono HB6.out.size));obtain⟨f0,f1,f2,f3,f4,f5,f6,f7,f8⟩:=X6.out.seen;obtain⟨g0,g1,g2,g3,g4,g5,g6,g7,g8⟩:=Y6.out.seen;rw[HL.out]at f8;(go_wp2_with fail);go_ret
          exact⟨by simp[qfp,ho,hS,hpb],HB7.out⟩
        · have HL:=qb (show x.loc.length=0 by unfold pubB at hpb;cases hx:x.loc with|nil=>rfl|cons a l=>rw[hx]at hpb;cases hpb)
          (go_wp2_with fail);refine(HC.out).mono ?_;rintro e w6 ⟨rfl,b6⟩;have X6:=qb (X5.out.next b6);have Y6:=qb (Y5.out.next b6);have HB7:=qb (HB6.out.trans (b6.mono HB6.out.size));obtain⟨f0,f1,f2,f3,f4,f5,f6,f7,f8⟩:=X6.out.seen;obtain⟨g0,g1,g2,g3,g4,g5,g6,g7,g8⟩:=Y6.out.seen;rw[HL.out]at f8;cases hXB:x.b<;>cases hYB:y.b
          all_goals
            (go_wp2_with fail);go_ret
            exact⟨by simp[qfp,ho,hS,hpb,hXB,hYB],HB7.out⟩
    · go_wp2_with fail
      refine(HC.out).mono ?_;rintro e w6 ⟨rfl,b6⟩;(go_wp2_with fail);go_ret
      exact⟨by simp[qfp,ho],HB6.out.trans (b6.mono HB6.out.size)⟩
end Go.Proofs.YtabmfdedbpmfmaaGreat
