/- Walks: the document's Pre. -/
import Derived.Test.YtabmfdedbpmfmaaGreatUKe
namespace Go.Proofs.YtabmfdedbpmfmaaGreat
open Go.RowKit Go.Shelf
open _root_.Array renaming getElem?_eq_some_iff → qbsp
open Below renaming refl → qbsv
open Nat renaming le_refl → qbst
open World renaming alloc_heap_new → qbsr
open Go.RowKit renaming Below → QE
set_option linter.unusedVariables false
set_option maxHeartbeats 8000000
set_option maxRecDepth 100000
theorem qbld (v:Value) (qs:List Tri) (w:World) (hv:qgn w v qs) (hs:qgm qs) :
  Calls Tryz.prog 19 #[v] w fun e w'=>e=.returned (.bool (qlm qs))∧QE w.heap.size w w':=by
 obtain⟨a,c,rfl,_⟩:=id hv;have HV:=qb hv;have HS:=qb hs;have hn:=hs.1;clear hv hs;go_enter Tryz.func19,Tryz.ntmps19
 (go_wp2_with fail);go_loopw [3] (fun x wr=>∃ i:Nat,i≤qs.length∧x=.int .i64 (i:Int)∧Hid ((qs.take i).any qgj=false)∧QE w.heap.size w wr) (fun x _=>qs.length-(intOf x).toNat)
 case atStart=>exact⟨0,Nat.zero_le _,rfl,rfl,qbsv _ _⟩
 case round=>
  obtain⟨i,hi,rfl,HN,hb⟩:=hrel
  by_cases hin:i<qs.length
  ·have hin':(i:Int)<(qs.length:Int):=by omega
   obtain⟨_,_,he,hA⟩:=(HV.out.below hb);obtain⟨g1,o1,ha,hg,p0,p1,p2⟩:=hA i hin;cases he;subst ha;have hsm:=HS.out.2 qs[i] (List.getElem_mem hin);have H37:=qb (fun W=>qrm qs[i] W hsm.1 hsm.2);have HT:=qb (qqb qgj qs i hin);have HF:=qb (qkb qgj qs i hin);unfold triV at H37;clear hA hsm;generalize qs[i]=q at *;cases hf:fitT q
   ·rw[hf]at H37;have HL:=qb (qbfv hf);have hal:QE wr.heap.size wr (wr.alloc (.cells #[.string (qd q.1),.string (qd q.2.1),.bool q.2.2] 32)):=(qbsv _ wr).alloc (qbst _) _;have HBa:=qb (hb.trans (hal.mono hb.size));clear hal hf;(go_wp2_with fail);refine(H37.out _).mono ?_;rintro e w2 ⟨rfl,b2⟩;have HB2:=qb (HBa.out.trans (b2.mono HBa.out.size));(go_wp2_with fail);go_roundw
    case rel=>exact⟨i+1,by omega,by go_num,by show _=_;rw[HT.out,HN.out,HL.out];rfl,HB2.out⟩
    case measure=>simp[intOf];omega
   ·rw [hf]at H37;obtain⟨c1,hc,hq⟩:=qbmr hf;have hOK:=qwh (wrT q) _ (by rw[hc];exact List.mem_singleton.2 rfl)
    have HL0:=qbhg hc hq;subst hq;clear hc hf;obtain⟨k,y,u,su,s0,e0,er0⟩:=c1;have hk:=hOK.k8;have hver:=hOK.ver;have hbare:=hOK.bare;dsimp only[triC]at p0 p1 p2 H37 hk hver hbare;unfold qpf at HL0;dsimp only at HL0;clear hOK;cases su
    ·clear hbare;obtain rfl|rfl|rfl|rfl|rfl|rfl|rfl|rfl:k=0∨k=1∨k=2∨k=3∨k=4∨k=5∨k=6∨k=7:=by omega
     ·have hsg:qd (sgn 0)=⟨#[126,61]⟩:=rfl;rw[hsg]at p0 H37;clear hsg;have hv2:=hver (by decide)
      have PV:=qb (fun W=>qgl (qd u) W (by rw[qj];exact hv2.1))
      rw[qj,←hv2.2]at PV;have HL:Hid (qgj (triC ⟨0,y,u,false,s0,e0,er0⟩)=preP y):=qb (HL0.trans (Bool.true_and _));clear hv2;clear HL0 hver;have n1:=qbsr wr (.cells #[.string ⟨#[126,61]⟩,.string (qd u),.bool false] 32);have hal:QE wr.heap.size wr (wr.alloc (.cells #[.string ⟨#[126,61]⟩,.string (qd u),.bool false] 32)):=(qbsv _ wr).alloc (qbst _) _;have H3:=H37;have HBa:=qb (hb.trans (hal.mono hb.size));clear H37;(go_wp2_with fail);generalize wr.alloc _=W1 at *;refine(H3.out _).mono ?_;rintro e w2 ⟨rfl,b2⟩;have HB2:=qb (HBa.out.trans (b2.mono HBa.out.size));have M2:=(b2.block _ (qbsp.1 n1).1).trans n1;have m0:=qc 0 M2 rfl;have m1:=qc 1 M2 rfl;have m2:=qc 2 M2 rfl;clear M2 n1 hal b2 H3 HBa p0 p1 p2;(go_wp2_with fail);refine(PV.out _).mono ?_;rintro e w3 ⟨r2,c2,q2,d2,rfl,rb,lb,_,_,b3⟩;obtain⟨V,hV,n3,n4,bV,sV⟩:=ql w3 #[.string (qd y.ep),.slice r2 y.rel.length c2,.int .u8 y.c,.string (qd y.n),.bool y.b,.string (qd y.m),.bool y.d,.string (qd y.k),.slice q2 y.loc.length d2] #[.int .i64 0,.int .i64 0] 44 25;obtain⟨s0',s1,s2,s3,s4,s5,s6,s7,s8,_⟩:=qcd n3;have HP:=qb (qzl y r2 q2 c2 d2 V (rb.below bV) (lb.below bV));have HB3:=qb (HB2.out.trans ((b3.trans (bV.mono b3.size)).mono HB2.out.size));have HVV:=qb hV;clear hV n3 n4 bV sV b3 rb lb;go_upto_region 8 with fail
      rw[HVV.out];cases hp:preP y
      ·rw[hp]at HP HL;clear hp;(go_wp2_with fail);refine(HP.out).mono ?_;rintro e w4 ⟨rfl,b4⟩;have HB4:=qb (HB3.out.trans (b4.mono HB3.out.size));(go_wp2_with fail);go_roundw
       case rel=>exact⟨i+1,by omega,by go_num,by show _=_;rw[HT.out,HN.out,HL.out];rfl,HB4.out⟩
       case measure=>simp[intOf];omega
      ·rw[hp]at HP HL;have HF2:=qb (HF.out HL.out);clear hp;(go_wp2_with fail);refine(HP.out).mono ?_;rintro e w4 ⟨rfl,b4⟩;have HB4:=qb (HB3.out.trans (b4.mono HB3.out.size));(go_wp2_with fail);go_ret
       exact⟨by unfold qlm;rw[HF2.out];rfl,HB4.out⟩
     ·have hsg:qd (sgn 1)=⟨#[61,61]⟩:=rfl;rw[hsg]at p0 H37;clear hsg;have hv2:=hver (by decide)
      have PV:=qb (fun W=>qgl (qd u) W (by rw[qj];exact hv2.1))
      rw[qj,←hv2.2]at PV;have HL:Hid (qgj (triC ⟨1,y,u,false,s0,e0,er0⟩)=preP y):=qb (HL0.trans (Bool.true_and _));clear hv2;clear HL0 hver;have n1:=qbsr wr (.cells #[.string ⟨#[61,61]⟩,.string (qd u),.bool false] 32);have hal:QE wr.heap.size wr (wr.alloc (.cells #[.string ⟨#[61,61]⟩,.string (qd u),.bool false] 32)):=(qbsv _ wr).alloc (qbst _) _;have H3:=H37;have HBa:=qb (hb.trans (hal.mono hb.size));clear H37;(go_wp2_with fail);generalize wr.alloc _=W1 at *;refine(H3.out _).mono ?_;rintro e w2 ⟨rfl,b2⟩;have HB2:=qb (HBa.out.trans (b2.mono HBa.out.size));have M2:=(b2.block _ (qbsp.1 n1).1).trans n1;have m0:=qc 0 M2 rfl;have m1:=qc 1 M2 rfl;have m2:=qc 2 M2 rfl;clear M2 n1 hal b2 H3 HBa p0 p1 p2;(go_wp2_with fail);refine(PV.out _).mono ?_;rintro e w3 ⟨r2,c2,q2,d2,rfl,rb,lb,_,_,b3⟩;obtain⟨V,hV,n3,n4,bV,sV⟩:=ql w3 #[.string (qd y.ep),.slice r2 y.rel.length c2,.int .u8 y.c,.string (qd y.n),.bool y.b,.string (qd y.m),.bool y.d,.string (qd y.k),.slice q2 y.loc.length d2] #[.int .i64 0,.int .i64 0] 44 25;obtain⟨s0',s1,s2,s3,s4,s5,s6,s7,s8,_⟩:=qcd n3;have HP:=qb (qzl y r2 q2 c2 d2 V (rb.below bV) (lb.below bV));have HB3:=qb (HB2.out.trans ((b3.trans (bV.mono b3.size)).mono HB2.out.size));have HVV:=qb hV;clear hV n3 n4 bV sV b3 rb lb;go_upto_region 8 with fail
      rw[HVV.out];cases hp:preP y
      ·rw[hp]at HP HL;clear hp;(go_wp2_with fail);refine(HP.out).mono ?_;rintro e w4 ⟨rfl,b4⟩;have HB4:=qb (HB3.out.trans (b4.mono HB3.out.size));(go_wp2_with fail);go_roundw
       case rel=>exact⟨i+1,by omega,by go_num,by show _=_;rw[HT.out,HN.out,HL.out];rfl,HB4.out⟩
       case measure=>simp[intOf];omega
      ·rw[hp]at HP HL;have HF2:=qb (HF.out HL.out);clear hp;(go_wp2_with fail);refine(HP.out).mono ?_;rintro e w4 ⟨rfl,b4⟩;have HB4:=qb (HB3.out.trans (b4.mono HB3.out.size));(go_wp2_with fail);go_ret
       exact⟨by unfold qlm;rw[HF2.out];rfl,HB4.out⟩
     ·have hsg:qd (sgn 2)=⟨#[33,61]⟩:=rfl;rw[hsg]at p0 H37;clear hsg;have HL:Hid (qgj (triC ⟨2,y,u,false,s0,e0,er0⟩)=false):=qb HL0;clear HL0 hver;have n1:=qbsr wr (.cells #[.string ⟨#[33,61]⟩,.string (qd u),.bool false] 32);have hal:QE wr.heap.size wr (wr.alloc (.cells #[.string ⟨#[33,61]⟩,.string (qd u),.bool false] 32)):=(qbsv _ wr).alloc (qbst _) _;have H3:=H37;have HBa:=qb (hb.trans (hal.mono hb.size));clear H37;(go_wp2_with fail);generalize wr.alloc _=W1 at *;refine(H3.out _).mono ?_;rintro e w2 ⟨rfl,b2⟩;have HB2:=qb (HBa.out.trans (b2.mono HBa.out.size));have M2:=(b2.block _ (qbsp.1 n1).1).trans n1;have m0:=qc 0 M2 rfl;have m1:=qc 1 M2 rfl;have m2:=qc 2 M2 rfl;clear M2 n1 hal b2 H3 HBa p0 p1 p2;(go_wp2_with fail);go_roundw
      case rel=>exact⟨i+1,by omega,by go_num,by show _=_;rw[HT.out,HN.out,HL.out];rfl,HB2.out⟩
      case measure=>simp[intOf];omega
     ·have hsg:qd (sgn 3)=⟨#[60,61]⟩:=rfl;rw[hsg]at p0 H37;clear hsg;have hv2:=hver (by decide)
      have PV:=qb (fun W=>qgl (qd u) W (by rw[qj];exact hv2.1))
      rw[qj,←hv2.2]at PV;have HL:Hid (qgj (triC ⟨3,y,u,false,s0,e0,er0⟩)=preP y):=qb (HL0.trans (Bool.true_and _));clear hv2;clear HL0 hver;have n1:=qbsr wr (.cells #[.string ⟨#[60,61]⟩,.string (qd u),.bool false] 32);have hal:QE wr.heap.size wr (wr.alloc (.cells #[.string ⟨#[60,61]⟩,.string (qd u),.bool false] 32)):=(qbsv _ wr).alloc (qbst _) _;have H3:=H37;have HBa:=qb (hb.trans (hal.mono hb.size));clear H37;(go_wp2_with fail);generalize wr.alloc _=W1 at *;refine(H3.out _).mono ?_;rintro e w2 ⟨rfl,b2⟩;have HB2:=qb (HBa.out.trans (b2.mono HBa.out.size));have M2:=(b2.block _ (qbsp.1 n1).1).trans n1;have m0:=qc 0 M2 rfl;have m1:=qc 1 M2 rfl;have m2:=qc 2 M2 rfl;clear M2 n1 hal b2 H3 HBa p0 p1 p2;(go_wp2_with fail);refine(PV.out _).mono ?_;rintro e w3 ⟨r2,c2,q2,d2,rfl,rb,lb,_,_,b3⟩;obtain⟨V,hV,n3,n4,bV,sV⟩:=ql w3 #[.string (qd y.ep),.slice r2 y.rel.length c2,.int .u8 y.c,.string (qd y.n),.bool y.b,.string (qd y.m),.bool y.d,.string (qd y.k),.slice q2 y.loc.length d2] #[.int .i64 0,.int .i64 0] 44 25;obtain⟨s0',s1,s2,s3,s4,s5,s6,s7,s8,_⟩:=qcd n3;have HP:=qb (qzl y r2 q2 c2 d2 V (rb.below bV) (lb.below bV));have HB3:=qb (HB2.out.trans ((b3.trans (bV.mono b3.size)).mono HB2.out.size));have HVV:=qb hV;clear hV n3 n4 bV sV b3 rb lb;go_upto_region 8 with fail
      rw[HVV.out];cases hp:preP y
      ·rw[hp]at HP HL;clear hp;(go_wp2_with fail);refine(HP.out).mono ?_;rintro e w4 ⟨rfl,b4⟩;have HB4:=qb (HB3.out.trans (b4.mono HB3.out.size));(go_wp2_with fail);go_roundw
       case rel=>exact⟨i+1,by omega,by go_num,by show _=_;rw[HT.out,HN.out,HL.out];rfl,HB4.out⟩
       case measure=>simp[intOf];omega
      ·rw[hp]at HP HL;have HF2:=qb (HF.out HL.out);clear hp;(go_wp2_with fail);refine(HP.out).mono ?_;rintro e w4 ⟨rfl,b4⟩;have HB4:=qb (HB3.out.trans (b4.mono HB3.out.size));(go_wp2_with fail);go_ret
       exact⟨by unfold qlm;rw[HF2.out];rfl,HB4.out⟩
     ·have hsg:qd (sgn 4)=⟨#[62,61]⟩:=rfl;rw[hsg]at p0 H37;clear hsg;have hv2:=hver (by decide)
      have PV:=qb (fun W=>qgl (qd u) W (by rw[qj];exact hv2.1))
      rw[qj,←hv2.2]at PV;have HL:Hid (qgj (triC ⟨4,y,u,false,s0,e0,er0⟩)=preP y):=qb (HL0.trans (Bool.true_and _));clear hv2;clear HL0 hver;have n1:=qbsr wr (.cells #[.string ⟨#[62,61]⟩,.string (qd u),.bool false] 32);have hal:QE wr.heap.size wr (wr.alloc (.cells #[.string ⟨#[62,61]⟩,.string (qd u),.bool false] 32)):=(qbsv _ wr).alloc (qbst _) _;have H3:=H37;have HBa:=qb (hb.trans (hal.mono hb.size));clear H37;(go_wp2_with fail);generalize wr.alloc _=W1 at *;refine(H3.out _).mono ?_;rintro e w2 ⟨rfl,b2⟩;have HB2:=qb (HBa.out.trans (b2.mono HBa.out.size));have M2:=(b2.block _ (qbsp.1 n1).1).trans n1;have m0:=qc 0 M2 rfl;have m1:=qc 1 M2 rfl;have m2:=qc 2 M2 rfl;clear M2 n1 hal b2 H3 HBa p0 p1 p2;(go_wp2_with fail);refine(PV.out _).mono ?_;rintro e w3 ⟨r2,c2,q2,d2,rfl,rb,lb,_,_,b3⟩;obtain⟨V,hV,n3,n4,bV,sV⟩:=ql w3 #[.string (qd y.ep),.slice r2 y.rel.length c2,.int .u8 y.c,.string (qd y.n),.bool y.b,.string (qd y.m),.bool y.d,.string (qd y.k),.slice q2 y.loc.length d2] #[.int .i64 0,.int .i64 0] 44 25;obtain⟨s0',s1,s2,s3,s4,s5,s6,s7,s8,_⟩:=qcd n3;have HP:=qb (qzl y r2 q2 c2 d2 V (rb.below bV) (lb.below bV));have HB3:=qb (HB2.out.trans ((b3.trans (bV.mono b3.size)).mono HB2.out.size));have HVV:=qb hV;clear hV n3 n4 bV sV b3 rb lb;go_upto_region 8 with fail
      rw[HVV.out];cases hp:preP y
      ·rw[hp]at HP HL;clear hp;(go_wp2_with fail);refine(HP.out).mono ?_;rintro e w4 ⟨rfl,b4⟩;have HB4:=qb (HB3.out.trans (b4.mono HB3.out.size));(go_wp2_with fail);go_roundw
       case rel=>exact⟨i+1,by omega,by go_num,by show _=_;rw[HT.out,HN.out,HL.out];rfl,HB4.out⟩
       case measure=>simp[intOf];omega
      ·rw[hp]at HP HL;have HF2:=qb (HF.out HL.out);clear hp;(go_wp2_with fail);refine(HP.out).mono ?_;rintro e w4 ⟨rfl,b4⟩;have HB4:=qb (HB3.out.trans (b4.mono HB3.out.size));(go_wp2_with fail);go_ret
       exact⟨by unfold qlm;rw[HF2.out];rfl,HB4.out⟩
     ·have hsg:qd (sgn 5)=⟨#[60]⟩:=rfl;rw[hsg]at p0 H37;clear hsg;have HL:Hid (qgj (triC ⟨5,y,u,false,s0,e0,er0⟩)=false):=qb HL0;clear HL0 hver;have n1:=qbsr wr (.cells #[.string ⟨#[60]⟩,.string (qd u),.bool false] 32);have hal:QE wr.heap.size wr (wr.alloc (.cells #[.string ⟨#[60]⟩,.string (qd u),.bool false] 32)):=(qbsv _ wr).alloc (qbst _) _;have H3:=H37;have HBa:=qb (hb.trans (hal.mono hb.size));clear H37;(go_wp2_with fail);generalize wr.alloc _=W1 at *;refine(H3.out _).mono ?_;rintro e w2 ⟨rfl,b2⟩;have HB2:=qb (HBa.out.trans (b2.mono HBa.out.size));have M2:=(b2.block _ (qbsp.1 n1).1).trans n1;have m0:=qc 0 M2 rfl;have m1:=qc 1 M2 rfl;have m2:=qc 2 M2 rfl;clear M2 n1 hal b2 H3 HBa p0 p1 p2;(go_wp2_with fail);go_roundw
      case rel=>exact⟨i+1,by omega,by go_num,by show _=_;rw[HT.out,HN.out,HL.out];rfl,HB2.out⟩
      case measure=>simp[intOf];omega
     ·have hsg:qd (sgn 6)=⟨#[62]⟩:=rfl;rw[hsg]at p0 H37;clear hsg;have HL:Hid (qgj (triC ⟨6,y,u,false,s0,e0,er0⟩)=false):=qb HL0;clear HL0 hver;have n1:=qbsr wr (.cells #[.string ⟨#[62]⟩,.string (qd u),.bool false] 32);have hal:QE wr.heap.size wr (wr.alloc (.cells #[.string ⟨#[62]⟩,.string (qd u),.bool false] 32)):=(qbsv _ wr).alloc (qbst _) _;have H3:=H37;have HBa:=qb (hb.trans (hal.mono hb.size));clear H37;(go_wp2_with fail);generalize wr.alloc _=W1 at *;refine(H3.out _).mono ?_;rintro e w2 ⟨rfl,b2⟩;have HB2:=qb (HBa.out.trans (b2.mono HBa.out.size));have M2:=(b2.block _ (qbsp.1 n1).1).trans n1;have m0:=qc 0 M2 rfl;have m1:=qc 1 M2 rfl;have m2:=qc 2 M2 rfl;clear M2 n1 hal b2 H3 HBa p0 p1 p2;(go_wp2_with fail);go_roundw
      case rel=>exact⟨i+1,by omega,by go_num,by show _=_;rw[HT.out,HN.out,HL.out];rfl,HB2.out⟩
      case measure=>simp[intOf];omega
     ·have hsg:qd (sgn 7)=⟨#[61,61,61]⟩:=rfl;rw[hsg]at p0 H37;clear hsg;have HL:Hid (qgj (triC ⟨7,y,u,false,s0,e0,er0⟩)=false):=qb HL0;clear HL0 hver;have n1:=qbsr wr (.cells #[.string ⟨#[61,61,61]⟩,.string (qd u),.bool false] 32);have hal:QE wr.heap.size wr (wr.alloc (.cells #[.string ⟨#[61,61,61]⟩,.string (qd u),.bool false] 32)):=(qbsv _ wr).alloc (qbst _) _;have H3:=H37;have HBa:=qb (hb.trans (hal.mono hb.size));clear H37;(go_wp2_with fail);generalize wr.alloc _=W1 at *;refine(H3.out _).mono ?_;rintro e w2 ⟨rfl,b2⟩;have HB2:=qb (HBa.out.trans (b2.mono HBa.out.size));have M2:=(b2.block _ (qbsp.1 n1).1).trans n1;have m0:=qc 0 M2 rfl;have m1:=qc 1 M2 rfl;have m2:=qc 2 M2 rfl;clear M2 n1 hal b2 H3 HBa p0 p1 p2;(go_wp2_with fail);go_roundw
      case rel=>exact⟨i+1,by omega,by go_num,by show _=_;rw[HT.out,HN.out,HL.out];rfl,HB2.out⟩
      case measure=>simp[intOf];omega
    ·have hb2:=hbare rfl;have hpr:preP y=false:=by
      have h3:=hb2.2;unfold qgb at h3;unfold preP;simp only[Bool.and_eq_true,beq_iff_eq,Bool.not_eq_true']at h3;rw[h3.1.1.2,h3.2]
      rfl
     rw[hpr,Bool.and_false]at HL0;have HL:=qb HL0;clear HL0 hver hbare hb2 hpr;have n1:=qbsr wr (.cells #[.string (qd (sgn k)),.string (qd u),.bool true] 32);have hal:QE wr.heap.size wr (wr.alloc (.cells #[.string (qd (sgn k)),.string (qd u),.bool true] 32)):=(qbsv _ wr).alloc (qbst _) _;have HBa:=qb (hb.trans (hal.mono hb.size));(go_wp2_with fail);generalize wr.alloc _=W1 at *;refine(H37.out _).mono ?_;rintro e w2 ⟨rfl,b2⟩;have HB2:=qb (HBa.out.trans (b2.mono HBa.out.size));have M2:=(b2.block _ (qbsp.1 n1).1).trans n1;have m0:=qc 0 M2 rfl;have m1:=qc 1 M2 rfl;have m2:=qc 2 M2 rfl;(go_wp2_with fail);go_roundw
     case rel=>exact⟨i+1,by omega,by go_num,by show _=_;rw[HT.out,HN.out,HL.out];rfl,HB2.out⟩
     case measure=>simp[intOf];omega
  ·have hin':¬ (i:Int)<(qs.length:Int):=by omega
   obtain rfl:i=qs.length:=by omega
   have HE:=HN.out;rw[List.take_length]at HE;replace HE:=qb HE;(go_wp2_with fail);go_ret
   exact⟨by unfold qlm;rw[HE.out];rfl,hb⟩
end Go.Proofs.YtabmfdedbpmfmaaGreat
