/- Walks: texts read and compared. -/
import Derived.Test.YtabmfdedbpmfmaaGreatVPp
namespace Go.Proofs.YtabmfdedbpmfmaaGreat
open Go.RowKit Go.Shelf
set_option linter.unusedVariables false
set_option maxHeartbeats 4000000
set_option maxRecDepth 100000
def qwr (W:World) (v:Value) (x:PepL):Prop:=∃ vr vl,v=pepV (qd x.ep) vr x.c (qd x.n) x.b (qd x.m) x.d (qd x.k) vl∧qx W vr x.rel∧qx W vl x.loc
def qqw (x:PepL):Prop:=x.ep.length≤9223372036854775806∧x.n.length≤9223372036854775806∧x.m.length≤9223372036854775806∧x.k.length≤9223372036854775806∧qsh x.rel∧qsh x.loc
theorem qwr.below {W W':World} {v:Value} {x:PepL} (h:qwr W v x) (hb:Below W.heap.size W W'):qwr W' v x:=by
 obtain⟨vr,vl,e,h1,h2⟩:=h;exact⟨vr,vl,e,h1.below hb,h2.below hb⟩
structure OB (w:World) (x y:PepL) (r1 r2 q1 q2:Option Addr) (c1 c2 d1 d2:Nat) (W:World):Prop where
 bel:Below w.heap.size w W
 ea:W.heap[w.heap.size]? = some (.cells #[.string (qd x.ep),.slice r1 x.rel.length c1,.int .u8 x.c,.string (qd x.n),.bool x.b,.string (qd x.m),.bool x.d,.string (qd x.k),.slice q1 x.loc.length d1] 44 (0,0))
 eb:W.heap[w.heap.size+1]? = some (.cells #[.string (qd y.ep),.slice r2 y.rel.length c2,.int .u8 y.c,.string (qd y.n),.bool y.b,.string (qd y.m),.bool y.d,.string (qd y.k),.slice q2 y.loc.length d2] 44 (0,0))
 ra:qx W (.slice r1 x.rel.length c1) x.rel
 rb:qx W (.slice r2 y.rel.length c2) y.rel
 la:qx W (.slice q1 x.loc.length d1) x.loc
 lb:qx W (.slice q2 y.loc.length d2) y.loc
theorem OB.next {w W W':World} {x y:PepL} {r1 r2 q1 q2:Option Addr} {c1 c2 d1 d2:Nat} (h:OB w x y r1 r2 q1 q2 c1 c2 d1 d2 W) (hb:Below W.heap.size W W'):OB w x y r1 r2 q1 q2 c1 c2 d1 d2 W':=by
 have l1:=(Array.getElem?_eq_some_iff.1 h.ea).1;have l2:=(Array.getElem?_eq_some_iff.1 h.eb).1;exact⟨h.bel.trans (hb.mono h.bel.size),(hb.block _ l1).trans h.ea,(hb.block _ l2).trans h.eb,h.ra.below hb,h.rb.below hb,h.la.below hb,h.lb.below hb⟩
theorem OB.drew {w W:World} {x y:PepL} {r1 r2 q1 q2:Option Addr} {c1 c2 d1 d2:Nat} (h:OB w x y r1 r2 q1 q2 c1 c2 d1 d2 W):OB w x y r1 r2 q1 q2 c1 c2 d1 d2 W.drew:=h.next (Below.refl _ _).drew
theorem OB.seen {w W:World} {x y:PepL} {r1 r2 q1 q2:Option Addr} {c1 c2 d1 d2:Nat} (h:OB w x y r1 r2 q1 q2 c1 c2 d1 d2 W):W.cell? ⟨w.heap.size,0,none⟩=some (.string (qd x.ep))∧W.cell? ⟨w.heap.size,1,none⟩=some (.slice r1 x.rel.length c1)∧W.cell? ⟨w.heap.size,2,none⟩=some (.int .u8 x.c)∧W.cell? ⟨w.heap.size,3,none⟩=some (.string (qd x.n))∧W.cell? ⟨w.heap.size,4,none⟩=some (.bool x.b)∧W.cell? ⟨w.heap.size,5,none⟩=some (.string (qd x.m))∧W.cell? ⟨w.heap.size,6,none⟩=some (.bool x.d)∧W.cell? ⟨w.heap.size,7,none⟩=some (.string (qd x.k))∧W.cell? ⟨w.heap.size,8,none⟩=some (.slice q1 x.loc.length d1)∧W.cell? ⟨w.heap.size+1,0,none⟩=some (.string (qd y.ep))∧W.cell? ⟨w.heap.size+1,1,none⟩=some (.slice r2 y.rel.length c2)∧W.cell? ⟨w.heap.size+1,2,none⟩=some (.int .u8 y.c)∧W.cell? ⟨w.heap.size+1,3,none⟩=some (.string (qd y.n))∧W.cell? ⟨w.heap.size+1,4,none⟩=some (.bool y.b)∧W.cell? ⟨w.heap.size+1,5,none⟩=some (.string (qd y.m))∧W.cell? ⟨w.heap.size+1,6,none⟩=some (.bool y.d)∧W.cell? ⟨w.heap.size+1,7,none⟩=some (.string (qd y.k))∧W.cell? ⟨w.heap.size+1,8,none⟩=some (.slice q2 y.loc.length d2):=
 ⟨qc 0 h.ea rfl,qc 1 h.ea rfl,qc 2 h.ea rfl,qc 3 h.ea rfl,qc 4 h.ea rfl,qc 5 h.ea rfl,qc 6 h.ea rfl,qc 7 h.ea rfl,qc 8 h.ea rfl,qc 0 h.eb rfl,qc 1 h.eb rfl,qc 2 h.eb rfl,qc 3 h.eb rfl,qc 4 h.eb rfl,qc 5 h.eb rfl,qc 6 h.eb rfl,qc 7 h.eb rfl,qc 8 h.eb rfl⟩
theorem OB.start {w:World} {x y:PepL} {r1 r2 q1 q2:Option Addr} {c1 c2 d1 d2:Nat} (ra:qx w (.slice r1 x.rel.length c1) x.rel) (rb:qx w (.slice r2 y.rel.length c2) y.rel) (la:qx w (.slice q1 x.loc.length d1) x.loc) (lb:qx w (.slice q2 y.loc.length d2) y.loc) :
  OB w x y r1 r2 q1 q2 c1 c2 d1 d2 ((w.alloc (.cells #[.string (qd x.ep),.slice r1 x.rel.length c1,.int .u8 x.c,.string (qd x.n),.bool x.b,.string (qd x.m),.bool x.d,.string (qd x.k),.slice q1 x.loc.length d1] 44)).alloc (.cells #[.string (qd y.ep),.slice r2 y.rel.length c2,.int .u8 y.c,.string (qd y.n),.bool y.b,.string (qd y.m),.bool y.d,.string (qd y.k),.slice q2 y.loc.length d2] 44)):=by
 have bb:Below w.heap.size w ((w.alloc (.cells #[.string (qd x.ep),.slice r1 x.rel.length c1,.int .u8 x.c,.string (qd x.n),.bool x.b,.string (qd x.m),.bool x.d,.string (qd x.k),.slice q1 x.loc.length d1] 44)).alloc (.cells #[.string (qd y.ep),.slice r2 y.rel.length c2,.int .u8 y.c,.string (qd y.n),.bool y.b,.string (qd y.m),.bool y.d,.string (qd y.k),.slice q2 y.loc.length d2] 44)):=((Below.refl _ w).alloc (Nat.le_refl _) _).alloc (by simp) _
 refine⟨bb,?_,?_,ra.below bb,rb.below bb,la.below bb,lb.below bb⟩
 ·rw[Below.heap_alloc _ _ _ (by simp)]
  exact World.alloc_heap_new w _
 ·have:=World.alloc_heap_new (w.alloc (.cells #[.string (qd x.ep),.slice r1 x.rel.length c1,.int .u8 x.c,.string (qd x.n),.bool x.b,.string (qd x.m),.bool x.d,.string (qd x.k),.slice q1 x.loc.length d1] 44)) (.cells #[.string (qd y.ep),.slice r2 y.rel.length c2,.int .u8 y.c,.string (qd y.n),.bool y.b,.string (qd y.m),.bool y.d,.string (qd y.k),.slice q2 y.loc.length d2] 44)
  rwa [World.size_alloc]at this
theorem qbnf (x:PepL):((stg1 x.c (qd x.n) x.b x.d).1,(stg1 x.c (qd x.n) x.b x.d).2.data.toList)=st1 x:=by
 unfold stg1 st1;split
 ·split<;>rfl
 ·rw[qj]
theorem qbnj (x:PepL):((stg2 x.b (qd x.m)).1,(stg2 x.b (qd x.m)).2.data.toList)=st2 x:=by
 unfold stg2 st2;split
 ·rw[qj]
 ·rfl
theorem qbmt (x:PepL):((stg3 x.d (qd x.k)).1,(stg3 x.d (qd x.k)).2.data.toList)=st3 x:=by
 unfold stg3 st3;split
 ·rw[qj]
 ·rfl
theorem qbnk (x:PepL) (h:qqw x):(stg1 x.c (qd x.n) x.b x.d).2.size≤9223372036854775806:=by
 unfold stg1
 (repeat' split)<;>first|(show(ByteArray.mk #[]).size≤_;decide)|(rw[qr];exact h.2.1)
theorem qbnz (x:PepL) (h:qqw x):(stg2 x.b (qd x.m)).2.size≤9223372036854775806:=by
 unfold stg2;split
 ·rw[qr];exact h.2.2.1
 ·show(ByteArray.mk #[]).size≤_;decide
theorem qbpd (x:PepL) (h:qqw x):(stg3 x.d (qd x.k)).2.size≤9223372036854775806:=by
 unfold stg3;split
 ·rw[qr];exact h.2.2.2.1
 ·show(ByteArray.mk #[]).size≤_;decide
theorem qzg (va vb:Value) (x y:PepL) (w:World) (ha:qwr w va x) (hb:qwr w vb y) (hx:qqw x) (hy:qqw y) :
 Calls Tryz.prog 81 #[va,vb] w fun e w'=>e=.returned (.int .i64 (ordP x y))∧Below w.heap.size w w':=by
  obtain⟨vr,vl,rfl,tr,tl⟩:=ha;obtain⟨vr',vl',rfl,tr',tl'⟩:=hb;obtain⟨r1,c1,rfl,_⟩:=id tr;obtain⟨r2,c2,rfl,_⟩:=id tr';obtain⟨q1,d1,rfl,_⟩:=id tl;obtain⟨q2,d2,rfl,_⟩:=id tl';have C1:=fun w=>qsz (qd x.ep) (qd y.ep) w (by rw[qr];exact hx.1) (by rw[qr];exact hy.1)
  rw[qj,qj]at C1;have C2:=fun w (h1:qx w (.slice r1 x.rel.length c1) x.rel) (h2:qx w (.slice r2 y.rel.length c2) y.rel)=>qvc _ _ x.rel y.rel ⟨#[48]⟩ w h1 h2 hx.2.2.2.2.1 hy.2.2.2.2.1 (by decide)
  have C3:=fun w=>qwq (qd x.ep) (.slice r1 x.rel.length c1) x.c (qd x.n) x.b (qd x.m) x.d (qd x.k) (.slice q1 x.loc.length d1) ⟨_,_,_,rfl⟩ ⟨_,_,_,rfl⟩ w;have C4:=fun w=>qwq (qd y.ep) (.slice r2 y.rel.length c2) y.c (qd y.n) y.b (qd y.m) y.d (qd y.k) (.slice q2 y.loc.length d2) ⟨_,_,_,rfl⟩ ⟨_,_,_,rfl⟩ w;have C5:=fun w B C (h1:qhs w B _ _ _) (h2:qhs w C _ _ _)=>qvn B C (stg1 x.c (qd x.n) x.b x.d) (stg2 x.b (qd x.m)) (stg3 x.d (qd x.k)) (stg1 y.c (qd y.n) y.b y.d) (stg2 y.b (qd y.m)) (stg3 y.d (qd y.k)) 0 ⟨#[]⟩ w h1 h2 (qbnk x hx) (qbnz x hx) (qbpd x hx) (qbnk y hy) (qbnz y hy) (qbpd y hy);have C6:=fun w (h1:qx w (.slice q1 x.loc.length d1) x.loc) (h2:qx w (.slice q2 y.loc.length d2) y.loc)=>qtx _ _ x.loc y.loc ⟨#[]⟩ w h1 h2 hx.2.2.2.2.2 hy.2.2.2.2.2 (by decide)
  have hst:stsO (stg1 x.c (qd x.n) x.b x.d) (stg2 x.b (qd x.m)) (stg3 x.d (qd x.k)) (stg1 y.c (qd y.n) y.b y.d) (stg2 y.b (qd y.m)) (stg3 y.d (qd y.k))=stL x y:=by
    unfold stsO stL;rw[qbnf,qbnj,qbmt,qbnf,qbnj,qbmt]
  rw[hst]at C5
  change ∀ w,qx w _ _→qx w _ _→Calls Tryz.prog 107 _ w fun e w'=>e=.returned (.int .i64 (padO cmpD [48] x.rel y.rel 0))∧w'=w at C2
  change ∀ w,qx w _ _→qx w _ _→Calls Tryz.prog 107 _ w fun e w'=>e=.returned (.int .i64 (padO locO [] x.loc y.loc 0))∧w'=w at C6
  have HO:Hid (ordP x y=orI [cmpD x.ep y.ep,padO cmpD [48] x.rel y.rel 0,stL x y,padO locO [] x.loc y.loc 0]):=rfl;have S0:=OB.start tr tr' tl tl';unfold pepV at C3 C4 ⊢;have C1:=qb C1;have C2:=qb C2;have C3:=qb C3;have C4:=qb C4;have C5:=qb C5;have C6:=qb C6;generalize ordP x y=O at *;generalize cmpD x.ep y.ep=o1 at *;generalize padO cmpD [48] x.rel y.rel 0=o2 at *;generalize stL x y=o3 at *;generalize padO locO [] x.loc y.loc 0=o4 at *;clear tr tr' tl tl' hst;go_enter Tryz.func81,Tryz.ntmps81
  (go_wp2_with fail);generalize (w.alloc (.cells #[.string (qd x.ep),.slice r1 x.rel.length c1,.int .u8 x.c,.string (qd x.n),.bool x.b,.string (qd x.m),.bool x.d,.string (qd x.k),.slice q1 x.loc.length d1] 44)).alloc (.cells #[.string (qd y.ep),.slice r2 y.rel.length c2,.int .u8 y.c,.string (qd y.n),.bool y.b,.string (qd y.m),.bool y.d,.string (qd y.k),.slice q2 y.loc.length d2] 44)=W0 at *;have D0:=S0.drew;obtain⟨s0,s1,s2,s3,s4,s5,s6,s7,s8,s9,s10,s11,s12,s13,s14,s15,s16,s17⟩:=S0.seen
  go_region_held3 (fun w'=>w'.cell? ⟨w.heap.size,0,none⟩=some (.string (qd x.ep))∧w'.cell? ⟨w.heap.size,1,none⟩=some (.slice r1 x.rel.length c1)∧w'.cell? ⟨w.heap.size,2,none⟩=some (.int .u8 x.c)∧w'.cell? ⟨w.heap.size,3,none⟩=some (.string (qd x.n))∧w'.cell? ⟨w.heap.size,4,none⟩=some (.bool x.b)∧w'.cell? ⟨w.heap.size,5,none⟩=some (.string (qd x.m))∧w'.cell? ⟨w.heap.size,6,none⟩=some (.bool x.d)∧w'.cell? ⟨w.heap.size,7,none⟩=some (.string (qd x.k))∧w'.cell? ⟨w.heap.size,8,none⟩=some (.slice q1 x.loc.length d1)∧w'.cell? ⟨w.heap.size+1,0,none⟩=some (.string (qd y.ep))∧w'.cell? ⟨w.heap.size+1,1,none⟩=some (.slice r2 y.rel.length c2)∧w'.cell? ⟨w.heap.size+1,2,none⟩=some (.int .u8 y.c)∧w'.cell? ⟨w.heap.size+1,3,none⟩=some (.string (qd y.n))∧w'.cell? ⟨w.heap.size+1,4,none⟩=some (.bool y.b)∧w'.cell? ⟨w.heap.size+1,5,none⟩=some (.string (qd y.m))∧w'.cell? ⟨w.heap.size+1,6,none⟩=some (.bool y.d)∧w'.cell? ⟨w.heap.size+1,7,none⟩=some (.string (qd y.k))∧w'.cell? ⟨w.heap.size+1,8,none⟩=some (.slice q2 y.loc.length d2))
    (go_keep)
    ((first
      | (have hq:=Q6;go_at_call 105;refine(Or_any _ [o1,o2,o3,o4] 4 rfl _ (by
          intro i hi
          match i,hi with
          | 0,_=>go_simp
          | 1,_=>go_simp
          | 2,_=>go_simp
          | 3,_=>go_simp) (by omega)).mono ?_;rintro e w9 ⟨rfl,hw9⟩;rw[hw9];clear hw9 w9)
      | (have hq:=Q5;go_at_call 107;refine(C6.out _ Q5.la Q5.lb).mono ?_;rintro e w6 ⟨rfl,hw6⟩;rw[hw6];clear hw6 w6;have Q6:=Q5)
      | (have hq:=Q4;go_at_call 108;refine(C5.out _ _ _ (u1.below b4) u2).mono ?_;rintro e w5 ⟨rfl,b5⟩;have Q5:=Q4.next b5;obtain⟨j0,j1,j2,j3,j4,j5,j6,j7,j8,j9,j10,j11,j12,j13,j14,j15,j16,j17⟩:=Q5.seen)
      | (have hq:=Q3;go_at_call 109;refine(C4.out _).mono ?_;rintro e w4 ⟨B2,rfl,g2,u2,b4⟩;have Q4:=Q3.next b4;obtain⟨i0,i1,i2,i3,i4,i5,i6,i7,i8,i9,i10,i11,i12,i13,i14,i15,i16,i17⟩:=Q4.seen)
      | (have hq:=Q2;go_at_call 109;refine(C3.out _).mono ?_;rintro e w3 ⟨B1,rfl,g1,u1,b3⟩;have Q3:=Q2.next b3;obtain⟨h0,h1,h2,h3,h4,h5,h6,h7,h8,h9,h10,h11,h12,h13,h14,h15,h16,h17⟩:=Q3.seen)
      | (have hq:=Q1;go_at_call 107;refine(C2.out _ Q1.ra Q1.rb).mono ?_;rintro e w2 ⟨rfl,hw2⟩;rw[hw2];clear hw2 w2;have Q2:=Q1)
      | (go_at_call 106;refine(C1.out _).mono ?_;rintro e w1 ⟨rfl,hw1⟩;rw[hw1];clear hw1 w1;have Q1:=D0;obtain⟨f0,f1,f2,f3,f4,f5,f6,f7,f8,f9,f10,f11,f12,f13,f14,f15,f16,f17⟩:=Q1.seen)
      | fail))
  (go_wp2_with fail);go_ret
  exact⟨qbv HO.out.symm,Q6.bel.alloc Q6.bel.size _⟩
open _root_.Array renaming getElem?_eq_some_iff → qbth
open Below renaming heap_alloc → qbvb
open Nat renaming le_refl → qbtm
open Go renaming World → QW
set_option maxHeartbeats 2000000
set_option maxRecDepth 100000
theorem qhw {W:QW} {base:Nat} {v:Value} {u:QB} {xs:List (Nat×Nat)} (h:W.ownsRow base 9 1 v (vals u xs).length (vals u xs)):qx W v (rowL u xs):=by
 rw[qpz]at h;rcases h.2 with ⟨rfl,h0⟩|⟨g,cap,cur,rfl,hg,hh,r1,r2,r3,r4⟩
 ·refine⟨none,0,by simp[rowL,h0],.inl ?_⟩
  rw[List.length_eq_zero_iff.1 h0];rfl
 ·refine ⟨some ⟨g,0,none⟩,cap,by simp[rowL],.inr ⟨g,0,rfl,(qbth.1 hh).1,fun i hi=>?_⟩⟩
  have hi':i<xs.length:=by simpa[rowL] using hi
  have hc:cur[i]? = some (.string (qd (qbt (seg u xs[i].1 xs[i].2)))):=by
   have e1:(cur.toList.take (xs.length*1))[i]? = (vals u xs)[i]?:=by rw[r4]
   rw[List.getElem?_take,if_pos (by omega)]at e1
   rw[←Array.getElem?_toList,e1,vals];simp[hi']
  rw[Nat.zero_add,qc i hh hc];simp[rowL]
theorem qbpm (t:QB):(qbt t).length≤t.length+1:=by
 unfold qbt;split
 ·exact qkc t
 ·omega
theorem qbbm (l:QB) (a e:Nat):(seg l a e).length≤l.length:=by
 unfold seg;rw[List.length_drop,List.length_take];omega
theorem qbnq (l:QB) (a:Nat):(qp (digT l a)).length≤l.length+1:=Nat.le_trans (qkc _) (Nat.succ_le_succ (qbbm l _ _))
theorem qvf (l:QB) (a:Nat) (ws:List QB):(stN l a ws).length≤l.length+1:=by
 unfold stN;split
 ·simp
 ·exact qbnq l _
theorem qbnr (l:QB) (a:Nat):(posN l a).length≤l.length+1:=by
 unfold posN;split
 ·exact qbnq l _
 ·exact qvf l _ _
theorem qbpb (l:QB) (a:Nat):(epoT l a).length≤l.length+1:=by
 unfold epoT;split
 ·have h1:=qkc (cutB (l.drop a));have h2:(cutB (l.drop a)).length≤(l.drop a).length:=by unfold cutB;exact(List.takeWhile_sublist _).length_le
  rw[List.length_drop]at h2;omega
 ·simp
theorem qmx (u:QB) (hu:u.length≤64) (xs:List (Nat×Nat)) (hx:xs.length≤65):(rowL u xs).length≤65∧∀ t∈rowL u xs,t.length≤65:=by
 refine⟨by simp[rowL];exact hx,fun t ht=>?_⟩
 obtain⟨x,_,rfl⟩:=List.mem_map.1 ht;have:=qbpm (seg u x.1 x.2);have:=qbbm u x.1 x.2;omega
theorem qbnw {ts:List QB} (h:ts.length≤1048576∧∀ t∈ts,t.length≤1048576):qsh ts:=⟨by omega,fun t ht=>by have:=h.2 t ht;omega⟩
theorem qbng {ts:List QB} (h:ts.length≤65∧∀ t∈ts,t.length≤65):lenI ts≤5000:=by
 have:∀ us:List QB,(∀ t∈us,t.length≤65)→lenI us≤66*us.length:=by
  intro us
  induction us with
  | nil=>intro _;simp[lenI]
  | cons t r ih=>
   intro hh;have h1:=hh t List.mem_cons_self;have h2:=ih (fun u hu=>hh u (List.mem_cons_of_mem _ hu));simp only[lenI,List.length_cons];omega
 have:=this ts h.2;omega
theorem wide65 {ts:List QB} (h:ts.length≤65∧∀ t∈ts,t.length≤65):ts.length≤1048576∧∀ t∈ts,t.length≤1048576:=⟨by omega,fun t ht=>by have:=h.2 t ht;omega⟩
structure SmallP (x:PepL):Prop where
 e:x.ep.length≤1048576
 n:x.n.length≤1048576
 m:x.m.length≤1048576
 k:x.k.length≤1048576
 r:x.rel.length≤1048576∧∀ t∈x.rel,t.length≤1048576
 l:x.loc.length≤1048576∧∀ t∈x.loc,t.length≤1048576
 rI:lenI x.rel≤1048576
 lI:lenI x.loc≤1048576
theorem SmallP.short {x:PepL} (h:SmallP x):qqw x:=⟨by have:=h.e;omega,by have:=h.n;omega,by have:=h.m;omega,by have:=h.k;omega,qbnw h.r,qbnw h.l⟩
theorem qhg (u:QB) (hu:u.length≤64):SmallP (ql u):=by
 have h1:=qbpb u (vp1 u);have h2:=qvf u (vp3 u) qbp;have h3:=qbnr u (vp4 u);have h4:=qvf u (vp5 u) qbk;have r1:=qjv u 1 [46] _ (vp2 u) rfl;have r2:=qjv u 5 [45,95,46] _ (vp7 u) rfl;have R:=qmx u hu (vrel u) (by unfold vrel;omega)
 have L:=qmx u hu (qfb u) (by
  unfold qfb;split
  ·unfold vloc;omega
  ·simp)
 refine⟨?_,?_,?_,?_,wide65 R,wide65 L,?_,?_⟩
 ·show(epoT u (vp1 u)).length≤1048576;omega
 ·show(stN u (vp3 u) qbp).length≤1048576;omega
 ·show(posN u (vp4 u)).length≤1048576;omega
 ·show(stN u (vp5 u) qbk).length≤1048576;omega
 ·have:=qbng R;show lenI (rowL u (vrel u))≤1048576;omega
 ·have:=qbng L;show lenI (rowL u (qfb u))≤1048576;omega
def errX (l:QB):Int×Nat:=if 64<l.length then (12,64) else verX (qk l)
theorem qbrj (s:QY) (w:QW) (h:okP s.data.toList=true) :
  Calls Tryz.prog 67 #[.string s] w fun e w'=>∃ vr vl,e=.returned (.tuple #[pepV (qd (ql (qk s.data.toList)).ep) vr (ql (qk s.data.toList)).c (qd (ql (qk s.data.toList)).n) (ql (qk s.data.toList)).b (qd (ql (qk s.data.toList)).m) (ql (qk s.data.toList)).d (qd (ql (qk s.data.toList)).k) vl,.agg #[.int .i64 0,.int .i64 0]]) ∧
   qx w' vr (ql (qk s.data.toList)).rel∧qx w' vl (ql (qk s.data.toList)).loc∧qbjb w.heap.size vr∧qbjb w.heap.size vl∧Below w.heap.size w w':=by
 unfold okP at h;simp only[Bool.and_eq_true,decide_eq_true_eq]at h;have hl:=h.1;rw[qg]at hl;refine(qrc s w (by unfold maxLen;omega)).mono ?_
 rintro e w' ⟨hb,hp⟩;rw[if_neg (by omega),if_pos h.2]at hp
 obtain⟨v,rfl,⟨vr,vl,rfl,h1,h2⟩⟩:=hp;exact⟨vr,vl,rfl,qhw h1,qhw h2,qrt h1,qrt h2,hb⟩
theorem qbgs (s:QY) (w:QW) (hs:s.size≤140737488351232) (h:okP s.data.toList=false) :
  Calls Tryz.prog 67 #[.string s] w fun e w'=>e=.returned (.tuple #[.agg pepZ,.agg #[.int .i64 (errX s.data.toList).1,.int .i64 ((errX s.data.toList).2:Int)]])∧Below w.heap.size w w':=by
 refine(qrc s w (by unfold maxLen;omega)).mono ?_
 rintro e w' ⟨hb,hp⟩;unfold okP at h;unfold errX
 by_cases hl:64<s.data.toList.length
 ·rw[if_pos hl]at hp ⊢;exact⟨hp,hb⟩
 ·rw [if_neg hl]at hp ⊢;have hx:¬ (verX (qk s.data.toList)).1=0:=fun he=>by
   rw[decide_eq_true (show s.data.toList.length≤64 by omega),decide_eq_true he]at h
   cases h
  rw[if_neg hx]at hp;exact⟨hp,hb⟩
theorem qcx (l:QB) (h:okP l=false):((errX l).1==0)=false:=by
 unfold okP at h;unfold errX
 by_cases hl:64<l.length
 ·rw[if_pos hl];rfl
 ·rw [if_neg hl];have hx:¬ (verX (qk l)).1=0:=fun he=>by
   rw[decide_eq_true (show l.length≤64 by omega),decide_eq_true he]at h
   cases h
  simpa using hx
theorem qpw {W:QW} {B:Nat} {z0 z1 z2 z3 z4 z5 z6 z7 z8 z9 z10:Value} (a b c d e f g h i j k:Value) (o1 o2:Obj) (hh:W.heap[B]? = some (.cells #[z0,z1,z2,z3,z4,z5,z6,z7,z8,z9,z10] 129 (0,0))) :
  ∃ W',W'=((((((((((((W.setCell ⟨B,0,none⟩ a).setCell ⟨B,1,none⟩ b).setCell ⟨B,2,none⟩ c).setCell ⟨B,3,none⟩ d).setCell ⟨B,4,none⟩ e).setCell ⟨B,5,none⟩ f).setCell ⟨B,6,none⟩ g).setCell ⟨B,7,none⟩ h).setCell ⟨B,8,none⟩ i).setCell ⟨B,9,none⟩ j).setCell ⟨B,10,none⟩ k).alloc o1).alloc o2∧W'.heap[B]? = some (.cells #[a,b,c,d,e,f,g,h,i,j,k] 129 (0,0))∧(∀ n₀,n₀≤B→Below n₀ W W')∧(∀ j,j<W.heap.size→j≠B→W'.heap[j]? = W.heap[j]?)∧W.heap.size≤W'.heap.size:=by
 have k0:(W.setCell ⟨B,0,none⟩ a).heap[B]? = some (.cells #[a,z1,z2,z3,z4,z5,z6,z7,z8,z9,z10] 129 (0,0)):=qw 0 a hh;have t0:Turn B W (W.setCell ⟨B,0,none⟩ a):=Turn.set B _ _ _;obtain⟨W0,hW0⟩:∃ W0,W0=W.setCell ⟨B,0,none⟩ a:=⟨_,rfl⟩;rw[←hW0]at k0 t0;have k1:(W0.setCell ⟨B,1,none⟩ b).heap[B]? = some (.cells #[a,b,z2,z3,z4,z5,z6,z7,z8,z9,z10] 129 (0,0)):=qw 1 b k0;have t1:Turn B W (W0.setCell ⟨B,1,none⟩ b):=t0.trans (Turn.set B _ _ _);obtain⟨W1,hW1⟩:∃ W1,W1=W0.setCell ⟨B,1,none⟩ b:=⟨_,rfl⟩;rw[←hW1]at k1 t1;have k2:(W1.setCell ⟨B,2,none⟩ c).heap[B]? = some (.cells #[a,b,c,z3,z4,z5,z6,z7,z8,z9,z10] 129 (0,0)):=qw 2 c k1;have t2:Turn B W (W1.setCell ⟨B,2,none⟩ c):=t1.trans (Turn.set B _ _ _);obtain⟨W2,hW2⟩:∃ W2,W2=W1.setCell ⟨B,2,none⟩ c:=⟨_,rfl⟩;rw[←hW2]at k2 t2;have k3:(W2.setCell ⟨B,3,none⟩ d).heap[B]? = some (.cells #[a,b,c,d,z4,z5,z6,z7,z8,z9,z10] 129 (0,0)):=qw 3 d k2;have t3:Turn B W (W2.setCell ⟨B,3,none⟩ d):=t2.trans (Turn.set B _ _ _);obtain⟨W3,hW3⟩:∃ W3,W3=W2.setCell ⟨B,3,none⟩ d:=⟨_,rfl⟩;rw[←hW3]at k3 t3;have k4:(W3.setCell ⟨B,4,none⟩ e).heap[B]? = some (.cells #[a,b,c,d,e,z5,z6,z7,z8,z9,z10] 129 (0,0)):=qw 4 e k3;have t4:Turn B W (W3.setCell ⟨B,4,none⟩ e):=t3.trans (Turn.set B _ _ _);obtain⟨W4,hW4⟩:∃ W4,W4=W3.setCell ⟨B,4,none⟩ e:=⟨_,rfl⟩;rw[←hW4]at k4 t4
 have k5:(W4.setCell ⟨B,5,none⟩ f).heap[B]? = some (.cells #[a,b,c,d,e,f,z6,z7,z8,z9,z10] 129 (0,0)):=qw 5 f k4;have t5:Turn B W (W4.setCell ⟨B,5,none⟩ f):=t4.trans (Turn.set B _ _ _);obtain⟨W5,hW5⟩:∃ W5,W5=W4.setCell ⟨B,5,none⟩ f:=⟨_,rfl⟩;rw[←hW5]at k5 t5;have k6:(W5.setCell ⟨B,6,none⟩ g).heap[B]? = some (.cells #[a,b,c,d,e,f,g,z7,z8,z9,z10] 129 (0,0)):=qw 6 g k5;have t6:Turn B W (W5.setCell ⟨B,6,none⟩ g):=t5.trans (Turn.set B _ _ _);obtain⟨W6,hW6⟩:∃ W6,W6=W5.setCell ⟨B,6,none⟩ g:=⟨_,rfl⟩;rw[←hW6]at k6 t6;have k7:(W6.setCell ⟨B,7,none⟩ h).heap[B]? = some (.cells #[a,b,c,d,e,f,g,h,z8,z9,z10] 129 (0,0)):=qw 7 h k6;have t7:Turn B W (W6.setCell ⟨B,7,none⟩ h):=t6.trans (Turn.set B _ _ _);obtain⟨W7,hW7⟩:∃ W7,W7=W6.setCell ⟨B,7,none⟩ h:=⟨_,rfl⟩;rw[←hW7]at k7 t7;have k8:(W7.setCell ⟨B,8,none⟩ i).heap[B]? = some (.cells #[a,b,c,d,e,f,g,h,i,z9,z10] 129 (0,0)):=qw 8 i k7;have t8:Turn B W (W7.setCell ⟨B,8,none⟩ i):=t7.trans (Turn.set B _ _ _);obtain⟨W8,hW8⟩:∃ W8,W8=W7.setCell ⟨B,8,none⟩ i:=⟨_,rfl⟩;rw[←hW8]at k8 t8;have k9:(W8.setCell ⟨B,9,none⟩ j).heap[B]? = some (.cells #[a,b,c,d,e,f,g,h,i,j,z10] 129 (0,0)):=qw 9 j k8;have t9:Turn B W (W8.setCell ⟨B,9,none⟩ j):=t8.trans (Turn.set B _ _ _);obtain⟨W9,hW9⟩:∃ W9,W9=W8.setCell ⟨B,9,none⟩ j:=⟨_,rfl⟩;rw[←hW9]at k9 t9
 have k10:(W9.setCell ⟨B,10,none⟩ k).heap[B]? = some (.cells #[a,b,c,d,e,f,g,h,i,j,k] 129 (0,0)):=qw 10 k k9;have t10:Turn B W (W9.setCell ⟨B,10,none⟩ k):=t9.trans (Turn.set B _ _ _);obtain⟨W10,hW10⟩:∃ W10,W10=W9.setCell ⟨B,10,none⟩ k:=⟨_,rfl⟩;rw[←hW10]at k10 t10;have hlt:=(qbth.1 k10).1;refine⟨(W10.alloc o1).alloc o2,by rw[hW10,hW9,hW8,hW7,hW6,hW5,hW4,hW3,hW2,hW1,hW0],?_,?_,?_,?_⟩
 ·rw[qbvb _ _ _ (by simp;omega),qbvb _ _ _ hlt];exact k10
 ·intro n₀ hn;have h1:Below n₀ W W10:=⟨t10.os,t10.tape,t10.output,t10.size,fun q hq=>by
   by_cases hqs:q<W.heap.size
   ·exact t10.block q hqs (by omega)
   ·have:=(qbth.1 hh).1;omega⟩
  have h2:=h1.alloc (by have:=t10.size;have:=(qbth.1 hh).1;omega) o1
  exact h2.alloc (by have:=h2.size;have:=(qbth.1 hh).1;omega) o2
 ·intro q hq hne;have:=t10.size;rw[qbvb _ _ _ (by simp;omega),qbvb _ _ _ (by omega)]
  exact t10.block q hq hne
 ·have:=t10.size;simp only[World.size_alloc];omega
def EntP (W:QW) (v:Value) (l:QB):Prop:=
 (okP l=false∧v=.agg #[.string (qd l),.string ⟨#[]⟩,.slice none 0 0,.int .u8 0,.string ⟨#[]⟩,.bool false,.string ⟨#[]⟩,.bool false,.string ⟨#[]⟩,.slice none 0 0,.bool false]) ∨
 (okP l=true∧∃ vr vl,v=.agg #[.string (qd l),.string (qd (ql (qk l)).ep),vr,.int .u8 (ql (qk l)).c,.string (qd (ql (qk l)).n),.bool (ql (qk l)).b,.string (qd (ql (qk l)).m),.bool (ql (qk l)).d,.string (qd (ql (qk l)).k),vl,.bool true]∧qx W vr (ql (qk l)).rel∧qx W vl (ql (qk l)).loc)
theorem EntP.below {W W':QW} {v:Value} {l:QB} (h:EntP W v l) (hb:Below W.heap.size W W'):EntP W' v l:=by
 rcases h with h|⟨h0,vr,vl,h1,h2,h3⟩
 ·exact .inl h
 ·exact .inr ⟨h0,vr,vl,h1,h2.below hb,h3.below hb⟩
theorem finRd {R:Ending→QW→Prop} (tmps:Array Value) (W:QW) (B:Nat) (a e n m k:QY) (vr vl:Value) (c:Int) (b d z:Bool) (op:∃ a i c,vr=.slice a i c) (ob:∃ a i c,vl=.slice a i c)
  (h2:tmps.getD 4 undef=.pointer (some ⟨B,0,none⟩)) (e1:W.heap[B]? = some (.cells #[.string a,.string e,vr,.int .u8 c,.string n,.bool b,.string m,.bool d,.string k,vl,.bool z] 129 (0,0)))
  (hR:R (.returned (.agg #[.string a,.string e,vr,.int .u8 c,.string n,.bool b,.string m,.bool d,.string k,vl,.bool z])) W) :
  bodyPost Tryz.prog Tryz.f103 R .ret { tmps:=tmps,defers:=[] } W:=by
 obtain⟨a1,i1,c1,rfl⟩:=op;obtain⟨a2,i2,c2,rfl⟩:=ob;have r0:=qc 0 e1 rfl;have r1:=qc 1 e1 rfl;have r2:=qc 2 e1 rfl;have r3:=qc 3 e1 rfl;have r4:=qc 4 e1 rfl;have r5:=qc 5 e1 rfl;have r6:=qc 6 e1 rfl;have r7:=qc 7 e1 rfl;have r8:=qc 8 e1 rfl;have r9:=qc 9 e1 rfl;have r10:=qc 10 e1 rfl;rw[Array.getD_eq_getD_getElem?]at h2;refine⟨rfl,_,?_,hR⟩;simp[results,Tryz.results103,go_sem,h2,r0,r1,r2,r3,r4,r5,r6,r7,r8,r9,r10]
 try rfl
theorem qbfb (s:QY) (w:QW) (hs:s.size≤140737488351232) :
  Calls Tryz.prog 103 #[.string s,.func (.func 67) #[] #[]] w fun e w'=>Below w.heap.size w w'∧∃ v,e=.returned v∧EntP w' v s.data.toList:=by
 cases ha:okP s.data.toList
 ·have P1:=fun w=>qbgs s w hs ha;have n1:=qcx _ ha;generalize (errX s.data.toList).1=e1 at *;generalize ((errX s.data.toList).2:Int)=p1 at *;unfold pepZ at P1;have P1:=qb P1;have HA:=qb ha;clear ha;go_enter Tryz.func103,Tryz.ntmps103
  (go_wp2_with fail);refine(P1.out _).mono ?_;rintro e w1 ⟨rfl,b1⟩;have eR:=(b1.block w.heap.size (by simp)).trans (World.alloc_heap_new w _)
  have bw:=(((Below.refl _ w).alloc (qbtm _) _)).trans (b1.mono (by simp))
  have hlt:w.heap.size<w1.heap.size:=(qbth.1 eR).1;have hlt1:w.heap.size<w1.heap.size+1:=by omega
  have hlt2:w.heap.size<w1.heap.size+1+1:=by omega
  have r0:=qc 0 eR rfl;have r1:=qc 1 eR rfl;have r2:=qc 2 eR rfl;have r3:=qc 3 eR rfl;have r4:=qc 4 eR rfl;have r5:=qc 5 eR rfl;have r6:=qc 6 eR rfl;have r7:=qc 7 eR rfl;have r8:=qc 8 eR rfl;have r9:=qc 9 eR rfl;have r10:=qc 10 eR rfl;have y0:=qf 0 eR;have y1:=qf 1 eR;have y2:=qf 2 eR;have y3:=qf 3 eR;have y4:=qf 4 eR;have y5:=qf 5 eR;have y6:=qf 6 eR;have y7:=qf 7 eR;have y8:=qf 8 eR;have y9:=qf 9 eR;have y10:=qf 10 eR;clear b1;(go_wp2_with fail);obtain⟨W9,hW9,g1,hbl,hk,hs9⟩:=qpw (.string s) (.string ⟨#[]⟩) (.slice none 0 0) (.int .u8 0) (.string ⟨#[]⟩) (.bool false) (.string ⟨#[]⟩) (.bool false) (.string ⟨#[]⟩) (.slice none 0 0) (.bool false) (.cells #[.string ⟨#[]⟩,.slice none 0 0,.int .u8 0,.string ⟨#[]⟩,.bool false,.string ⟨#[]⟩,.bool false,.string ⟨#[]⟩,.slice none 0 0] 44) (.cells #[.int .i64 e1,.int .i64 p1] 25) eR;rw[←hW9];refine finRd _ W9 w.heap.size _ _ _ _ _ _ _ _ _ _ _ ⟨_,_,_,rfl⟩ ⟨_,_,_,rfl⟩ rfl g1 ?_;exact⟨bw.trans (hbl _ (qbtm _)),_,rfl,.inl ⟨HA.out,by rw[qdb]⟩⟩
 ·have P1:=fun w=>qbrj s w ha;have HA:=qb ha;have HX:Hid (∀ W v,(∃ vr vl,v=.agg #[.string s,.string (qd (ql (qk s.data.toList)).ep),vr,.int .u8 (ql (qk s.data.toList)).c,.string (qd (ql (qk s.data.toList)).n),.bool (ql (qk s.data.toList)).b,.string (qd (ql (qk s.data.toList)).m),.bool (ql (qk s.data.toList)).d,.string (qd (ql (qk s.data.toList)).k),vl,.bool true]∧qx W vr (ql (qk s.data.toList)).rel∧qx W vl (ql (qk s.data.toList)).loc)→EntP W v s.data.toList):=fun W v ⟨vr,vl,h1,h2,h3⟩=>.inr ⟨HA.out,vr,vl,by rw[h1,qdb],h2,h3⟩
  generalize ql (qk s.data.toList)=X at *;have P1:=qb P1;clear ha HA;go_enter Tryz.func103,Tryz.ntmps103
  (go_wp2_with fail);refine(P1.out _).mono ?_;rintro e w1 ⟨vr,vl,rfl,t1,t2,fr1,fr2,b1⟩;simp only[World.size_alloc]at fr1 fr2;obtain⟨r1',c1,rfl,_⟩:=id t1;obtain⟨q1',d1,rfl,_⟩:=id t2
  try unfold pepV
  have eR:=(b1.block w.heap.size (by simp)).trans (World.alloc_heap_new w _)
  have bw:=(((Below.refl _ w).alloc (qbtm _) _)).trans (b1.mono (by simp))
  have hlt:w.heap.size<w1.heap.size:=(qbth.1 eR).1;have hlt1:w.heap.size<w1.heap.size+1:=by omega
  have hlt2:w.heap.size<w1.heap.size+1+1:=by omega
  have T1:Hid (∀ (W':QW),(∀ j,j<w1.heap.size→j≠w.heap.size→W'.heap[j]? = w1.heap[j]?)→w1.heap.size≤W'.heap.size→qx W' _ X.rel):=fun W' hk hs=>qbgn (B:=w.heap.size) t1 hk hs (fun a n cap hv hn=>by have:=fr1 _ _ _ hv;omega)
  have T2:Hid (∀ (W':QW),(∀ j,j<w1.heap.size→j≠w.heap.size→W'.heap[j]? = w1.heap[j]?)→w1.heap.size≤W'.heap.size→qx W' _ X.loc):=fun W' hk hs=>qbgn (B:=w.heap.size) t2 hk hs (fun a n cap hv hn=>by have:=fr2 _ _ _ hv;omega)
  have r0:=qc 0 eR rfl;have r1:=qc 1 eR rfl;have r2:=qc 2 eR rfl;have r3:=qc 3 eR rfl;have r4:=qc 4 eR rfl;have r5:=qc 5 eR rfl;have r6:=qc 6 eR rfl;have r7:=qc 7 eR rfl;have r8:=qc 8 eR rfl;have r9:=qc 9 eR rfl;have r10:=qc 10 eR rfl;have y0:=qf 0 eR;have y1:=qf 1 eR;have y2:=qf 2 eR;have y3:=qf 3 eR;have y4:=qf 4 eR;have y5:=qf 5 eR;have y6:=qf 6 eR;have y7:=qf 7 eR;have y8:=qf 8 eR;have y9:=qf 9 eR;have y10:=qf 10 eR;clear b1 t1 t2 fr1 fr2;(go_wp2_with fail);obtain⟨W9,hW9,g1,hbl,hk,hs9⟩:=qpw (.string s) (.string (qd X.ep)) (.slice r1' X.rel.length c1) (.int .u8 X.c) (.string (qd X.n)) (.bool X.b) (.string (qd X.m)) (.bool X.d) (.string (qd X.k)) (.slice q1' X.loc.length d1) (.bool true) (.cells #[.string (qd X.ep),.slice r1' X.rel.length c1,.int .u8 X.c,.string (qd X.n),.bool X.b,.string (qd X.m),.bool X.d,.string (qd X.k),.slice q1' X.loc.length d1] 44) (.cells #[.int .i64 0,.int .i64 0] 25) eR;rw[←hW9];refine finRd _ W9 w.heap.size _ _ _ _ _ _ _ _ _ _ _ ⟨_,_,_,rfl⟩ ⟨_,_,_,rfl⟩ rfl g1 ?_;exact⟨bw.trans (hbl _ (qbtm _)),_,rfl,HX.out _ _ ⟨_,_,rfl,T1.out _ hk hs9,T2.out _ hk hs9⟩⟩
theorem qbrw (s t:QY) (w:QW):Calls Tryz.prog 104 #[.string s,.string t] w fun e w'=>e=.returned (.int .i64 0)∧w'=w:=by
 go_enter Tryz.func104,Tryz.ntmps104
 (go_wp2_with fail);go_ret
 exact⟨rfl,rfl⟩
theorem qbdb (va vb:Value) (a b:QB) (w:QW) (ha:EntP w va a) (hb:EntP w vb b) :
  Calls Tryz.prog 102 #[va,vb,.func (.func 81) #[] #[],.func (.func 104) #[] #[]] w fun e w'=>e=.returned (.int .i64 (cmpT a b))∧Below w.heap.size w w':=by
 have HC:Hid (cmpT a b=if okP a then (if okP b then ordP (ql (qk a)) (ql (qk b)) else 1) else if okP b then -1 else 0):=rfl;generalize cmpT a b=C at *;rcases ha with ⟨ha,rfl⟩|⟨ha,vr,vl,rfl,t1,t2⟩
 ·rcases hb with ⟨hb,rfl⟩|⟨hb,vr',vl',rfl,t1',t2'⟩
  ·have HZ:Hid (C=0):=by show _=_;rw[HC.out,ha,hb];rfl
   have AL:=qb (fun w=>qbrw (qd a) (qd b) w);clear HC ha hb;go_enter Tryz.func102,Tryz.ntmps102
   (go_wp2_with fail);refine(AL.out _).mono ?_;rintro e w' ⟨rfl,hw'⟩;rw[hw'];(go_wp2_with fail);go_ret
   exact⟨qbv HZ.out.symm,((Below.refl _ w).alloc (qbtm _) _).alloc (by simp) _⟩
  ·have HZ:Hid (C=-1):=by show _=_;rw[HC.out,ha,hb];rfl
   obtain⟨r2,c2,rfl,_⟩:=t1';obtain⟨q2,d2,rfl,_⟩:=t2';clear HC ha hb;generalize ql (qk b)=Y at *;go_enter Tryz.func102,Tryz.ntmps102
   (go_wp2_with fail);go_ret
   exact⟨qbv HZ.out.symm,((Below.refl _ w).alloc (qbtm _) _).alloc (by simp) _⟩
 ·have SX:SmallP (ql (qk a)):=qhg _ (by rw[qdw];unfold okP at ha;simp only[Bool.and_eq_true,decide_eq_true_eq]at ha;exact ha.1)
  obtain⟨r1,c1,rfl,_⟩:=id t1;obtain⟨q1,d1,rfl,_⟩:=id t2;rcases hb with ⟨hb,rfl⟩|⟨hb,vr',vl',rfl,t1',t2'⟩
  ·have HZ:Hid (C=1):=by show _=_;rw[HC.out,ha,hb];rfl
   clear HC ha hb t1 t2;generalize ql (qk a)=X at *;go_enter Tryz.func102,Tryz.ntmps102
   (go_wp2_with fail);go_ret
   exact⟨qbv HZ.out.symm,((Below.refl _ w).alloc (qbtm _) _).alloc (by simp) _⟩
  ·have SY:SmallP (ql (qk b)):=qhg _ (by rw[qdw];unfold okP at hb;simp only[Bool.and_eq_true,decide_eq_true_eq]at hb;exact hb.1)
   have HZ:Hid (C=ordP (ql (qk a)) (ql (qk b))):=by show _=_;rw[HC.out,ha,hb];rfl
   obtain⟨r2,c2,rfl,_⟩:=id t1';obtain⟨q2,d2,rfl,_⟩:=id t2';clear HC ha hb;generalize ql (qk a)=X at *;generalize ql (qk b)=Y at *;have OO:=fun W (hW:Below w.heap.size w W)=>qzg _ _ X Y W ⟨_,_,rfl,t1.below hW,t2.below hW⟩ ⟨_,_,rfl,t1'.below hW,t2'.below hW⟩ SX.short SY.short;unfold pepV at OO;have OO:=qb OO;clear t1 t2 t1' t2';go_enter Tryz.func102,Tryz.ntmps102
   (go_wp2_with fail);refine(OO.out _ (((Below.refl _ w).alloc (qbtm _) _).alloc (by simp) _)).mono ?_
   rintro e w' ⟨rfl,b1⟩;(go_wp2_with fail);go_ret
   exact⟨qbv HZ.out.symm,(((Below.refl _ w).alloc (qbtm _) _).alloc (by simp) _).trans (b1.mono (by simp;omega))⟩
theorem qbfm (s t:QY) (w:QW) (hs:s.size≤140737488351232) (ht:t.size≤140737488351232) :
  Calls Tryz.prog 80 #[.string s,.string t,.func (.func 67) #[] #[],.func (.func 81) #[] #[]] w fun e w'=>e=.returned (.int .i64 (cmpT s.data.toList t.data.toList))∧Below w.heap.size w w':=by
 go_enter Tryz.func80,Tryz.ntmps80
 (go_wp2_with fail);refine(qbfb _ _ hs).mono ?_;rintro e w1 ⟨b1,v1,rfl,h1⟩;(go_wp2_with fail);refine(qbfb _ _ ht).mono ?_;rintro e w2 ⟨b2,v2,rfl,h2⟩;have C:=qb (qbdb v1 v2 _ _ w2 (h1.below b2) h2);clear h1 h2;(go_wp2_with fail);refine C.out.mono ?_;rintro e w3 ⟨rfl,b3⟩;(go_wp2_with fail);go_ret
 exact⟨rfl,b1.trans ((b2.mono b1.size).trans (b3.mono (Nat.le_trans b1.size b2.size)))⟩
theorem qbdh (s t:QY) (w:QW) (hs:s.size≤140737488351232) (ht:t.size≤140737488351232) :
  Calls Tryz.prog 50 #[.string s,.string t] w fun e w'=>e=.returned (.int .i64 (cmpT s.data.toList t.data.toList))∧Below w.heap.size w w':=by
 go_enter Tryz.func50,Tryz.ntmps50
 (go_wp2_with fail);refine(qbfm _ _ _ hs ht).mono ?_;rintro e w1 ⟨rfl,b1⟩;(go_wp2_with fail);go_ret
 exact⟨rfl,b1⟩
end Go.Proofs.YtabmfdedbpmfmaaGreat
