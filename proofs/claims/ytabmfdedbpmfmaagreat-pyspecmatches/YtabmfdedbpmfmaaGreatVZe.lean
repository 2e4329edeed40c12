/- Walks: a version without its local part. -/
import Derived.Deep.OwnRows
import Derived.Deep.Cut
import Derived.Laws.IdiomCopy
import Derived.Test.YtabmfdedbpmfmaaGreatVGp
import Derived.Test.YtabmfdedbpmfmaaGreatVHx
import Derived.Test.YtabmfdedbpmfmaaGreatVHf
import Derived.Test.YtabmfdedbpmfmaaGreatVPr
import Derived.Test.YtabmfdedbpmfmaaGreatVQc
import Derived.Test.YtabmfdedbpmfmaaGreatVZc
namespace Go.Proofs.YtabmfdedbpmfmaaGreat
open Go.RowKit Go.Shelf
set_option linter.unusedVariables false
set_option maxHeartbeats 4000000
set_option maxRecDepth 100000
def qhx:Value:=.string ⟨#[48]⟩
def qjk (W:World) (g n k:Nat):Prop:=∃ cur:Array Value,W.heap[g]? = some (.cells cur 9 (0,0))∧cur.size=n∧∀ j,j<k→cur[j]? = some qhx
theorem qzj:∀ (vs:List Value) (cs:Array Value) (o:Nat),(qfj cs o vs).size=cs.size
 | [],_,_=>rfl
 | v::vs,cs,o=>(qzj vs _ _).trans (by simp)
theorem qqf {W:World} {g n k m:Nat} (h:qjk W g n k) (hm:k+m≤n):qjk (W.setCells g k (List.replicate m qhx)) g n (k+m):=by
 obtain⟨cur,h1,h2,h3⟩:=h;refine⟨qfj cur k (List.replicate m qhx),?_,?_,?_⟩
 ·rw[qdn];exact qcn _ W g k _ _ h1
 ·exact qzj _ _ _ |>.trans h2
 ·intro j hj;rw[qvt _ _ _ _ (by rw[List.length_replicate,h2];exact hm)]
  rw[List.length_replicate];split
  ·rw[List.getElem?_replicate,if_pos (by omega)]
  ·exact h3 j (by omega)
theorem qjk.cell {W:World} {g n k j:Nat} (h:qjk W g n k) (hj:j<k):W.cell? ⟨g,j,none⟩=some qhx:=by
 obtain⟨cur,h1,h2,h3⟩:=h;exact qc j h1 (h3 j hj)
theorem qjk.there {W:World} {g n k j:Nat} (h:qjk W g n k) (hj:j<n):(W.cell? ⟨g,j,none⟩).isSome=true∧W.frozen? ⟨g,j,none⟩=false:=by
 obtain⟨cur,h1,h2,h3⟩:=h;exact⟨Option.isSome_iff_exists.2 ⟨_,qc j h1 (Array.getElem?_eq_getElem (by omega))⟩,qf j h1⟩
theorem size9:(Tryz.prog.info? 9).map (·.size)=some 1:=by kernel_rfl
theorem qzf (w:World) (ty:TypeId) (g n k dLen dCap:Nat) (ad:Addr) (sLen sCap m:Nat) (hm:m=min sLen dLen) (hN:qjk w g n k) (hfit:k+m≤n) (hsrc:∀ j,j<m→w.cell? (ad.add j)=some qhx) :
 (Builtin.copy_ #[37,37] ty #[.slice (some ⟨g,k,none⟩) dLen dCap,.slice (some ad) sLen sCap]).run Tryz.prog w=.ok (.int .i64 (m:Int)) (w.setCells g k (List.replicate m qhx)):=by
  have:=run_copy_cells (P:=Tryz.prog) w 37 37 ty 9 g k dLen dCap ad sLen sCap (List.replicate m qhx) Tryz.underlying37 size9 (by rw[List.length_replicate];exact hm)
    (fun j v hj=>by
      obtain⟨h1,rfl⟩:=List.getElem?_eq_some_iff.1 hj;rw[List.length_replicate]at h1;rw[List.getElem_replicate];exact hsrc j h1)
    (fun j hj=>(hN.there (by rw[List.length_replicate]at hj;omega)).1) (fun j hj=>(hN.there (by rw[List.length_replicate]at hj;omega)).2)
    (fun v hv=>by rw[List.eq_of_mem_replicate hv];rfl)
  rw[List.length_replicate]at this;exact this
theorem qmt {B g k:Nat} {w0 w:World} (vs:List Value) (h:Below B w0 w) (hg:B≤g) (hs:B≤w.heap.size):Below B w0 (w.setCells g k vs):=by
 rw[qdn];exact h.trans ((qcg vs w g k).below hg hs)
theorem qbkl (b0 n:Nat) (w:World) (hn:n≤524288) (c0:w.cell? ⟨b0,0,none⟩=some qhx) (hb0:b0<w.heap.size) :
  Calls Tryz.prog 182 #[.slice (some ⟨b0,0,none⟩) 1 1,.int .i64 (n:Int)] w fun e w'=>∃ g,e=.returned (.slice (some ⟨g,0,none⟩) n n)∧g<w'.heap.size∧TxtP w' ⟨g,0,none⟩ (List.replicate n [48])∧Below w.heap.size w w':=by
 have M:=qb (fun W=>Mul_any n (by omega) W)
 have h1:¬ ((n:Int)<0):=by omega
 have h2:¬ ((9223372036854775807:Int)<(n:Int)):=by omega
 have wn:IntKind.u64.wrap (n:Int)=(n:Int):=by rw[IntKind.wrap_u64];omega
 have wi:IntKind.i64.wrap (n:Int)=(n:Int):=by rw[IntKind.wrap_i64];omega
 obtain⟨i,hi,hz,hsz,hb⟩:=info_parts info9;go_enter Tryz.func182,Tryz.ntmps182
 (go_wp2_with fail);refine(M.out _).mono ?_;rintro e w0 ⟨rfl,hw0⟩;rw[hw0];clear hw0 w0;go_upto_region 6 with fail
 refine wp_region_lit ?_;go_step
 go_step
 go_step
 go_step
 go_step
 go_step
 refine wpList_make_row _ rfl (.tmp 29) (.tmp 29) 37 rfl 9 i (.string ⟨#[]⟩) Tryz.underlying37 hi hz hsz rfl .i64 .i64 n rfl rfl (by rw[hb];omega) (by omega) ?_
 have hB:=World.alloc_heap_new w (.cells (madeCells #[.string ⟨#[]⟩] n) 9);have hN0:qjk (w.alloc (.cells (madeCells #[.string ⟨#[]⟩] n) 9)) w.heap.size n 0:=⟨_,hB,by simp[madeCells],fun j h=>by omega⟩
 have hb0':Below w.heap.size w (w.alloc (.cells (madeCells #[.string ⟨#[]⟩] n) 9)):=(Below.refl _ w).alloc (Nat.le_refl _) _;have d0:(w.alloc (.cells (madeCells #[.string ⟨#[]⟩] n) 9)).cell? ⟨b0,0,none⟩=some qhx:=(hb0'.cell hb0).trans c0;have HN0:=qb hN0;have HB0:=qb hb0';clear hB hN0 hb0';generalize w.alloc (.cells (madeCells #[.string ⟨#[]⟩] n) 9)=V at *
 by_cases hz0:n=0
 ·subst hz0;have hcp:=run_copy_none (P:=Tryz.prog) V 37 37 3 9 (some ⟨w.heap.size,0,none⟩) (some ⟨b0,0,none⟩) 0 0 1 1 Tryz.underlying37 size9 (by decide)
  unfold goInt at hcp;(go_wp2_with fail);go_loopw [8] (fun x wr=>x=.int .i64 0∧wr=V) (fun x _=>0)
  case atStart=>exact⟨rfl,rfl⟩
  case round=>
   obtain⟨rfl,rfl⟩:=hrel;(go_wp2_with fail);go_ret
   refine⟨w.heap.size,rfl,?_,?_,HB0.out⟩
   ·obtain⟨cur,h5,_⟩:=HN0.out;exact(Array.getElem?_eq_some_iff.1 h5).1
   ·intro j u hj;simp[valT]at hj
 ·have hD:Hid (∀ j,j<1→V.cell? ((⟨b0,0,none⟩:Addr).add j)=some qhx):=qb (fun j (hj:j<1)=>by
   obtain rfl:j=0:=by omega
   exact d0)
  have hcp:=qzf V 3 w.heap.size n 0 n n ⟨b0,0,none⟩ 1 1 1 (by omega) HN0.out (by omega) hD.out
  have HN1:=qb (qqf HN0.out (m:=1) (by omega))
  have HB1:=qb (qmt (k:=0) (List.replicate 1 qhx) HB0.out (Nat.le_refl _) HB0.out.size);generalize V.setCells w.heap.size 0 (List.replicate 1 qhx)=V1 at *;(go_wp2_with fail);clear hcp;go_loopw [8] (fun x wr=>∃ k,0<k∧k≤n∧x=.int .i64 (k:Int)∧Hid (qjk wr w.heap.size n k)∧Below w.heap.size w wr) (fun x _=>n-(intOf x).toNat)
  case atStart=>exact⟨1,by omega,by omega,rfl,HN1,HB1.out⟩
  case round=>
   obtain⟨k,hk0,hkn,rfl,HN,hbk⟩:=hrel
   by_cases hlt:k<n
   ·have hlt':(k:Int)<(n:Int):=by omega
    have hcp:=qzf wr.drew 3 w.heap.size n k (n-k) (n-k) ⟨w.heap.size,0,none⟩ k n (min k (n-k)) rfl HN.out (by omega) (fun j hj=>by
     have e:(⟨w.heap.size,0,none⟩:Addr).add j=⟨w.heap.size,j,none⟩:=by unfold Addr.add;split<;>simp_all
     rw[e];exact HN.out.cell (by omega))
    have HN2:=qb (qqf (W:=wr.drew) HN.out (m:=min k (n-k)) (by omega))
    have HB2:=qb (qmt (w:=wr.drew) (k:=k) (List.replicate (min k (n-k)) qhx) hbk.drew (Nat.le_refl _) hbk.size);generalize wr.drew.setCells w.heap.size k (List.replicate (min k (n-k)) qhx)=W2 at *;obtain⟨m,hm⟩:∃ m,min k (n-k)=m:=⟨_,rfl⟩;have hm0:0<m:=by omega
    have hmk:k+m≤n:=by omega
    rw[hm]at hcp HN2;have hsub:((n:Int)-(k:Int)).toNat=n-k:=by omega
    have hkn':(k:Int)≤(n:Int):=by omega
    have hk0':(0:Int)≤(k:Int):=by omega
    (go_wp2_with fail);go_region
    all_goals
     (go_wp2_with fail);go_roundw
     case rel=>exact⟨k+m,by omega,hmk,by go_num,HN2,HB2.out⟩
     case measure=>simp[intOf];omega
   ·have hlt':¬ (k:Int)<(n:Int):=by omega
    obtain rfl:k=n:=by omega
    (go_wp2_with fail);go_ret
    refine⟨w.heap.size,rfl,?_,?_,hbk⟩
    ·obtain⟨cur,h5,_⟩:=HN.out;exact(Array.getElem?_eq_some_iff.1 h5).1
    ·intro j u hj;have e:(⟨w.heap.size,0,none⟩:Addr).add j=⟨w.heap.size,j,none⟩:=by unfold Addr.add;split<;>simp_all
     rw[e];have hv:valT (List.replicate k [48])=List.replicate k qhx:=by simp[valT,qhx,qd]
     rw[hv]at hj;obtain⟨h5,rfl⟩:=List.getElem?_eq_some_iff.1 hj;rw[List.getElem_replicate];exact HN.out.cell (by simpa using h5)
set_option maxHeartbeats 4000000
set_option maxRecDepth 100000
theorem txt_at {W:World} {a:Option Addr} {n c:Nat} {ts:List QB} (h:qx W (.slice a n c) ts) (i:Nat) (hi:i<ts.length):∃ b off,a=some ⟨b,off,none⟩∧W.cell? ⟨b,off+i,none⟩=some (.string (qd ts[i])):=by
 obtain⟨b,off,h1,h2⟩:=h.some (by omega)
 exact⟨b,off,h1,h2 i hi⟩
theorem ofL_nq (a b:QB):((qd a).toList==(qd b).toList)=(a==b):=by rw[toL,toL,qj,qj]
theorem qbkf (a b:Option Addr) (c d:Nat) (xs ys:List QB) (w:World) (hx:qx w (.slice a xs.length c) xs) (hy:qx w (.slice b ys.length d) ys) (lx:xs.length≤1048576) (ly:ys.length≤1048576) :
  Calls Tryz.prog 183 #[.slice a xs.length c,.slice b ys.length d] w fun e w'=>e=.returned (.bool (xs==ys))∧Below w.heap.size w w':=by
 obtain⟨n,hn⟩:∃ n,xs.length=n:=⟨_,rfl⟩;obtain⟨m,hm⟩:∃ m,ys.length=m:=⟨_,rfl⟩;rw[hn,hm];rw[hn]at hx lx;rw[hm]at hy ly;have HNM:Hid (xs.length=n∧ys.length=m):=⟨hn,hm⟩;obtain⟨E,hE⟩:∃ E,(xs==ys)=E:=⟨_,rfl⟩;rw[hE];have HE:=qb hE;have HX:=qb hx;have HY:=qb hy;clear hE hx hy hn hm
 by_cases hnm:n=m
 ·subst hnm;have hc0:((n:Int) != (n:Int))=false:=by simp
  go_enter Tryz.func183,Tryz.ntmps183
  (go_wp2_with fail);go_loopw [13] (fun y wr=>∃ i:Nat,i≤n∧y=.int .i64 i∧Hid (xs.take i=ys.take i)∧Below w.heap.size w wr∧Hid (qx wr (.slice a n c) xs)∧Hid (qx wr (.slice b n d) ys)) (fun y _=>n-(intOf y).toNat)
  case atStart=>exact⟨0,by omega,rfl,rfl,Below.refl _ _,HX,HY⟩
  case round=>
   obtain⟨i,hi,rfl,HT,hb,HA,HB⟩:=hrel
   by_cases hlt:i<n
   ·have hlt':(i:Int)<(n:Int):=by omega
    have hix:i<xs.length:=by rw[HNM.out.1];exact hlt
    have hiy:i<ys.length:=by rw[HNM.out.2];exact hlt
    obtain⟨b1,o1,h1,q1⟩:=txt_at HA.out i hix;obtain⟨b2,o2,h2,q2⟩:=txt_at HB.out i hiy;subst h1 h2;have hne:=ofL_nq (xs[i]'hix) (ys[i]'hiy);have HGX:Hid (xs[i]? = some (xs[i]'hix)):=qb (List.getElem?_eq_getElem _);have HGY:Hid (ys[i]? = some (ys[i]'hiy)):=qb (List.getElem?_eq_getElem _);generalize xs[i]'hix=X at *;generalize ys[i]'hiy=Y at *;clear hix hiy
    by_cases he:X=Y
    ·have hv:(X==Y)=true:=by simp[he]
     rw [hv]at hne;have HT2:Hid (xs.take (i+1)=ys.take (i+1)):=qb (by
      rw[List.take_add_one,List.take_add_one,HT.out,HGX.out,HGY.out,he])
     clear hv he;(go_wp2_with fail);go_quiet (fail)
     (go_wp2_with fail);go_roundw
     case rel=>exact⟨i+1,by omega,by go_num,HT2,hb.trans (qz _ _ _),qb (HA.out.below (qz _ _ _)),qb (HB.out.below (qz _ _ _))⟩
     case measure=>simp[intOf];omega
    ·have hv:(X==Y)=false:=by simp[he]
     rw [hv]at hne;have HEF:Hid (E=false):=qb (by
      rw[←HE.out,beq_eq_false_iff_ne];intro e;have h3:=HGX.out;rw[e,HGY.out]at h3;exact he (Option.some.inj h3).symm)
     clear hv he;(go_wp2_with fail);go_quiet (fail)
     (go_wp2_with fail);go_ret
     exact⟨by rw[HEF.out];rfl,hb.trans (qz _ _ _)⟩
   ·have hlt':¬ (i:Int)<(n:Int):=by omega
    have HET:Hid (E=true):=qb (by
     rw[←HE.out,beq_iff_eq];have:=HT.out;rw[List.take_of_length_le (by rw[HNM.out.1];omega),List.take_of_length_le (by rw[HNM.out.2];omega)]at this
     exact this)
    (go_wp2_with fail);go_ret
    exact⟨by rw[HET.out];rfl,hb⟩
 ·have hc0:((n:Int) != (m:Int))=true:=by simp;omega
  have HEF:Hid (E=false):=qb (by
   rw[←HE.out,beq_eq_false_iff_ne];intro e;exact hnm (by rw[←HNM.out.1,←HNM.out.2,e]))
  go_enter Tryz.func183,Tryz.ntmps183
  (go_wp2_with fail);go_ret
  exact⟨by rw[HEF.out];rfl,Below.refl _ _⟩
set_option maxHeartbeats 4000000
set_option maxRecDepth 100000
theorem qrs (x y:PepL) (r1 r2 q1 q2:Option Addr) (c1 c2 d1 d2:Nat) (w:World) (ra:qx w (.slice r1 x.rel.length c1) x.rel) (rb:qx w (.slice r2 y.rel.length c2) y.rel) (la:qx w (.slice q1 x.loc.length d1) x.loc) (lb:qx w (.slice q2 y.loc.length d2) y.loc) (sx:SmallP x) (sy:SmallP y) (fx:FitT x) (fy:FitT y) :
  Calls Tryz.prog 176 #[.agg #[.string (qd x.ep),.slice r1 x.rel.length c1,.int .u8 x.c,.string (qd x.n),.bool x.b,.string (qd x.m),.bool x.d,.string (qd x.k),.slice q1 x.loc.length d1],.agg #[.string (qd y.ep),.slice r2 y.rel.length c2,.int .u8 y.c,.string (qd y.n),.bool y.b,.string (qd y.m),.bool y.d,.string (qd y.k),.slice q2 y.loc.length d2]] w fun e w'=>e=.returned (.int .i64 (ordP x y))∧Below w.heap.size w w':=by
 have FX:=fun w h1 h2=>qbgd x r1 q1 c1 d1 w h1 h2 sx fx;have FY:=fun w h1 h2=>qbgd y r2 q2 c2 d2 w h1 h2 sy fy;have OR:=fun va vb w (h1:qwr w va x) (h2:qwr w vb y)=>qzg va vb x y w h1 h2 sx.short sy.short;have S0:=OB.start ra rb la lb;have FX:=qb FX;have FY:=qb FY;generalize ordP x y=OO at *;have OR:=qb OR;clear ra rb la lb fx fy sx sy;go_enter Tryz.func176,Tryz.ntmps176
 (go_wp2_with fail);generalize (w.alloc (.cells #[.string (qd x.ep),.slice r1 x.rel.length c1,.int .u8 x.c,.string (qd x.n),.bool x.b,.string (qd x.m),.bool x.d,.string (qd x.k),.slice q1 x.loc.length d1] 44)).alloc (.cells #[.string (qd y.ep),.slice r2 y.rel.length c2,.int .u8 y.c,.string (qd y.n),.bool y.b,.string (qd y.m),.bool y.d,.string (qd y.k),.slice q2 y.loc.length d2] 44)=W0 at *;obtain⟨s0,s1,s2,s3,s4,s5,s6,s7,s8,s9,s10,s11,s12,s13,s14,s15,s16,s17⟩:=S0.seen;(go_wp2_with fail);refine(FX.out _ S0.ra S0.la).mono ?_;rintro e W1 ⟨rfl,b1⟩;have S1:=S0.next b1;clear S0 s0 s1 s2 s3 s4 s5 s6 s7 s8 s9 s10 s11 s12 s13 s14 s15 s16 s17 b1;obtain⟨s0,s1,s2,s3,s4,s5,s6,s7,s8,s9,s10,s11,s12,s13,s14,s15,s16,s17⟩:=S1.seen
 try dsimp only
 (go_wp2_with fail);refine(FY.out _ S1.rb S1.lb).mono ?_;rintro e W2 ⟨rfl,b2⟩;have S2:=S1.next b2;clear S1 s0 s1 s2 s3 s4 s5 s6 s7 s8 s9 s10 s11 s12 s13 s14 s15 s16 s17 b2;obtain⟨s0,s1,s2,s3,s4,s5,s6,s7,s8,s9,s10,s11,s12,s13,s14,s15,s16,s17⟩:=S2.seen
 try dsimp only
 (go_wp2_with fail);refine(OR.out _ _ _ ⟨_,_,rfl,S2.ra,S2.la⟩ ⟨_,_,rfl,S2.rb,S2.lb⟩).mono ?_;rintro e W3 ⟨rfl,b3⟩;have S3:=S2.next b3
 try dsimp only
 (go_wp2_with fail);go_ret
 exact⟨rfl,S3.bel⟩
structure VB (w:World) (x y:PepL) (r1 r2 q1 q2:Option Addr) (c1 c2 d1 d2:Nat) (t u:QY) (st su:Bool) (W:World):Prop where
 ea:W.heap[w.heap.size]? = some (.cells #[.string (qd x.ep),.slice r1 x.rel.length c1,.int .u8 x.c,.string (qd x.n),.bool x.b,.string (qd x.m),.bool x.d,.string (qd x.k),.slice q1 x.loc.length d1,.string t,.bool st] 59 (0,0))
 eb:W.heap[w.heap.size+1]? = some (.cells #[.string (qd y.ep),.slice r2 y.rel.length c2,.int .u8 y.c,.string (qd y.n),.bool y.b,.string (qd y.m),.bool y.d,.string (qd y.k),.slice q2 y.loc.length d2,.string u,.bool su] 59 (0,0))
 ra:qx W (.slice r1 x.rel.length c1) x.rel
 rb:qx W (.slice r2 y.rel.length c2) y.rel
 la:qx W (.slice q1 x.loc.length d1) x.loc
 lb:qx W (.slice q2 y.loc.length d2) y.loc
 bel:Below w.heap.size w W
theorem VB.next {w W W':World} {x y:PepL} {r1 r2 q1 q2:Option Addr} {c1 c2 d1 d2:Nat} {t u:QY} {st su:Bool} (h:VB w x y r1 r2 q1 q2 c1 c2 d1 d2 t u st su W) (hb:Below W.heap.size W W'):VB w x y r1 r2 q1 q2 c1 c2 d1 d2 t u st su W':=
 ⟨(hb.block _ (Array.getElem?_eq_some_iff.1 h.ea).1).trans h.ea,(hb.block _ (Array.getElem?_eq_some_iff.1 h.eb).1).trans h.eb,h.ra.below hb,h.rb.below hb,h.la.below hb,h.lb.below hb,h.bel.trans (hb.mono h.bel.size)⟩
theorem VB.start {w:World} {x y:PepL} {r1 r2 q1 q2:Option Addr} {c1 c2 d1 d2:Nat} (ra:qx w (.slice r1 x.rel.length c1) x.rel) (rb:qx w (.slice r2 y.rel.length c2) y.rel) (la:qx w (.slice q1 x.loc.length d1) x.loc) (lb:qx w (.slice q2 y.loc.length d2) y.loc) (t u:QY) (st su:Bool):VB w x y r1 r2 q1 q2 c1 c2 d1 d2 t u st su ((w.alloc (.cells #[.string (qd x.ep),.slice r1 x.rel.length c1,.int .u8 x.c,.string (qd x.n),.bool x.b,.string (qd x.m),.bool x.d,.string (qd x.k),.slice q1 x.loc.length d1,.string t,.bool st] 59)).alloc (.cells #[.string (qd y.ep),.slice r2 y.rel.length c2,.int .u8 y.c,.string (qd y.n),.bool y.b,.string (qd y.m),.bool y.d,.string (qd y.k),.slice q2 y.loc.length d2,.string u,.bool su] 59)):=by
 obtain⟨V,hV,h1,h2,h3,_⟩:=qm w #[.string (qd x.ep),.slice r1 x.rel.length c1,.int .u8 x.c,.string (qd x.n),.bool x.b,.string (qd x.m),.bool x.d,.string (qd x.k),.slice q1 x.loc.length d1,.string t,.bool st] #[.string (qd y.ep),.slice r2 y.rel.length c2,.int .u8 y.c,.string (qd y.n),.bool y.b,.string (qd y.m),.bool y.d,.string (qd y.k),.slice q2 y.loc.length d2,.string u,.bool su] 59 59;rw[hV];exact⟨h1,h2,ra.below h3,rb.below h3,la.below h3,lb.below h3,h3⟩
theorem qsp (x y:PepL) (r1 r2 q1 q2:Option Addr) (c1 c2 d1 d2:Nat) (t u:QY) (st su:Bool) (w:World) (ra:qx w (.slice r1 x.rel.length c1) x.rel) (rb:qx w (.slice r2 y.rel.length c2) y.rel) (la:qx w (.slice q1 x.loc.length d1) x.loc) (lb:qx w (.slice q2 y.loc.length d2) y.loc) (O:Int)
 (PU:∀ W,qx W (.slice r1 x.rel.length c1) x.rel→qx W (.slice q1 x.loc.length d1) x.loc→Calls Tryz.prog 185 #[.agg #[.string (qd x.ep),.slice r1 x.rel.length c1,.int .u8 x.c,.string (qd x.n),.bool x.b,.string (qd x.m),.bool x.d,.string (qd x.k),.slice q1 x.loc.length d1]] W fun e W'=>∃ a k,e=.returned (.agg #[.string (qd x.ep),.slice a x.rel.length k,.int .u8 x.c,.string (qd x.n),.bool x.b,.string (qd x.m),.bool x.d,.string (qd x.k),.slice none 0 0])∧qx W' (.slice a x.rel.length k) x.rel∧Below W.heap.size W W')
 (OD:∀ a k W,qx W (.slice a x.rel.length k) x.rel→qx W (.slice r2 y.rel.length c2) y.rel→qx W (.slice q2 y.loc.length d2) y.loc→Calls Tryz.prog 176 #[.agg #[.string (qd x.ep),.slice a x.rel.length k,.int .u8 x.c,.string (qd x.n),.bool x.b,.string (qd x.m),.bool x.d,.string (qd x.k),.slice none 0 0],.agg #[.string (qd y.ep),.slice r2 y.rel.length c2,.int .u8 y.c,.string (qd y.n),.bool y.b,.string (qd y.m),.bool y.d,.string (qd y.k),.slice q2 y.loc.length d2]] W fun e W'=>e=.returned (.int .i64 O)∧Below W.heap.size W W') :
 Calls Tryz.prog 175 #[.agg #[.string (qd x.ep),.slice r1 x.rel.length c1,.int .u8 x.c,.string (qd x.n),.bool x.b,.string (qd x.m),.bool x.d,.string (qd x.k),.slice q1 x.loc.length d1,.string t,.bool st],.agg #[.string (qd y.ep),.slice r2 y.rel.length c2,.int .u8 y.c,.string (qd y.n),.bool y.b,.string (qd y.m),.bool y.d,.string (qd y.k),.slice q2 y.loc.length d2,.string u,.bool su]] w fun e w'=>e=.returned (.int .i64 O)∧Below w.heap.size w w':=by
  have S0:=VB.start ra rb la lb t u st su;have PU:=qb PU;have OD:=qb OD;clear ra rb la lb;go_enter Tryz.func175,Tryz.ntmps175
  (go_wp2_with fail);generalize (w.alloc _).alloc _=W0 at *;obtain⟨s0,s1,s2,s3,s4,s5,s6,s7,s8,s9,s10,_⟩:=qh S0.ea;obtain⟨v0,v1,v2,v3,v4,v5,v6,v7,v8,v9,v10,_⟩:=qh S0.eb;have D0:=S0.next (Below.refl _ _).drew
  go_region_held3 (fun w'=>w'.cell? ⟨w.heap.size,0,none⟩=some (.string (qd x.ep))∧w'.cell? ⟨w.heap.size,1,none⟩=some (.slice r1 x.rel.length c1)∧w'.cell? ⟨w.heap.size,2,none⟩=some (.int .u8 x.c)∧w'.cell? ⟨w.heap.size,3,none⟩=some (.string (qd x.n))∧w'.cell? ⟨w.heap.size,4,none⟩=some (.bool x.b)∧w'.cell? ⟨w.heap.size,5,none⟩=some (.string (qd x.m))∧w'.cell? ⟨w.heap.size,6,none⟩=some (.bool x.d)∧w'.cell? ⟨w.heap.size,7,none⟩=some (.string (qd x.k))∧w'.cell? ⟨w.heap.size,8,none⟩=some (.slice q1 x.loc.length d1)∧w'.cell? ⟨w.heap.size+1,0,none⟩=some (.string (qd y.ep))∧w'.cell? ⟨w.heap.size+1,1,none⟩=some (.slice r2 y.rel.length c2)∧w'.cell? ⟨w.heap.size+1,2,none⟩=some (.int .u8 y.c)∧w'.cell? ⟨w.heap.size+1,3,none⟩=some (.string (qd y.n))∧w'.cell? ⟨w.heap.size+1,4,none⟩=some (.bool y.b)∧w'.cell? ⟨w.heap.size+1,5,none⟩=some (.string (qd y.m))∧w'.cell? ⟨w.heap.size+1,6,none⟩=some (.bool y.d)∧w'.cell? ⟨w.heap.size+1,7,none⟩=some (.string (qd y.k))∧w'.cell? ⟨w.heap.size+1,8,none⟩=some (.slice q2 y.loc.length d2))
    (go_keep)
    ((first
      | (have hq:=Q1;go_at_call 176;refine(OD.out _ _ _ tq Q1.rb Q1.lb).mono ?_;rintro e w6 ⟨rfl,b6⟩;have Q2:=Q1.next b6;obtain⟨g0,g1,g2,g3,g4,g5,g6,g7,g8,g9,g10,_⟩:=qh Q2.ea;obtain⟨h0,h1,h2,h3,h4,h5,h6,h7,h8,h9,h10,_⟩:=qh Q2.eb)
      | (go_at_call 185;refine(PU.out _ D0.ra D0.la).mono ?_;rintro e w5 ⟨a5,k5,rfl,tq,b5⟩;have Q1:=D0.next b5;obtain⟨e0,e1,e2,e3,e4,e5,e6,e7,e8,e9,e10,_⟩:=qh Q1.ea;obtain⟨f0,f1,f2,f3,f4,f5,f6,f7,f8,f9,f10,_⟩:=qh Q1.eb)
      | fail))
  (go_wp2_with fail);go_ret
  exact⟨rfl,Q2.bel⟩
open _root_.Array renaming getElem?_eq_some_iff → qbth
set_option maxHeartbeats 4000000
set_option maxRecDepth 100000
theorem qrz:(Tryz.prog.info? 44).map (·.size)=some 9:=by kernel_rfl
def qbbg (x:PepL) (w:World) (e:Ending) (w':World):Prop:=
 ∃ v',e=.returned (.agg #[.string (qd x.ep),v',.int .u8 x.c,.string (qd x.n),.bool x.b,.string (qd x.m),.bool x.d,.string (qd x.k),.slice none 0 0])∧w'.ownsRow w.heap.size 9 1 v' x.rel.length (valT x.rel)∧Below w.heap.size w w'
theorem qch {w W:World} {K o base n k:Nat} {cs:Array Value} {t:TypeId} {v0:Value} {xs:List Value} (v:Value) (h:W.heap[K]? = some (.cells cs t (0,0))) (hn:n≤K) (hb:Below n w W) (ho:W.ownsRow base 9 1 v0 k xs) (hK:K<base) :
  ∃ W',W.setCell ⟨K,o,none⟩ v=W'∧W'.heap[K]? = some (.cells (cs.setIfInBounds o v) t (0,0))∧(∀ j,j≠K→j<W.heap.size→W'.heap[j]? = W.heap[j]?)∧Below n w W'∧W'.ownsRow base 9 1 v0 k xs∧W.frozen? ⟨K,o,none⟩=false∧W'.heap.size=W.heap.size:=
 ⟨_,rfl,qw o v h,fun j hj hl=>(qsc W K o v).block j hl (fun e=>hj (by simpa using e)),hb.setCell (p:=⟨K,o,none⟩) hn v,ownsRow_setCell_below ho (a:=⟨K,o,none⟩) hK v,qf o h,by simp⟩
theorem qrk {W:World} {base:Nat} {e:TypeId} {size:Nat} {v:Value} {n:Nat} {xs:List Value} (h:W.ownsRow base e size v n xs):∃ a k c,v=.slice a k c:=by
 rcases h.2 with ⟨h,_⟩|⟨g,cap,cur,h,_⟩
 ·exact⟨_,_,_,h⟩
 ·exact⟨_,_,_,h⟩
theorem qbkk (x:PepL) (r1 q1:Option Addr) (c1 d1:Nat) (w:World) (rr:qx w (.slice r1 x.rel.length c1) x.rel) (ll:qx w (.slice q1 x.loc.length d1) x.loc) (hl:x.rel.length≤1048576) (hnil:r1=none→c1=0) :
  Calls Tryz.prog 185 #[.agg #[.string (qd x.ep),.slice r1 x.rel.length c1,.int .u8 x.c,.string (qd x.n),.bool x.b,.string (qd x.m),.bool x.d,.string (qd x.k),.slice q1 x.loc.length d1]] w (qbbg x w):=by
 have CL:=qb (fun w h=>qbqs (.slice r1 x.rel.length c1) x.rel w h hl (by rintro n c h;cases h;exact hnil rfl))
 have S0:=TB.start rr ll;have b1:Below (w.alloc (.cells #[.string (qd x.ep),.slice r1 x.rel.length c1,.int .u8 x.c,.string (qd x.n),.bool x.b,.string (qd x.m),.bool x.d,.string (qd x.k),.slice q1 x.loc.length d1] 44)).heap.size (w.alloc (.cells #[.string (qd x.ep),.slice r1 x.rel.length c1,.int .u8 x.c,.string (qd x.n),.bool x.b,.string (qd x.m),.bool x.d,.string (qd x.k),.slice q1 x.loc.length d1] 44)) ((w.alloc (.cells #[.string (qd x.ep),.slice r1 x.rel.length c1,.int .u8 x.c,.string (qd x.n),.bool x.b,.string (qd x.m),.bool x.d,.string (qd x.k),.slice q1 x.loc.length d1] 44)).alloc (.cells #[.string ⟨#[]⟩,.slice none 0 0,.int .u8 0,.string ⟨#[]⟩,.bool false,.string ⟨#[]⟩,.bool false,.string ⟨#[]⟩,.slice none 0 0] 44)):=(Below.refl _ _).alloc (Nat.le_refl _) _;have e1:=World.alloc_heap_new (w.alloc (.cells #[.string (qd x.ep),.slice r1 x.rel.length c1,.int .u8 x.c,.string (qd x.n),.bool x.b,.string (qd x.m),.bool x.d,.string (qd x.k),.slice q1 x.loc.length d1] 44)) (.cells #[.string ⟨#[]⟩,.slice none 0 0,.int .u8 0,.string ⟨#[]⟩,.bool false,.string ⟨#[]⟩,.bool false,.string ⟨#[]⟩,.slice none 0 0] 44);have S1:=S0.next b1;clear rr ll;obtain⟨s0,s1,s2,s3,s4,s5,s6,s7,s8⟩:=S1.seen;go_enter Tryz.func185,Tryz.ntmps185
 (go_wp2_with fail);generalize (w.alloc (.cells #[.string (qd x.ep),.slice r1 x.rel.length c1,.int .u8 x.c,.string (qd x.n),.bool x.b,.string (qd x.m),.bool x.d,.string (qd x.k),.slice q1 x.loc.length d1] 44)).alloc (.cells #[.string ⟨#[]⟩,.slice none 0 0,.int .u8 0,.string ⟨#[]⟩,.bool false,.string ⟨#[]⟩,.bool false,.string ⟨#[]⟩,.slice none 0 0] 44)=W0 at *;refine(CL.out _ S1.rr).mono ?_;rintro e w2 ⟨v',rfl,own2,b2⟩;obtain⟨va,vn,vc,rfl⟩:=qrk own2;have hs1:=(qbth.1 S1.ea).1;have hs2:=(qbth.1 e1).1;simp only[World.size_alloc]at e1 hs2;have f1:=(b2.block _ hs1).trans S1.ea;have f2:=(b2.block _ hs2).trans e1;have B2:=S1.bel.trans (b2.mono S1.bel.size);have lt2:=(qbth.1 f2).1;have y1:=qc 1 f1 rfl;obtain⟨P1,p1,g1,k1,B3,o3,z1,n1⟩:=qch (o:=1) (.slice va vn vc) f1 (Nat.le_refl _) B2 own2 hs1
 change P1.heap[w.heap.size]? = some (.cells #[.string (qd x.ep),.slice va vn vc,.int .u8 x.c,.string (qd x.n),.bool x.b,.string (qd x.m),.bool x.d,.string (qd x.k),.slice q1 x.loc.length d1] 44 (0,0))at g1
 have y8:=qc 8 g1 rfl;obtain⟨P2,p2,g2,k2,B4,o4,z8,n2⟩:=qch (o:=8) (.slice none 0 0) g1 (Nat.le_refl _) B3 o3 hs1
 change P2.heap[w.heap.size]? = some (.cells #[.string (qd x.ep),.slice va vn vc,.int .u8 x.c,.string (qd x.n),.bool x.b,.string (qd x.m),.bool x.d,.string (qd x.k),.slice none 0 0] 44 (0,0))at g2
 have h0:P2.heap[w.heap.size+1]? = _:=((k2 _ (by omega) (by rw[n1];exact lt2)).trans (k1 _ (by omega) lt2)).trans f2
 have x0:=qc 0 g2 rfl;have x1:=qc 1 g2 rfl;have x2:=qc 2 g2 rfl;have x3:=qc 3 g2 rfl;have x4:=qc 4 g2 rfl;have x5:=qc 5 g2 rfl;have x6:=qc 6 g2 rfl;have x7:=qc 7 g2 rfl;have x8:=qc 8 g2 rfl;have t0:=qc 0 h0 rfl;obtain⟨Q1,q1q,h1,_,C1,u1,m1,_⟩:=qch (o:=0) (.string (qd x.ep)) h0 (by omega) B4 o4 hs2
 change Q1.heap[w.heap.size+1]? = some (.cells #[.string (qd x.ep),.slice none 0 0,.int .u8 0,.string ⟨#[]⟩,.bool false,.string ⟨#[]⟩,.bool false,.string ⟨#[]⟩,.slice none 0 0] 44 (0,0))at h1
 have t1:=qc 1 h1 rfl;obtain⟨Q2,q2q,h2,_,C2,u2,m2,_⟩:=qch (o:=1) (.slice va vn vc) h1 (by omega) C1 u1 hs2
 change Q2.heap[w.heap.size+1]? = some (.cells #[.string (qd x.ep),.slice va vn vc,.int .u8 0,.string ⟨#[]⟩,.bool false,.string ⟨#[]⟩,.bool false,.string ⟨#[]⟩,.slice none 0 0] 44 (0,0))at h2
 have t2:=qc 2 h2 rfl;obtain⟨Q3,q3q,h3,_,C3,u3,m3,_⟩:=qch (o:=2) (.int .u8 x.c) h2 (by omega) C2 u2 hs2
 change Q3.heap[w.heap.size+1]? = some (.cells #[.string (qd x.ep),.slice va vn vc,.int .u8 x.c,.string ⟨#[]⟩,.bool false,.string ⟨#[]⟩,.bool false,.string ⟨#[]⟩,.slice none 0 0] 44 (0,0))at h3
 have t3:=qc 3 h3 rfl;obtain⟨Q4,q4q,h4,_,C4,u4,m4,_⟩:=qch (o:=3) (.string (qd x.n)) h3 (by omega) C3 u3 hs2
 change Q4.heap[w.heap.size+1]? = some (.cells #[.string (qd x.ep),.slice va vn vc,.int .u8 x.c,.string (qd x.n),.bool false,.string ⟨#[]⟩,.bool false,.string ⟨#[]⟩,.slice none 0 0] 44 (0,0))at h4
 have t4:=qc 4 h4 rfl;obtain⟨Q5,q5q,h5,_,C5,u5,m5,_⟩:=qch (o:=4) (.bool x.b) h4 (by omega) C4 u4 hs2
 change Q5.heap[w.heap.size+1]? = some (.cells #[.string (qd x.ep),.slice va vn vc,.int .u8 x.c,.string (qd x.n),.bool x.b,.string ⟨#[]⟩,.bool false,.string ⟨#[]⟩,.slice none 0 0] 44 (0,0))at h5
 have t5:=qc 5 h5 rfl;obtain⟨Q6,q6q,h6,_,C6,u6,m6,_⟩:=qch (o:=5) (.string (qd x.m)) h5 (by omega) C5 u5 hs2
 change Q6.heap[w.heap.size+1]? = some (.cells #[.string (qd x.ep),.slice va vn vc,.int .u8 x.c,.string (qd x.n),.bool x.b,.string (qd x.m),.bool false,.string ⟨#[]⟩,.slice none 0 0] 44 (0,0))at h6
 have t6:=qc 6 h6 rfl;obtain⟨Q7,q7q,h7,_,C7,u7,m7,_⟩:=qch (o:=6) (.bool x.d) h6 (by omega) C6 u6 hs2
 change Q7.heap[w.heap.size+1]? = some (.cells #[.string (qd x.ep),.slice va vn vc,.int .u8 x.c,.string (qd x.n),.bool x.b,.string (qd x.m),.bool x.d,.string ⟨#[]⟩,.slice none 0 0] 44 (0,0))at h7
 have t7:=qc 7 h7 rfl;obtain⟨Q8,q8q,h8,_,C8,u8,m8,_⟩:=qch (o:=7) (.string (qd x.k)) h7 (by omega) C7 u7 hs2
 change Q8.heap[w.heap.size+1]? = some (.cells #[.string (qd x.ep),.slice va vn vc,.int .u8 x.c,.string (qd x.n),.bool x.b,.string (qd x.m),.bool x.d,.string (qd x.k),.slice none 0 0] 44 (0,0))at h8
 have t8:=qc 8 h8 rfl;obtain⟨Q9,q9q,h9,_,C9,u9,m9,_⟩:=qch (o:=8) (.slice none 0 0) h8 (by omega) C8 u8 hs2
 change Q9.heap[w.heap.size+1]? = some (.cells #[.string (qd x.ep),.slice va vn vc,.int .u8 x.c,.string (qd x.n),.bool x.b,.string (qd x.m),.bool x.d,.string (qd x.k),.slice none 0 0] 44 (0,0))at h9
 have H9:=qb h9;clear s0 s1 s2 s3 s4 s5 s6 s7 s8 k1 k2 g1 g2 h0 h1 h2 h3 h4 h5 h6 h7 h8 h9 f1 f2 e1;have O9:=qb (qfg u9 (Nat.le_of_lt hs1));have C9:=qb C9;clear own2 o3 o4 u1 u2 u3 u4 u5 u6 u7 u8 u9 B2 B3 B4 C1 C2 C3 C4 C5 C6 C7 C8 S0 S1 b1 b2 CL;go_wp2_with fail
 (try simp only[Exit.inBlock,Exit.then])
 refine bodyPost_ret (results_cell_row rfl _ _ (w.heap.size+1) 44 _ (0,0) _ rfl H9.out Tryz.underlying44 rfl qrz) rfl ?_;exact⟨_,rfl,O9.out,C9.out⟩
end Go.Proofs.YtabmfdedbpmfmaaGreat
