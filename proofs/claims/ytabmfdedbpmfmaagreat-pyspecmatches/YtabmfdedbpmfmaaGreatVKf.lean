/- Walks: the document's Pre. -/
import Derived.Test.YtabmfdedbpmfmaaGreatVZf
import Derived.Test.YtabmfdedbpmfmaaGreatVYc
import Derived.Test.YtabmfdedbpmfmaaGreatVYb
import Derived.Test.YtabmfdedbpmfmaaGreatVPlainF
import Derived.Test.YtabmfdedbpmfmaaGreatVGu
import Derived.Test.YtabmfdedbpmfmaaGreatVKb
namespace Go.Proofs.YtabmfdedbpmfmaaGreat
open Go.RowKit Go.Shelf
set_option linter.unusedVariables false
set_option maxHeartbeats 4000000
set_option maxRecDepth 100000
theorem requal_w (x y:PepL) (r1 r2 q1 q2:Option Addr) (c1 c2 d1 d2:Nat) (a b:QY) (st:Bool) (w:World) (ra:qx w (.slice r1 x.rel.length c1) x.rel) (rb:qx w (.slice r2 y.rel.length c2) y.rel) (la:qx w (.slice q1 x.loc.length d1) x.loc) (lb:qx w (.slice q2 y.loc.length d2) y.loc) (B:Bool) (O1 O2:Int)
 (BG:∀ W,qx W (.slice r1 x.rel.length c1) x.rel→qx W (.slice r2 y.rel.length c2) y.rel→Calls Tryz.prog 43 #[.agg #[.string (qd x.ep),.slice r1 x.rel.length c1,.int .u8 x.c,.string (qd x.n),.bool x.b,.string (qd x.m),.bool x.d,.string (qd x.k),.slice q1 x.loc.length d1],.string (qd y.ep),.slice r2 y.rel.length c2] W fun e W'=>e=.returned (.bool B)∧Below W.heap.size W W')
 (PU:∀ W,qx W (.slice r1 x.rel.length c1) x.rel→qx W (.slice q1 x.loc.length d1) x.loc→Calls Tryz.prog 39 #[.agg #[.string (qd x.ep),.slice r1 x.rel.length c1,.int .u8 x.c,.string (qd x.n),.bool x.b,.string (qd x.m),.bool x.d,.string (qd x.k),.slice q1 x.loc.length d1]] W (qbbg x W))
 (OP:∀ W a3 k3,qx W (.slice a3 x.rel.length k3) x.rel→qx W (.slice r2 y.rel.length c2) y.rel→qx W (.slice q2 y.loc.length d2) y.loc→Calls Tryz.prog 40 #[.agg #[.string (qd x.ep),.slice a3 x.rel.length k3,.int .u8 x.c,.string (qd x.n),.bool x.b,.string (qd x.m),.bool x.d,.string (qd x.k),.slice none 0 0],.agg #[.string (qd y.ep),.slice r2 y.rel.length c2,.int .u8 y.c,.string (qd y.n),.bool y.b,.string (qd y.m),.bool y.d,.string (qd y.k),.slice q2 y.loc.length d2]] W fun e W'=>e=.returned (.int .i64 O1)∧Below W.heap.size W W')
 (OD:∀ W,qx W (.slice r1 x.rel.length c1) x.rel→qx W (.slice r2 y.rel.length c2) y.rel→qx W (.slice q1 x.loc.length d1) x.loc→qx W (.slice q2 y.loc.length d2) y.loc→Calls Tryz.prog 40 #[.agg #[.string (qd x.ep),.slice r1 x.rel.length c1,.int .u8 x.c,.string (qd x.n),.bool x.b,.string (qd x.m),.bool x.d,.string (qd x.k),.slice q1 x.loc.length d1],.agg #[.string (qd y.ep),.slice r2 y.rel.length c2,.int .u8 y.c,.string (qd y.n),.bool y.b,.string (qd y.m),.bool y.d,.string (qd y.k),.slice q2 y.loc.length d2]] W fun e W'=>e=.returned (.int .i64 O2)∧Below W.heap.size W W') :
 Calls Tryz.prog 42 #[.agg #[.string a,.string b,.bool st],.agg #[.string (qd x.ep),.slice r1 x.rel.length c1,.int .u8 x.c,.string (qd x.n),.bool x.b,.string (qd x.m),.bool x.d,.string (qd x.k),.slice q1 x.loc.length d1],.agg #[.string (qd y.ep),.slice r2 y.rel.length c2,.int .u8 y.c,.string (qd y.n),.bool y.b,.string (qd y.m),.bool y.d,.string (qd y.k),.slice q2 y.loc.length d2]] w fun e W'=>e=.returned (.bool (if st=true then B else if pubB y=true then O1==0 else O2==0))∧Below w.heap.size w W':=by
  have b0:Below w.heap.size w (w.alloc (.cells #[.string a,.string b,.bool st] 32)):=(Below.refl _ w).alloc (Nat.le_refl _) _;have b1:Below w.heap.size w (w.alloc (.cells #[.string a,.string b,.bool st] 32)):=b0;have S0:=OB.start (ra.below b0) (rb.below b0) (la.below b0) (lb.below b0);have m0:=(S0.bel.block w.heap.size (by simp)).trans (World.alloc_heap_new w (.cells #[.string a,.string b,.bool st] 32))
  have p2:=qc 2 m0 rfl;have BG:=qb BG;have PU:=qb PU;have OP:=qb OP;have OD:=qb OD;clear ra rb la lb m0 b1;go_enter Tryz.func42,Tryz.ntmps42
  go_upto_region 1 with fail
  generalize ((w.alloc _).alloc _).alloc _=W0 at *;obtain⟨s0,s1,s2,s3,s4,s5,s6,s7,s8,s9,s10,s11,s12,s13,s14,s15,s16,s17⟩:=S0.seen;simp only[World.size_alloc]at s0 s1 s2 s3 s4 s5 s6 s7 s8 s9 s10 s11 s12 s13 s14 s15 s16 s17;have HB:=qb (b0.trans (S0.bel.mono b0.size));cases st
  · have hlp:((y.loc.length:Int)>0)↔pubB y=false:=by unfold pubB;cases y.loc<;>simp<;>omega
    cases hp:pubB y
    · have hl:(0:Int)<(y.loc.length:Int):=hlp.2 hp
      (go_wp2_with fail);refine(OD.out _ S0.ra S0.rb S0.la S0.lb).mono ?_;rintro e w7 ⟨rfl,b7⟩;have HB7:=qb (HB.out.trans (b7.mono HB.out.size));clear b7;(go_wp2_with fail);go_ret
      exact⟨by first|rfl|simp,HB7.out⟩
    · have hl:¬ (0:Int)<(y.loc.length:Int):=fun h=>by rw[hlp.1 h]at hp;cases hp
      go_upto_region 5 with fail
      have D0:=S0.drew
      go_region_held3 (fun w'=>w'.cell? ⟨w.heap.size+1,0,none⟩=some (.string (qd x.ep))∧w'.cell? ⟨w.heap.size+1,1,none⟩=some (.slice r1 x.rel.length c1)∧w'.cell? ⟨w.heap.size+1,2,none⟩=some (.int .u8 x.c)∧w'.cell? ⟨w.heap.size+1,3,none⟩=some (.string (qd x.n))∧w'.cell? ⟨w.heap.size+1,4,none⟩=some (.bool x.b)∧w'.cell? ⟨w.heap.size+1,5,none⟩=some (.string (qd x.m))∧w'.cell? ⟨w.heap.size+1,6,none⟩=some (.bool x.d)∧w'.cell? ⟨w.heap.size+1,7,none⟩=some (.string (qd x.k))∧w'.cell? ⟨w.heap.size+1,8,none⟩=some (.slice q1 x.loc.length d1)∧w'.cell? ⟨w.heap.size+1+1,0,none⟩=some (.string (qd y.ep))∧w'.cell? ⟨w.heap.size+1+1,1,none⟩=some (.slice r2 y.rel.length c2)∧w'.cell? ⟨w.heap.size+1+1,2,none⟩=some (.int .u8 y.c)∧w'.cell? ⟨w.heap.size+1+1,3,none⟩=some (.string (qd y.n))∧w'.cell? ⟨w.heap.size+1+1,4,none⟩=some (.bool y.b)∧w'.cell? ⟨w.heap.size+1+1,5,none⟩=some (.string (qd y.m))∧w'.cell? ⟨w.heap.size+1+1,6,none⟩=some (.bool y.d)∧w'.cell? ⟨w.heap.size+1+1,7,none⟩=some (.string (qd y.k))∧w'.cell? ⟨w.heap.size+1+1,8,none⟩=some (.slice q2 y.loc.length d2))
        (go_keep)
        ((first
          | (go_at_call 40;refine(OP.out _ _ _ hT3 D1.rb D1.lb).mono ?_;rintro e w8 ⟨rfl,b8⟩;have D2:=D1.next b8;have HB8:=qb (HB7.out.trans (b8.mono HB7.out.size));obtain⟨v0,v1,v2,v3,v4,v5,v6,v7,v8,v9,v10,v11,v12,v13,v14,v15,v16,v17⟩:=D2.seen;simp only[World.size_alloc]at v0 v1 v2 v3 v4 v5 v6 v7 v8 v9 v10 v11 v12 v13 v14 v15 v16 v17)
          | (go_at_call 39;refine(PU.out _ D0.ra D0.la).mono ?_;rintro e w7 ⟨v3,rfl,ho,b7⟩;obtain⟨a3,k3,rfl,_⟩:=qqh ho;have hT3:=qtf ho;have D1:=D0.next b7;have HB7:=qb ((HB.out.trans ((qz _ W0 1).mono HB.out.size)).trans (b7.mono (Below.size (HB.out.trans ((qz _ W0 1).mono HB.out.size)))));obtain⟨t0,t1,t2,t3,t4,t5,t6,t7,t8,t9,t10,t11,t12,t13,t14,t15,t16,t17⟩:=D1.seen;simp only[World.size_alloc]at t0 t1 t2 t3 t4 t5 t6 t7 t8 t9 t10 t11 t12 t13 t14 t15 t16 t17)
          | fail))
      (go_wp2_with fail);go_ret
      exact⟨by first|rfl|simp,HB8.out⟩
  · go_wp2_with fail
    refine(BG.out _ S0.ra S0.rb).mono ?_;rintro e w7 ⟨rfl,b7⟩;have HB7:=qb (HB.out.trans (b7.mono HB.out.size));clear b7;(go_wp2_with fail);go_ret
    exact⟨by first|rfl|simp,HB7.out⟩
theorem SmallP.midP {x:PepL} (h:SmallP x):MidP x:=by
 constructor<;>first|exact h.e|exact h.n|exact h.m|exact h.k|exact h.r|exact h.l
theorem qjs (x y:PepL) (r1 r2 q1 q2:Option Addr) (c1 c2 d1 d2:Nat) (w:World) (ra:qx w (.slice r1 x.rel.length c1) x.rel) (rb:qx w (.slice r2 y.rel.length c2) y.rel) (la:qx w (.slice q1 x.loc.length d1) x.loc) (lb:qx w (.slice q2 y.loc.length d2) y.loc) (sx:SmallP x) (sy:SmallP y) (fx:FitT x) (fy:FitT y) :
  Calls Tryz.prog 40 #[.agg #[.string (qd x.ep),.slice r1 x.rel.length c1,.int .u8 x.c,.string (qd x.n),.bool x.b,.string (qd x.m),.bool x.d,.string (qd x.k),.slice q1 x.loc.length d1],.agg #[.string (qd y.ep),.slice r2 y.rel.length c2,.int .u8 y.c,.string (qd y.n),.bool y.b,.string (qd y.m),.bool y.d,.string (qd y.k),.slice q2 y.loc.length d2]] w fun e w'=>e=.returned (.int .i64 (ordP x y))∧Below w.heap.size w w':=by
 have h:=qwk x y r1 r2 q1 q2 c1 c2 d1 d2 w ra rb la lb sx.midP sy.midP (qrh fx) (qrh fy);rw[qbgb x y fx fy]at h;exact h
theorem qsw (x y:PepL) (a3 r2 q2:Option Addr) (k3 c2 d2:Nat) (w:World) (ra:qx w (.slice a3 x.rel.length k3) x.rel) (rb:qx w (.slice r2 y.rel.length c2) y.rel) (lb:qx w (.slice q2 y.loc.length d2) y.loc) (hx:VerOK x) (hy:VerOK y) :
  Calls Tryz.prog 40 #[.agg #[.string (qd x.ep),.slice a3 x.rel.length k3,.int .u8 x.c,.string (qd x.n),.bool x.b,.string (qd x.m),.bool x.d,.string (qd x.k),.slice none 0 0],.agg #[.string (qd y.ep),.slice r2 y.rel.length c2,.int .u8 y.c,.string (qd y.n),.bool y.b,.string (qd y.m),.bool y.d,.string (qd y.k),.slice q2 y.loc.length d2]] w fun e w'=>e=.returned (.int .i64 (ordP (hpub x) y))∧Below w.heap.size w w':=
 qjs (hpub x) y a3 r2 none q2 k3 c2 0 d2 w ra rb (qtc w) lb hx.pub.1 hy.small hx.pub.2 hy.fit
theorem qvp (x y:PepL) (r1 r2 q1 q2:Option Addr) (c1 c2 d1 d2:Nat) (a b:QY) (st:Bool) (w:World) (ra:qx w (.slice r1 x.rel.length c1) x.rel) (rb:qx w (.slice r2 y.rel.length c2) y.rel) (la:qx w (.slice q1 x.loc.length d1) x.loc) (lb:qx w (.slice q2 y.loc.length d2) y.loc) (hx:VerOK x) (hy:VerOK y) (hn:r1=none→c1=0) :
  Calls Tryz.prog 42 #[.agg #[.string a,.string b,.bool st],.agg #[.string (qd x.ep),.slice r1 x.rel.length c1,.int .u8 x.c,.string (qd x.n),.bool x.b,.string (qd x.m),.bool x.d,.string (qd x.k),.slice q1 x.loc.length d1],.agg #[.string (qd y.ep),.slice r2 y.rel.length c2,.int .u8 y.c,.string (qd y.n),.bool y.b,.string (qd y.m),.bool y.d,.string (qd y.k),.slice q2 y.loc.length d2]] w fun e W'=>e=.returned (.bool (eqP x y st))∧Below w.heap.size w W':=
 requal_w x y r1 r2 q1 q2 c1 c2 d1 d2 a b st w ra rb la lb (begB x.ep x.rel y.ep y.rel) (ordP (hpub x) y) (ordP x y)
  (fun W h1 h2=>qsd x y.ep y.rel r1 r2 c1 c2 _ _ _ _ _ _ _ W h1 h2 hx hy.fit.f1 (fun t ht=>List.all_eq_true.1 hy.fit.f3 t ht) hy.small.e hy.small.r.2 (by have:=hy.len;omega))
  (fun W h1 h2=>qsj x r1 q1 c1 d1 W h1 h2 (by have:=hx.len;omega) hn)
  (fun W a3 k3 h1 h2 h3=>qsw x y a3 r2 q2 k3 c2 d2 W h1 h2 h3 hx hy)
  (fun W h1 h2 h3 h4=>qjs x y r1 r2 q1 q2 c1 c2 d1 d2 W h1 h2 h3 h4 hx.small hy.small hx.fit hy.fit)
structure V9 (W:World) (B:Nat) (x:PepL) (r q:Option Addr) (c d:Nat):Prop where
 blk:W.heap[B]? = some (.cells #[.string (qd x.ep),.slice r x.rel.length c,.int .u8 x.c,.string (qd x.n),.bool x.b,.string (qd x.m),.bool x.d,.string (qd x.k),.slice q x.loc.length d] 44 (0,0))
 rel:qx W (.slice r x.rel.length c) x.rel
 loc:qx W (.slice q x.loc.length d) x.loc
theorem V9.next {W W':World} {B:Nat} {x:PepL} {r q:Option Addr} {c d:Nat} (h:V9 W B x r q c d) (hb:Below W.heap.size W W'):V9 W' B x r q c d:=
 ⟨(hb.block _ (Array.getElem?_eq_some_iff.1 h.blk).1).trans h.blk,h.rel.below hb,h.loc.below hb⟩
theorem V9.seen {W:World} {B:Nat} {x:PepL} {r q:Option Addr} {c d:Nat} (h:V9 W B x r q c d):W.cell? ⟨B,0,none⟩=some (.string (qd x.ep))∧W.cell? ⟨B,1,none⟩=some (.slice r x.rel.length c)∧W.cell? ⟨B,2,none⟩=some (.int .u8 x.c)∧W.cell? ⟨B,3,none⟩=some (.string (qd x.n))∧W.cell? ⟨B,4,none⟩=some (.bool x.b)∧W.cell? ⟨B,5,none⟩=some (.string (qd x.m))∧W.cell? ⟨B,6,none⟩=some (.bool x.d)∧W.cell? ⟨B,7,none⟩=some (.string (qd x.k))∧W.cell? ⟨B,8,none⟩=some (.slice q x.loc.length d):=
 ⟨qc 0 h.blk rfl,qc 1 h.blk rfl,qc 2 h.blk rfl,qc 3 h.blk rfl,qc 4 h.blk rfl,qc 5 h.blk rfl,qc 6 h.blk rfl,qc 7 h.blk rfl,qc 8 h.blk rfl⟩
theorem qbhx {W:World} {B:Nat} {x:PepL} {r:Option Addr} {c:Nat} (h:V9 W B (hpub x) r none c 0):W.cell? ⟨B,0,none⟩=some (.string (qd x.ep))∧W.cell? ⟨B,1,none⟩=some (.slice r x.rel.length c)∧W.cell? ⟨B,2,none⟩=some (.int .u8 x.c)∧W.cell? ⟨B,3,none⟩=some (.string (qd x.n))∧W.cell? ⟨B,4,none⟩=some (.bool x.b)∧W.cell? ⟨B,5,none⟩=some (.string (qd x.m))∧W.cell? ⟨B,6,none⟩=some (.bool x.d)∧W.cell? ⟨B,7,none⟩=some (.string (qd x.k))∧W.cell? ⟨B,8,none⟩=some (.slice none 0 0):=h.seen
def qns (x:PepL) (w:World) (e:Ending) (w':World):Prop:=
 ∃ r c q d,e=.returned (.tuple #[.agg #[.string (qd x.ep),.slice r x.rel.length c,.int .u8 x.c,.string (qd x.n),.bool x.b,.string (qd x.m),.bool x.d,.string (qd x.k),.slice q x.loc.length d],.agg #[.int .i64 0,.int .i64 0]]) ∧
  qx w' (.slice r x.rel.length c) x.rel∧qx w' (.slice q x.loc.length d) x.loc∧(r=none→c=0)∧x.rel.length≤c∧Below w.heap.size w w'
theorem qbgm (s:QY) (w:World) (h:okP s.data.toList=true) :
  Calls Tryz.prog 25 #[.string s] w fun e w'=>∃ vr vl,e=.returned (.tuple #[pepV (qd (ql (qk s.data.toList)).ep) vr (ql (qk s.data.toList)).c (qd (ql (qk s.data.toList)).n) (ql (qk s.data.toList)).b (qd (ql (qk s.data.toList)).m) (ql (qk s.data.toList)).d (qd (ql (qk s.data.toList)).k) vl,.agg #[.int .i64 0,.int .i64 0]]) ∧
   qx w' vr (ql (qk s.data.toList)).rel∧qx w' vl (ql (qk s.data.toList)).loc∧qbs w.heap.size vr∧Below w.heap.size w w':=by
 unfold okP at h;simp only[Bool.and_eq_true,decide_eq_true_eq]at h;refine(qph s w).mono ?_;rintro e w' ⟨hb,hp⟩;rw[if_neg (by omega),if_pos h.2]at hp
 obtain⟨v,rfl,⟨vr,vl,rfl,h1,h2⟩⟩:=hp;exact⟨vr,vl,rfl,qhw h1,qhw h2,qpg h1,hb⟩
theorem qfx (s:QY) (w:World) (h:okP s.data.toList=true):Calls Tryz.prog 25 #[.string s] w (qns (ql (qk s.data.toList)) w):=by
 refine(qbgm s w h).mono ?_;rintro e w' ⟨vr,vl,rfl,hr,hl,hf,hb⟩;obtain⟨r,c,rfl,h0⟩:=id hr;obtain⟨q,d,rfl,_⟩:=id hl;have hx:=(qtk h).fit.f2;obtain⟨b,off,rfl,_⟩:=hr.some (List.length_pos_iff.2 hx);exact⟨_,c,q,d,rfl,hr,hl,fun hn=>(by cases hn),(hf _ _ _ rfl).2,hb⟩
theorem qbbv {W:World} {b o c n:Nat} {ts:List QB} (h:qx W (.slice (some ⟨b,o,none⟩) ts.length c) ts) (hn:ts.length=n+1):qx W (.slice (some ⟨b,o,none⟩) n c) ts.dropLast:=by
 have hdl:ts.dropLast.length=n:=by rw[List.length_dropLast];omega
 obtain⟨a,cap,e,h0|⟨b',off,e2,hlt,hc⟩⟩:=h
 ·rw[h0]at hn;cases hn
 ·cases e;cases e2;refine⟨_,c,by rw[hdl],.inr ⟨b,o,rfl,hlt,fun i hi=>?_⟩⟩
  rw[List.getElem_dropLast];exact hc i (by omega)
theorem qbjj (x y:PepL) (r1 r2:Option Addr) (c1 c2:Nat) (W:World) (ra:qx W (.slice r1 x.rel.length c1) x.rel) (rb:qx W (.slice r2 y.rel.length c2) y.rel) (hx:VerOK x) (hy:VerOK y) :
  Calls Tryz.prog 40 #[.agg #[.string (qd x.ep),.slice r1 x.rel.length c1,.int .u8 0,.string ⟨#[]⟩,.bool false,.string ⟨#[]⟩,.bool false,.string ⟨#[]⟩,.slice none 0 0],.agg #[.string (qd y.ep),.slice r2 y.rel.length c2,.int .u8 0,.string ⟨#[]⟩,.bool false,.string ⟨#[]⟩,.bool false,.string ⟨#[]⟩,.slice none 0 0]] W fun e w'=>e=.returned (.int .i64 (ordP (qjb x) (qjb y)))∧Below W.heap.size W w':=
 qjs (qjb x) (qjb y) r1 r2 none none c1 c2 0 0 W ra rb (qtc W) (qtc W) hx.base.1 hy.base.1 hx.base.2 hy.base.2
theorem qnq (x:PepL) (r1 q1:Option Addr) (c1 d1:Nat) (w:World) (rr:qx w (.slice r1 x.rel.length c1) x.rel) (ll:qx w (.slice q1 x.loc.length d1) x.loc) :
  Calls Tryz.prog 27 #[.agg #[.string (qd x.ep),.slice r1 x.rel.length c1,.int .u8 x.c,.string (qd x.n),.bool x.b,.string (qd x.m),.bool x.d,.string (qd x.k),.slice q1 x.loc.length d1]] w fun e w'=>e=.returned (.bool (preP x))∧Below w.heap.size w w':=
 RPre_any x r1 q1 c1 d1 w rr ll
def qjc (q:Tri):Bool:=
 match (pyL (wrT q)).2.2 with
 | [c]=>decide (triC c=q)&&qmd c
 | _=>false
def qlv (qs:List Tri):Bool:=qs.any qjc
theorem letsT_no {q:Tri} (h:fitT q=false):qjc q=false:=by
 unfold qjc;unfold fitT at h;split
 ·rename_i c hc;rw[hc]at h;have:decide (triC c=q)=false:=by
   simp only[List.map_cons,List.map_nil,decide_eq_false_iff_not]at h ⊢;intro h2;exact h (by rw[h2])
  rw[this]
  rfl
 ·rfl
theorem qbgv {q:Tri} {c:Cl} (h1:(pyL (wrT q)).2.2=[c]) (h2:triC c=q):qjc q=qmd c:=by
 unfold qjc;rw[h1];dsimp only;rw[h2];simp
theorem qbnl {q:Tri} (h:fitT q=true):∃ c,(pyL (wrT q)).2.2=[c]∧triC c=q:=by
 unfold fitT at h;have h2:=of_decide_eq_true h;cases hl:(pyL (wrT q)).2.2 with
 | nil=>rw[hl]at h2;cases h2
 | cons c r=>
  rw[hl]at h2;cases r with
  | nil=>exact⟨c,rfl,by simpa using h2⟩
  | cons d r=>simp at h2
open _root_.Array renaming getElem?_eq_some_iff → qbth
open Below renaming refl → qbtn
open Nat renaming le_refl → qbtm
open World renaming alloc_heap_new → qbtk
open Go.RowKit renaming Below → QE
set_option maxHeartbeats 8000000
set_option maxRecDepth 100000
theorem qwv (v:Value) (qs:List Tri) (w:World) (hv:qqd w v qs) (hs:qjr qs) :
  Calls Tryz.prog 19 #[v] w fun e w'=>e=.returned (.bool (qlv qs))∧QE w.heap.size w w':=by
 obtain⟨a,c,rfl,_⟩:=id hv;have HV:=qb hv;have HS:=qb hs;have hn:=hs.1;clear hv hs;go_enter Tryz.func19,Tryz.ntmps19
 (go_wp2_with fail);go_loopw [3] (fun x wr=>∃ i:Nat,i≤qs.length∧x=.int .i64 (i:Int)∧Hid ((qs.take i).any qjc=false)∧QE w.heap.size w wr) (fun x _=>qs.length-(intOf x).toNat)
 case atStart=>exact⟨0,Nat.zero_le _,rfl,rfl,qbtn _ _⟩
 case round=>
  obtain⟨i,hi,rfl,HN,hb⟩:=hrel
  by_cases hin:i<qs.length
  ·have hin':(i:Int)<(qs.length:Int):=by omega
   obtain⟨_,_,he,hA⟩:=(HV.out.below hb);obtain⟨g1,o1,ha,hg,p0,p1,p2⟩:=hA i hin;cases he;subst ha;have hsm:=HS.out.2 qs[i] (List.getElem_mem hin);have H37:=qb (fun W=>qrp qs[i] W hsm.1 hsm.2);have HT:=qb (qlz qjc qs i hin);have HF:=qb (qhz qjc qs i hin);unfold triV at H37;clear hA hsm;generalize qs[i]=q at *;cases hf:fitT q
   ·rw[hf]at H37;have HL:=qb (letsT_no hf);have hal:QE wr.heap.size wr (wr.alloc (.cells #[.string (qd q.1),.string (qd q.2.1),.bool q.2.2] 32)):=(qbtn _ wr).alloc (qbtm _) _;have HBa:=qb (hb.trans (hal.mono hb.size));clear hal hf;(go_wp2_with fail);refine(H37.out _).mono ?_;rintro e w2 ⟨rfl,b2⟩;have HB2:=qb (HBa.out.trans (b2.mono HBa.out.size));(go_wp2_with fail);go_roundw
    case rel=>exact⟨i+1,by omega,by go_num,by show _=_;rw[HT.out,HN.out,HL.out];rfl,HB2.out⟩
    case measure=>simp[intOf];omega
   ·rw [hf]at H37;obtain⟨c1,hc,hq⟩:=qbnl hf;have hOK:=qbbz (wrT q) _ (by rw[hc];exact List.mem_singleton.2 rfl)
    have HL0:=qbgv hc hq;subst hq;clear hc hf;obtain⟨k,y,u,su,s0,e0,er0⟩:=c1;have hk:=hOK.k8;have hver:=hOK.ver;have hbare:=hOK.bare;dsimp only[triC]at p0 p1 p2 H37 hk hver hbare;unfold qmd at HL0;dsimp only at HL0;clear hOK;cases su
    ·clear hbare;obtain rfl|rfl|rfl|rfl|rfl|rfl|rfl|rfl:k=0∨k=1∨k=2∨k=3∨k=4∨k=5∨k=6∨k=7:=by omega
     ·have hsg:qd (sgn 0)=⟨#[126,61]⟩:=rfl;rw[hsg]at p0 H37;clear hsg;have hv2:=hver (by decide)
      have PV:=qb (fun W=>qfx (qd u) W (by rw[qj];exact hv2.1))
      rw[qj,←hv2.2]at PV;have HL:Hid (qjc (triC ⟨0,y,u,false,s0,e0,er0⟩)=preP y):=qb (HL0.trans (Bool.true_and _));clear hv2;clear HL0 hver;have n1:=qbtk wr (.cells #[.string ⟨#[126,61]⟩,.string (qd u),.bool false] 32);have hal:QE wr.heap.size wr (wr.alloc (.cells #[.string ⟨#[126,61]⟩,.string (qd u),.bool false] 32)):=(qbtn _ wr).alloc (qbtm _) _;have H3:=H37;have HBa:=qb (hb.trans (hal.mono hb.size));clear H37;(go_wp2_with fail);generalize wr.alloc _=W1 at *;refine(H3.out _).mono ?_;rintro e w2 ⟨rfl,b2⟩;have HB2:=qb (HBa.out.trans (b2.mono HBa.out.size));have M2:=(b2.block _ (qbth.1 n1).1).trans n1;have m0:=qc 0 M2 rfl;have m1:=qc 1 M2 rfl;have m2:=qc 2 M2 rfl;clear M2 n1 hal b2 H3 HBa p0 p1 p2;(go_wp2_with fail);refine(PV.out _).mono ?_;rintro e w3 ⟨r2,c2,q2,d2,rfl,rb,lb,_,_,b3⟩;obtain⟨V,hV,n3,n4,bV,sV⟩:=qm w3 #[.string (qd y.ep),.slice r2 y.rel.length c2,.int .u8 y.c,.string (qd y.n),.bool y.b,.string (qd y.m),.bool y.d,.string (qd y.k),.slice q2 y.loc.length d2] #[.int .i64 0,.int .i64 0] 44 25;obtain⟨s0',s1,s2,s3,s4,s5,s6,s7,s8,_⟩:=qbw n3;have HP:=qb (qnq y r2 q2 c2 d2 V (rb.below bV) (lb.below bV));have HB3:=qb (HB2.out.trans ((b3.trans (bV.mono b3.size)).mono HB2.out.size));have HVV:=qb hV;clear hV n3 n4 bV sV b3 rb lb;go_upto_region 8 with fail
      rw[HVV.out];cases hp:preP y
      ·rw[hp]at HP HL;clear hp;(go_wp2_with fail);refine(HP.out).mono ?_;rintro e w4 ⟨rfl,b4⟩;have HB4:=qb (HB3.out.trans (b4.mono HB3.out.size));(go_wp2_with fail);go_roundw
       case rel=>exact⟨i+1,by omega,by go_num,by show _=_;rw[HT.out,HN.out,HL.out];rfl,HB4.out⟩
       case measure=>simp[intOf];omega
      ·rw[hp]at HP HL;have HF2:=qb (HF.out HL.out);clear hp;(go_wp2_with fail);refine(HP.out).mono ?_;rintro e w4 ⟨rfl,b4⟩;have HB4:=qb (HB3.out.trans (b4.mono HB3.out.size));(go_wp2_with fail);go_ret
       exact⟨by unfold qlv;rw[HF2.out];rfl,HB4.out⟩
     ·have hsg:qd (sgn 1)=⟨#[61,61]⟩:=rfl;rw[hsg]at p0 H37;clear hsg;have hv2:=hver (by decide)
      have PV:=qb (fun W=>qfx (qd u) W (by rw[qj];exact hv2.1))
      rw[qj,←hv2.2]at PV;have HL:Hid (qjc (triC ⟨1,y,u,false,s0,e0,er0⟩)=preP y):=qb (HL0.trans (Bool.true_and _));clear hv2;clear HL0 hver;have n1:=qbtk wr (.cells #[.string ⟨#[61,61]⟩,.string (qd u),.bool false] 32);have hal:QE wr.heap.size wr (wr.alloc (.cells #[.string ⟨#[61,61]⟩,.string (qd u),.bool false] 32)):=(qbtn _ wr).alloc (qbtm _) _;have H3:=H37;have HBa:=qb (hb.trans (hal.mono hb.size));clear H37;(go_wp2_with fail);generalize wr.alloc _=W1 at *;refine(H3.out _).mono ?_;rintro e w2 ⟨rfl,b2⟩;have HB2:=qb (HBa.out.trans (b2.mono HBa.out.size));have M2:=(b2.block _ (qbth.1 n1).1).trans n1;have m0:=qc 0 M2 rfl;have m1:=qc 1 M2 rfl;have m2:=qc 2 M2 rfl;clear M2 n1 hal b2 H3 HBa p0 p1 p2;(go_wp2_with fail);refine(PV.out _).mono ?_;rintro e w3 ⟨r2,c2,q2,d2,rfl,rb,lb,_,_,b3⟩;obtain⟨V,hV,n3,n4,bV,sV⟩:=qm w3 #[.string (qd y.ep),.slice r2 y.rel.length c2,.int .u8 y.c,.string (qd y.n),.bool y.b,.string (qd y.m),.bool y.d,.string (qd y.k),.slice q2 y.loc.length d2] #[.int .i64 0,.int .i64 0] 44 25;obtain⟨s0',s1,s2,s3,s4,s5,s6,s7,s8,_⟩:=qbw n3;have HP:=qb (qnq y r2 q2 c2 d2 V (rb.below bV) (lb.below bV));have HB3:=qb (HB2.out.trans ((b3.trans (bV.mono b3.size)).mono HB2.out.size));have HVV:=qb hV;clear hV n3 n4 bV sV b3 rb lb;go_upto_region 8 with fail
      rw[HVV.out];cases hp:preP y
      ·rw[hp]at HP HL;clear hp;(go_wp2_with fail);refine(HP.out).mono ?_;rintro e w4 ⟨rfl,b4⟩;have HB4:=qb (HB3.out.trans (b4.mono HB3.out.size));(go_wp2_with fail);go_roundw
       case rel=>exact⟨i+1,by omega,by go_num,by show _=_;rw[HT.out,HN.out,HL.out];rfl,HB4.out⟩
       case measure=>simp[intOf];omega
      ·rw[hp]at HP HL;have HF2:=qb (HF.out HL.out);clear hp;(go_wp2_with fail);refine(HP.out).mono ?_;rintro e w4 ⟨rfl,b4⟩;have HB4:=qb (HB3.out.trans (b4.mono HB3.out.size));(go_wp2_with fail);go_ret
       exact⟨by unfold qlv;rw[HF2.out];rfl,HB4.out⟩
     ·have hsg:qd (sgn 2)=⟨#[33,61]⟩:=rfl;rw[hsg]at p0 H37;clear hsg;have HL:Hid (qjc (triC ⟨2,y,u,false,s0,e0,er0⟩)=false):=qb HL0;clear HL0 hver;have n1:=qbtk wr (.cells #[.string ⟨#[33,61]⟩,.string (qd u),.bool false] 32);have hal:QE wr.heap.size wr (wr.alloc (.cells #[.string ⟨#[33,61]⟩,.string (qd u),.bool false] 32)):=(qbtn _ wr).alloc (qbtm _) _;have H3:=H37;have HBa:=qb (hb.trans (hal.mono hb.size));clear H37;(go_wp2_with fail);generalize wr.alloc _=W1 at *;refine(H3.out _).mono ?_;rintro e w2 ⟨rfl,b2⟩;have HB2:=qb (HBa.out.trans (b2.mono HBa.out.size));have M2:=(b2.block _ (qbth.1 n1).1).trans n1;have m0:=qc 0 M2 rfl;have m1:=qc 1 M2 rfl;have m2:=qc 2 M2 rfl;clear M2 n1 hal b2 H3 HBa p0 p1 p2;(go_wp2_with fail);go_roundw
      case rel=>exact⟨i+1,by omega,by go_num,by show _=_;rw[HT.out,HN.out,HL.out];rfl,HB2.out⟩
      case measure=>simp[intOf];omega
     ·have hsg:qd (sgn 3)=⟨#[60,61]⟩:=rfl;rw[hsg]at p0 H37;clear hsg;have hv2:=hver (by decide)
      have PV:=qb (fun W=>qfx (qd u) W (by rw[qj];exact hv2.1))
      rw[qj,←hv2.2]at PV;have HL:Hid (qjc (triC ⟨3,y,u,false,s0,e0,er0⟩)=preP y):=qb (HL0.trans (Bool.true_and _));clear hv2;clear HL0 hver;have n1:=qbtk wr (.cells #[.string ⟨#[60,61]⟩,.string (qd u),.bool false] 32);have hal:QE wr.heap.size wr (wr.alloc (.cells #[.string ⟨#[60,61]⟩,.string (qd u),.bool false] 32)):=(qbtn _ wr).alloc (qbtm _) _;have H3:=H37;have HBa:=qb (hb.trans (hal.mono hb.size));clear H37;(go_wp2_with fail);generalize wr.alloc _=W1 at *;refine(H3.out _).mono ?_;rintro e w2 ⟨rfl,b2⟩;have HB2:=qb (HBa.out.trans (b2.mono HBa.out.size));have M2:=(b2.block _ (qbth.1 n1).1).trans n1;have m0:=qc 0 M2 rfl;have m1:=qc 1 M2 rfl;have m2:=qc 2 M2 rfl;clear M2 n1 hal b2 H3 HBa p0 p1 p2;(go_wp2_with fail);refine(PV.out _).mono ?_;rintro e w3 ⟨r2,c2,q2,d2,rfl,rb,lb,_,_,b3⟩;obtain⟨V,hV,n3,n4,bV,sV⟩:=qm w3 #[.string (qd y.ep),.slice r2 y.rel.length c2,.int .u8 y.c,.string (qd y.n),.bool y.b,.string (qd y.m),.bool y.d,.string (qd y.k),.slice q2 y.loc.length d2] #[.int .i64 0,.int .i64 0] 44 25;obtain⟨s0',s1,s2,s3,s4,s5,s6,s7,s8,_⟩:=qbw n3;have HP:=qb (qnq y r2 q2 c2 d2 V (rb.below bV) (lb.below bV));have HB3:=qb (HB2.out.trans ((b3.trans (bV.mono b3.size)).mono HB2.out.size));have HVV:=qb hV;clear hV n3 n4 bV sV b3 rb lb;go_upto_region 8 with fail
      rw[HVV.out];cases hp:preP y
      ·rw[hp]at HP HL;clear hp;(go_wp2_with fail);refine(HP.out).mono ?_;rintro e w4 ⟨rfl,b4⟩;have HB4:=qb (HB3.out.trans (b4.mono HB3.out.size));(go_wp2_with fail);go_roundw
       case rel=>exact⟨i+1,by omega,by go_num,by show _=_;rw[HT.out,HN.out,HL.out];rfl,HB4.out⟩
       case measure=>simp[intOf];omega
      ·rw[hp]at HP HL;have HF2:=qb (HF.out HL.out);clear hp;(go_wp2_with fail);refine(HP.out).mono ?_;rintro e w4 ⟨rfl,b4⟩;have HB4:=qb (HB3.out.trans (b4.mono HB3.out.size));(go_wp2_with fail);go_ret
       exact⟨by unfold qlv;rw[HF2.out];rfl,HB4.out⟩
     ·have hsg:qd (sgn 4)=⟨#[62,61]⟩:=rfl;rw[hsg]at p0 H37;clear hsg;have hv2:=hver (by decide)
      have PV:=qb (fun W=>qfx (qd u) W (by rw[qj];exact hv2.1))
      rw[qj,←hv2.2]at PV;have HL:Hid (qjc (triC ⟨4,y,u,false,s0,e0,er0⟩)=preP y):=qb (HL0.trans (Bool.true_and _));clear hv2;clear HL0 hver;have n1:=qbtk wr (.cells #[.string ⟨#[62,61]⟩,.string (qd u),.bool false] 32);have hal:QE wr.heap.size wr (wr.alloc (.cells #[.string ⟨#[62,61]⟩,.string (qd u),.bool false] 32)):=(qbtn _ wr).alloc (qbtm _) _;have H3:=H37;have HBa:=qb (hb.trans (hal.mono hb.size));clear H37;(go_wp2_with fail);generalize wr.alloc _=W1 at *;refine(H3.out _).mono ?_;rintro e w2 ⟨rfl,b2⟩;have HB2:=qb (HBa.out.trans (b2.mono HBa.out.size));have M2:=(b2.block _ (qbth.1 n1).1).trans n1;have m0:=qc 0 M2 rfl;have m1:=qc 1 M2 rfl;have m2:=qc 2 M2 rfl;clear M2 n1 hal b2 H3 HBa p0 p1 p2;(go_wp2_with fail);refine(PV.out _).mono ?_;rintro e w3 ⟨r2,c2,q2,d2,rfl,rb,lb,_,_,b3⟩;obtain⟨V,hV,n3,n4,bV,sV⟩:=qm w3 #[.string (qd y.ep),.slice r2 y.rel.length c2,.int .u8 y.c,.string (qd y.n),.bool y.b,.string (qd y.m),.bool y.d,.string (qd y.k),.slice q2 y.loc.length d2] #[.int .i64 0,.int .i64 0] 44 25;obtain⟨s0',s1,s2,s3,s4,s5,s6,s7,s8,_⟩:=qbw n3;have HP:=qb (qnq y r2 q2 c2 d2 V (rb.below bV) (lb.below bV));have HB3:=qb (HB2.out.trans ((b3.trans (bV.mono b3.size)).mono HB2.out.size));have HVV:=qb hV;clear hV n3 n4 bV sV b3 rb lb;go_upto_region 8 with fail
      rw[HVV.out];cases hp:preP y
      ·rw[hp]at HP HL;clear hp;(go_wp2_with fail);refine(HP.out).mono ?_;rintro e w4 ⟨rfl,b4⟩;have HB4:=qb (HB3.out.trans (b4.mono HB3.out.size));(go_wp2_with fail);go_roundw
       case rel=>exact⟨i+1,by omega,by go_num,by show _=_;rw[HT.out,HN.out,HL.out];rfl,HB4.out⟩
       case measure=>simp[intOf];omega
      ·rw[hp]at HP HL;have HF2:=qb (HF.out HL.out);clear hp;(go_wp2_with fail);refine(HP.out).mono ?_;rintro e w4 ⟨rfl,b4⟩;have HB4:=qb (HB3.out.trans (b4.mono HB3.out.size));(go_wp2_with fail);go_ret
       exact⟨by unfold qlv;rw[HF2.out];rfl,HB4.out⟩
     ·have hsg:qd (sgn 5)=⟨#[60]⟩:=rfl;rw[hsg]at p0 H37;clear hsg;have HL:Hid (qjc (triC ⟨5,y,u,false,s0,e0,er0⟩)=false):=qb HL0;clear HL0 hver;have n1:=qbtk wr (.cells #[.string ⟨#[60]⟩,.string (qd u),.bool false] 32);have hal:QE wr.heap.size wr (wr.alloc (.cells #[.string ⟨#[60]⟩,.string (qd u),.bool false] 32)):=(qbtn _ wr).alloc (qbtm _) _;have H3:=H37;have HBa:=qb (hb.trans (hal.mono hb.size));clear H37;(go_wp2_with fail);generalize wr.alloc _=W1 at *;refine(H3.out _).mono ?_;rintro e w2 ⟨rfl,b2⟩;have HB2:=qb (HBa.out.trans (b2.mono HBa.out.size));have M2:=(b2.block _ (qbth.1 n1).1).trans n1;have m0:=qc 0 M2 rfl;have m1:=qc 1 M2 rfl;have m2:=qc 2 M2 rfl;clear M2 n1 hal b2 H3 HBa p0 p1 p2;(go_wp2_with fail);go_roundw
      case rel=>exact⟨i+1,by omega,by go_num,by show _=_;rw[HT.out,HN.out,HL.out];rfl,HB2.out⟩
      case measure=>simp[intOf];omega
     ·have hsg:qd (sgn 6)=⟨#[62]⟩:=rfl;rw[hsg]at p0 H37;clear hsg;have HL:Hid (qjc (triC ⟨6,y,u,false,s0,e0,er0⟩)=false):=qb HL0;clear HL0 hver;have n1:=qbtk wr (.cells #[.string ⟨#[62]⟩,.string (qd u),.bool false] 32);have hal:QE wr.heap.size wr (wr.alloc (.cells #[.string ⟨#[62]⟩,.string (qd u),.bool false] 32)):=(qbtn _ wr).alloc (qbtm _) _;have H3:=H37;have HBa:=qb (hb.trans (hal.mono hb.size));clear H37;(go_wp2_with fail);generalize wr.alloc _=W1 at *;refine(H3.out _).mono ?_;rintro e w2 ⟨rfl,b2⟩;have HB2:=qb (HBa.out.trans (b2.mono HBa.out.size));have M2:=(b2.block _ (qbth.1 n1).1).trans n1;have m0:=qc 0 M2 rfl;have m1:=qc 1 M2 rfl;have m2:=qc 2 M2 rfl;clear M2 n1 hal b2 H3 HBa p0 p1 p2;(go_wp2_with fail);go_roundw
      case rel=>exact⟨i+1,by omega,by go_num,by show _=_;rw[HT.out,HN.out,HL.out];rfl,HB2.out⟩
      case measure=>simp[intOf];omega
     ·have hsg:qd (sgn 7)=⟨#[61,61,61]⟩:=rfl;rw[hsg]at p0 H37;clear hsg;have HL:Hid (qjc (triC ⟨7,y,u,false,s0,e0,er0⟩)=false):=qb HL0;clear HL0 hver;have n1:=qbtk wr (.cells #[.string ⟨#[61,61,61]⟩,.string (qd u),.bool false] 32);have hal:QE wr.heap.size wr (wr.alloc (.cells #[.string ⟨#[61,61,61]⟩,.string (qd u),.bool false] 32)):=(qbtn _ wr).alloc (qbtm _) _;have H3:=H37;have HBa:=qb (hb.trans (hal.mono hb.size));clear H37;(go_wp2_with fail);generalize wr.alloc _=W1 at *;refine(H3.out _).mono ?_;rintro e w2 ⟨rfl,b2⟩;have HB2:=qb (HBa.out.trans (b2.mono HBa.out.size));have M2:=(b2.block _ (qbth.1 n1).1).trans n1;have m0:=qc 0 M2 rfl;have m1:=qc 1 M2 rfl;have m2:=qc 2 M2 rfl;clear M2 n1 hal b2 H3 HBa p0 p1 p2;(go_wp2_with fail);go_roundw
      case rel=>exact⟨i+1,by omega,by go_num,by show _=_;rw[HT.out,HN.out,HL.out];rfl,HB2.out⟩
      case measure=>simp[intOf];omega
    ·have hb2:=hbare rfl;have hpr:preP y=false:=by
      have h3:=hb2.2;unfold qff at h3;unfold preP;simp only[Bool.and_eq_true,beq_iff_eq,Bool.not_eq_true']at h3;rw[h3.1.1.2,h3.2]
      rfl
     rw[hpr,Bool.and_false]at HL0;have HL:=qb HL0;clear HL0 hver hbare hb2 hpr;have n1:=qbtk wr (.cells #[.string (qd (sgn k)),.string (qd u),.bool true] 32);have hal:QE wr.heap.size wr (wr.alloc (.cells #[.string (qd (sgn k)),.string (qd u),.bool true] 32)):=(qbtn _ wr).alloc (qbtm _) _;have HBa:=qb (hb.trans (hal.mono hb.size));(go_wp2_with fail);generalize wr.alloc _=W1 at *;refine(H37.out _).mono ?_;rintro e w2 ⟨rfl,b2⟩;have HB2:=qb (HBa.out.trans (b2.mono HBa.out.size));have M2:=(b2.block _ (qbth.1 n1).1).trans n1;have m0:=qc 0 M2 rfl;have m1:=qc 1 M2 rfl;have m2:=qc 2 M2 rfl;(go_wp2_with fail);go_roundw
     case rel=>exact⟨i+1,by omega,by go_num,by show _=_;rw[HT.out,HN.out,HL.out];rfl,HB2.out⟩
     case measure=>simp[intOf];omega
  ·have hin':¬ (i:Int)<(qs.length:Int):=by omega
   obtain rfl:i=qs.length:=by omega
   have HE:=HN.out;rw[List.take_length]at HE;replace HE:=qb HE;(go_wp2_with fail);go_ret
   exact⟨by unfold qlv;rw[HE.out];rfl,hb⟩
end Go.Proofs.YtabmfdedbpmfmaaGreat
