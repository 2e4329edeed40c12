/- Plain laws of orders: PEP 440's order of versions and of tex -/
import Derived.Test.YtabmfdedbpmfmaaGreatVPl
namespace Go.Proofs.YtabmfdedbpmfmaaGreat
open Go.RowKit Go.Shelf
open Below renaming refl → qbtn
open Nat renaming le_refl → qbtm
set_option linter.unusedVariables false
set_option maxHeartbeats 4000000
set_option maxRecDepth 100000
def stg1 (c:Int) (n:QY) (b d:Bool):Int×QY:=if c=0 then (if d&&!b then (0,⟨#[]⟩) else (255,⟨#[]⟩)) else (c,n)
def stg2 (b:Bool) (m:QY):Int×QY:=if b then (1,m) else (0,⟨#[]⟩)
def stg3 (d:Bool) (k:QY):Int×QY:=if d then (1,k) else (255,⟨#[]⟩)
theorem qkd {W:World} {o:Obj} {B:Nat} (h:W.heap.size=B):(W.alloc o).heap[B]? = some o:=h▸World.alloc_heap_new W o
def qhs (W:World) (B:Nat) (x y z:Int×QY):Prop:=W.heap[B]? = some (.cells #[.int .u8 x.1,.string x.2,.int .u8 y.1,.string y.2,.int .u8 z.1,.string z.2] 135 (0,0))
theorem qwq (e:QY) (vr:Value) (c:Int) (n:QY) (b:Bool) (m:QY) (d:Bool) (k:QY) (vl:Value) (op:∃ a i c,vr=.slice a i c) (ob:∃ a i c,vl=.slice a i c) (w:World) :
  Calls Tryz.prog 109 #[pepV e vr c n b m d k vl] w fun r w'=>∃ B,r=.returned (.slice (some ⟨B,0,none⟩) 3 3)∧w.heap.size≤B∧qhs w' B (stg1 c n b d) (stg2 b m) (stg3 d k)∧Below w.heap.size w w':=by
 obtain⟨a1,i1,c1,rfl⟩:=op;obtain⟨a2,i2,c2,rfl⟩:=ob;unfold pepV
 by_cases hc:c=0
 ·have hcb:(c != 0)=false:=by simp[hc]
  have HC:=qb hc;clear hc;cases b<;>cases d
  ·have X1:Hid (stg1 c n false false=(255,⟨#[]⟩)):=by show _=_;unfold stg1;rw[if_pos HC.out];rfl
   have X2:Hid (stg2 false m=(0,⟨#[]⟩)):=rfl;have X3:Hid (stg3 false k=(255,⟨#[]⟩)):=rfl;go_enter Tryz.func109,Tryz.ntmps109
   (go_wp2_with fail);go_ret
   rw[X1.out,X2.out,X3.out];refine⟨w.heap.size+1+1+1+1,rfl,by omega,qkd (by simp),?_⟩
   ·exact(((((qbtn w.heap.size w).alloc (qbtm _) _).alloc (by simp) _).alloc (by simp;omega) _).alloc (by simp;omega) _).alloc (by simp;omega) _
  ·have X1:Hid (stg1 c n false true=(0,⟨#[]⟩)):=by show _=_;unfold stg1;rw[if_pos HC.out];rfl
   have X2:Hid (stg2 false m=(0,⟨#[]⟩)):=rfl;have X3:Hid (stg3 true k=(1,k)):=rfl;go_enter Tryz.func109,Tryz.ntmps109
   (go_wp2_with fail);go_ret
   rw[X1.out,X2.out,X3.out];refine⟨w.heap.size+1+1+1+1,rfl,by omega,qkd (by simp),?_⟩
   ·exact(((((qbtn w.heap.size w).alloc (qbtm _) _).alloc (by simp) _).alloc (by simp;omega) _).alloc (by simp;omega) _).alloc (by simp;omega) _
  ·have X1:Hid (stg1 c n true false=(255,⟨#[]⟩)):=by show _=_;unfold stg1;rw[if_pos HC.out];rfl
   have X2:Hid (stg2 true m=(1,m)):=rfl;have X3:Hid (stg3 false k=(255,⟨#[]⟩)):=rfl;go_enter Tryz.func109,Tryz.ntmps109
   (go_wp2_with fail);go_ret
   rw[X1.out,X2.out,X3.out];refine⟨w.heap.size+1+1+1+1,rfl,by omega,qkd (by simp),?_⟩
   ·exact(((((qbtn w.heap.size w).alloc (qbtm _) _).alloc (by simp) _).alloc (by simp;omega) _).alloc (by simp;omega) _).alloc (by simp;omega) _
  ·have X1:Hid (stg1 c n true true=(255,⟨#[]⟩)):=by show _=_;unfold stg1;rw[if_pos HC.out];rfl
   have X2:Hid (stg2 true m=(1,m)):=rfl;have X3:Hid (stg3 true k=(1,k)):=rfl;go_enter Tryz.func109,Tryz.ntmps109
   (go_wp2_with fail);go_ret
   rw[X1.out,X2.out,X3.out];refine⟨w.heap.size+1+1+1+1,rfl,by omega,qkd (by simp),?_⟩
   ·exact(((((qbtn w.heap.size w).alloc (qbtm _) _).alloc (by simp) _).alloc (by simp;omega) _).alloc (by simp;omega) _).alloc (by simp;omega) _
 ·have hcb:(c != 0)=true:=by simpa using hc
  have HC:=qb hc;clear hc;cases b<;>cases d
  ·have X1:Hid (stg1 c n false false=(c,n)):=by show _=_;unfold stg1;rw[if_neg HC.out]
   have X2:Hid (stg2 false m=(0,⟨#[]⟩)):=rfl;have X3:Hid (stg3 false k=(255,⟨#[]⟩)):=rfl;go_enter Tryz.func109,Tryz.ntmps109
   (go_wp2_with fail);go_ret
   rw[X1.out,X2.out,X3.out];refine⟨w.heap.size+1+1+1+1,rfl,by omega,qkd (by simp),?_⟩
   ·exact(((((qbtn w.heap.size w).alloc (qbtm _) _).alloc (by simp) _).alloc (by simp;omega) _).alloc (by simp;omega) _).alloc (by simp;omega) _
  ·have X1:Hid (stg1 c n false true=(c,n)):=by show _=_;unfold stg1;rw[if_neg HC.out]
   have X2:Hid (stg2 false m=(0,⟨#[]⟩)):=rfl;have X3:Hid (stg3 true k=(1,k)):=rfl;go_enter Tryz.func109,Tryz.ntmps109
   (go_wp2_with fail);go_ret
   rw[X1.out,X2.out,X3.out];refine⟨w.heap.size+1+1+1+1,rfl,by omega,qkd (by simp),?_⟩
   ·exact(((((qbtn w.heap.size w).alloc (qbtm _) _).alloc (by simp) _).alloc (by simp;omega) _).alloc (by simp;omega) _).alloc (by simp;omega) _
  ·have X1:Hid (stg1 c n true false=(c,n)):=by show _=_;unfold stg1;rw[if_neg HC.out]
   have X2:Hid (stg2 true m=(1,m)):=rfl;have X3:Hid (stg3 false k=(255,⟨#[]⟩)):=rfl;go_enter Tryz.func109,Tryz.ntmps109
   (go_wp2_with fail);go_ret
   rw[X1.out,X2.out,X3.out];refine⟨w.heap.size+1+1+1+1,rfl,by omega,qkd (by simp),?_⟩
   ·exact(((((qbtn w.heap.size w).alloc (qbtm _) _).alloc (by simp) _).alloc (by simp;omega) _).alloc (by simp;omega) _).alloc (by simp;omega) _
  ·have X1:Hid (stg1 c n true true=(c,n)):=by show _=_;unfold stg1;rw[if_neg HC.out]
   have X2:Hid (stg2 true m=(1,m)):=rfl;have X3:Hid (stg3 true k=(1,k)):=rfl;go_enter Tryz.func109,Tryz.ntmps109
   (go_wp2_with fail);go_ret
   rw[X1.out,X2.out,X3.out];refine⟨w.heap.size+1+1+1+1,rfl,by omega,qkd (by simp),?_⟩
   ·exact(((((qbtn w.heap.size w).alloc (qbtm _) _).alloc (by simp) _).alloc (by simp;omega) _).alloc (by simp;omega) _).alloc (by simp;omega) _
set_option maxHeartbeats 1000000
set_option maxRecDepth 100000
theorem fin53 {R:Ending→World→Prop} (tmps:Array Value) (W:World) (B:Nat) (x:Int) (y:QY) (h:tmps.getD 6 undef=.pointer (some ⟨B,0,none⟩)) (e1:W.heap[B]? = some (.cells #[.int .u8 x,.string y] 135 (0,0)))
  (hR:R (.returned (.agg #[.int .u8 x,.string y])) W):bodyPost Tryz.prog Tryz.f131 R .ret { tmps:=tmps,defers:=[] } W:=by
 have s0:=qc 0 e1 rfl;have s1:=qc 1 e1 rfl;rw[Array.getD_eq_getD_getElem?]at h;refine⟨rfl,_,?_,hR⟩;simp[results,Tryz.results131,go_sem,h,s0,s1]
 try rfl
theorem qhs.lt {W:World} {B:Nat} {x y z:Int×QY} (h:qhs W B x y z):B<W.heap.size:=(Array.getElem?_eq_some_iff.1 h).1
theorem qhs.below {W W':World} {B:Nat} {x y z:Int×QY} (h:qhs W B x y z) (hb:Below W.heap.size W W'):qhs W' B x y z:=(hb.block B h.lt).trans h
theorem qhs.seen {W:World} {B:Nat} {x y z:Int×QY} (k:qhs W B x y z) :
  W.cell? ⟨B,0,none⟩=some (.int .u8 x.1)∧W.cell? ⟨B,1,none⟩=some (.string x.2)∧W.cell? ⟨B,2,none⟩=some (.int .u8 y.1)∧W.cell? ⟨B,3,none⟩=some (.string y.2)∧W.cell? ⟨B,4,none⟩=some (.int .u8 z.1)∧W.cell? ⟨B,5,none⟩=some (.string z.2):=
 ⟨qc 0 k rfl,qc 1 k rfl,qc 2 k rfl,qc 3 k rfl,qc 4 k rfl,qc 5 k rfl⟩
theorem qfs (B:Nat) (x y z:Int×QY) (dc:Int) (dn:QY) (w:World) (h:qhs w B x y z) :
  Calls Tryz.prog 131 #[.slice (some ⟨B,0,none⟩) 3 3,.int .i64 0,.agg #[.int .u8 dc,.string dn]] w fun r w'=>r=.returned (.agg #[.int .u8 x.1,.string x.2])∧Below w.heap.size w w':=by
 have hB:=h.lt;have q:=fun o1 o2:Obj=>((h.below ((qbtn _ _).alloc (qbtm _) o1)).below ((qbtn _ _).alloc (qbtm _) o2)).seen;obtain⟨x1,x2⟩:=x;obtain⟨y1,y2⟩:=y;obtain⟨z1,z2⟩:=z;simp only at q ⊢;clear h;go_enter Tryz.func131,Tryz.ntmps131
 (go_wp2_with fail);refine fin53 _ _ (w.heap.size+1) x1 x2 rfl (qkd (by simp)) ?_
 exact⟨rfl,((qbtn w.heap.size w).alloc (qbtm _) _).alloc (by simp) _⟩
theorem qhk (B:Nat) (x y z:Int×QY) (dc:Int) (dn:QY) (w:World) (h:qhs w B x y z) :
  Calls Tryz.prog 131 #[.slice (some ⟨B,0,none⟩) 3 3,.int .i64 1,.agg #[.int .u8 dc,.string dn]] w fun r w'=>r=.returned (.agg #[.int .u8 y.1,.string y.2])∧Below w.heap.size w w':=by
 have hB:=h.lt;have q:=fun o1 o2:Obj=>((h.below ((qbtn _ _).alloc (qbtm _) o1)).below ((qbtn _ _).alloc (qbtm _) o2)).seen;obtain⟨x1,x2⟩:=x;obtain⟨y1,y2⟩:=y;obtain⟨z1,z2⟩:=z;simp only at q ⊢;clear h;go_enter Tryz.func131,Tryz.ntmps131
 (go_wp2_with fail);refine fin53 _ _ (w.heap.size+1) y1 y2 rfl (qkd (by simp)) ?_
 exact⟨rfl,((qbtn w.heap.size w).alloc (qbtm _) _).alloc (by simp) _⟩
theorem qlp (B:Nat) (x y z:Int×QY) (dc:Int) (dn:QY) (w:World) (h:qhs w B x y z) :
  Calls Tryz.prog 131 #[.slice (some ⟨B,0,none⟩) 3 3,.int .i64 2,.agg #[.int .u8 dc,.string dn]] w fun r w'=>r=.returned (.agg #[.int .u8 z.1,.string z.2])∧Below w.heap.size w w':=by
 have hB:=h.lt;have q:=fun o1 o2:Obj=>((h.below ((qbtn _ _).alloc (qbtm _) o1)).below ((qbtn _ _).alloc (qbtm _) o2)).seen;obtain⟨x1,x2⟩:=x;obtain⟨y1,y2⟩:=y;obtain⟨z1,z2⟩:=z;simp only at q ⊢;clear h;go_enter Tryz.func131,Tryz.ntmps131
 (go_wp2_with fail);refine fin53 _ _ (w.heap.size+1) z1 z2 rfl (qkd (by simp)) ?_
 exact⟨rfl,((qbtn w.heap.size w).alloc (qbtm _) _).alloc (by simp) _⟩
set_option maxHeartbeats 4000000
set_option maxRecDepth 100000
structure ST (w:World) (B C:Nat) (x y z x' y' z':Int×QY) (dc:Int) (dn:QY) (W:World):Prop where
 below:Below w.heap.size w W
 a:qhs W B x y z
 b:qhs W C x' y' z'
 box:W.heap[w.heap.size]? = some (.cells #[.int .u8 dc,.string dn] 135 (0,0))
theorem ST.go {w:World} {B C:Nat} {x y z x' y' z':Int×QY} {dc:Int} {dn:QY} {W W':World} (h:ST w B C x y z x' y' z' dc dn W) (hb:Below W.heap.size W W'):ST w B C x y z x' y' z' dc dn W':=
 ⟨h.below.trans (hb.mono h.below.size),h.a.below hb,h.b.below hb,(hb.block _ (Array.getElem?_eq_some_iff.1 h.box).1).trans h.box⟩
theorem ST.seen {w:World} {B C:Nat} {x y z x' y' z':Int×QY} {dc:Int} {dn:QY} {W:World} (h:ST w B C x y z x' y' z' dc dn W):W.cell? ⟨w.heap.size,0,none⟩=some (.int .u8 dc)∧W.cell? ⟨w.heap.size,1,none⟩=some (.string dn):=
 ⟨qc 0 h.box rfl,qc 1 h.box rfl⟩
theorem ST.drew {w:World} {B C:Nat} {x y z x' y' z':Int×QY} {dc:Int} {dn:QY} {W:World} (h:ST w B C x y z x' y' z' dc dn W):ST w B C x y z x' y' z' dc dn W.drew:=h.go (Below.refl _ _).drew
def stsO (x y z x' y' z':Int×QY):Int:=orI [stgO (x.1,x.2.data.toList) (x'.1,x'.2.data.toList),stgO (y.1,y.2.data.toList) (y'.1,y'.2.data.toList),stgO (z.1,z.2.data.toList) (z'.1,z'.2.data.toList)]
theorem qvn (B C:Nat) (x y z x' y' z':Int×QY) (dc:Int) (dn:QY) (w:World) (ha:qhs w B x y z) (hb:qhs w C x' y' z')
 (s1:x.2.size≤9223372036854775806) (s2:y.2.size≤9223372036854775806) (s3:z.2.size≤9223372036854775806) (t1:x'.2.size≤9223372036854775806) (t2:y'.2.size≤9223372036854775806) (t3:z'.2.size≤9223372036854775806) :
 Calls Tryz.prog 108 #[.slice (some ⟨B,0,none⟩) 3 3,.slice (some ⟨C,0,none⟩) 3 3,.agg #[.int .u8 dc,.string dn],.func (.func 110) #[] #[]] w fun r w'=>r=.returned (.int .i64 (stsO x y z x' y' z'))∧Below w.heap.size w w':=by
  have S0:ST w B C x y z x' y' z' dc dn (w.alloc (.cells #[.int .u8 dc,.string dn] 135)):=by
    have bb:=(Below.refl w.heap.size w).alloc (Nat.le_refl _) (.cells #[.int .u8 dc,.string dn] 135);exact⟨bb,ha.below bb,hb.below bb,World.alloc_heap_new w _⟩
  have K0:=qb (fun W=>qjz x.1 x'.1 x.2 x'.2 W s1 t1);have K1:=qb (fun W=>qjz y.1 y'.1 y.2 y'.2 W s2 t2);have K2:=qb (fun W=>qjz z.1 z'.1 z.2 z'.2 W s3 t3);have HO:Hid (stsO x y z x' y' z'=orI [stgO (x.1,x.2.data.toList) (x'.1,x'.2.data.toList),stgO (y.1,y.2.data.toList) (y'.1,y'.2.data.toList),stgO (z.1,z.2.data.toList) (z'.1,z'.2.data.toList)]):=rfl;generalize stsO x y z x' y' z'=O at *;generalize stgO (x.1,x.2.data.toList) (x'.1,x'.2.data.toList)=o0 at *;generalize stgO (y.1,y.2.data.toList) (y'.1,y'.2.data.toList)=o1 at *;generalize stgO (z.1,z.2.data.toList) (z'.1,z'.2.data.toList)=o2 at *;clear ha hb s1 s2 s3 t1 t2 t3
  by_cases c0:o0=0
  · have k0 : (o0 != 0)=false:=by simpa using c0
    by_cases c1:o1=0
    · have k1:(o1 != 0)=false:=by simpa using c1
      by_cases c2:o2=0
      · have k2:(o2 != 0)=false:=by simpa using c2
        have HV:Hid (O=0):=by show _=_;rw[HO.out];simp[orI,c0,c1,c2]
        clear c0 c1 c2;go_enter Tryz.func108,Tryz.ntmps108
        (go_wp2_with fail);refine wp_loop_rounds 4 ?_;rw[rounds_succ];(go_wp2_with fail);generalize w.alloc (.cells #[.int .u8 dc,.string dn] 135)=W0 at *;have D0:=S0.drew;obtain⟨e0,f0⟩:=S0.seen
        go_region_held3 (fun w'=>w'.cell? ⟨w.heap.size,0,none⟩=some (.int .u8 dc)∧w'.cell? ⟨w.heap.size,1,none⟩=some (.string dn))
          (go_keep)
          ((first
            | (go_at_call 131;refine(qfs C x' y' z' dc dn _ P0.b).mono ?_;rintro e v0 ⟨rfl,b⟩;have Q0:=P0.go b;obtain⟨m0,n0⟩:=Q0.seen)
            | (go_at_call 131;refine(qfs B x y z dc dn _ D0.a).mono ?_;rintro e u0 ⟨rfl,b⟩;have P0:=D0.go b;obtain⟨g0,h0⟩:=P0.seen)
            | (go_at_call 110;refine(K0.out _).mono ?_;rintro e W1 ⟨rfl,b⟩;have S1:=Q0.go b;obtain⟨r0,t0⟩:=S1.seen)
            | fail))
        (go_wp2_with fail);rw[rounds_succ];(go_wp2_with fail);have D1:=S1.drew;obtain⟨e1,f1⟩:=S1.seen
        go_region_held3 (fun w'=>w'.cell? ⟨w.heap.size,0,none⟩=some (.int .u8 dc)∧w'.cell? ⟨w.heap.size,1,none⟩=some (.string dn))
          (go_keep)
          ((first
            | (go_at_call 131;refine(qhk C x' y' z' dc dn _ P1.b).mono ?_;rintro e v1 ⟨rfl,b⟩;have Q1:=P1.go b;obtain⟨m1,n1⟩:=Q1.seen)
            | (go_at_call 131;refine(qhk B x y z dc dn _ D1.a).mono ?_;rintro e u1 ⟨rfl,b⟩;have P1:=D1.go b;obtain⟨g1,h1⟩:=P1.seen)
            | (go_at_call 110;refine(K1.out _).mono ?_;rintro e W2 ⟨rfl,b⟩;have S2:=Q1.go b;obtain⟨r1,t1⟩:=S2.seen)
            | fail))
        (go_wp2_with fail);rw[rounds_succ];(go_wp2_with fail);have D2:=S2.drew;obtain⟨e2,f2⟩:=S2.seen
        go_region_held3 (fun w'=>w'.cell? ⟨w.heap.size,0,none⟩=some (.int .u8 dc)∧w'.cell? ⟨w.heap.size,1,none⟩=some (.string dn))
          (go_keep)
          ((first
            | (go_at_call 131;refine(qlp C x' y' z' dc dn _ P2.b).mono ?_;rintro e v2 ⟨rfl,b⟩;have Q2:=P2.go b;obtain⟨m2,n2⟩:=Q2.seen)
            | (go_at_call 131;refine(qlp B x y z dc dn _ D2.a).mono ?_;rintro e u2 ⟨rfl,b⟩;have P2:=D2.go b;obtain⟨g2,h2⟩:=P2.seen)
            | (go_at_call 110;refine(K2.out _).mono ?_;rintro e W3 ⟨rfl,b⟩;have S3:=Q2.go b;obtain⟨r2,t2⟩:=S3.seen)
            | fail))
        (go_wp2_with fail);rw[rounds_succ];(go_wp2_with fail);go_ret
        exact⟨qbv HV.out.symm,S3.below⟩
      · have k2:(o2 != 0)=true:=by simpa using c2
        have HV:Hid (O=o2):=by show _=_;rw[HO.out];simp[orI,c0,c1,c2]
        clear c0 c1 c2;go_enter Tryz.func108,Tryz.ntmps108
        (go_wp2_with fail);refine wp_loop_rounds 4 ?_;rw[rounds_succ];(go_wp2_with fail);generalize w.alloc (.cells #[.int .u8 dc,.string dn] 135)=W0 at *;have D0:=S0.drew;obtain⟨e0,f0⟩:=S0.seen
        go_region_held3 (fun w'=>w'.cell? ⟨w.heap.size,0,none⟩=some (.int .u8 dc)∧w'.cell? ⟨w.heap.size,1,none⟩=some (.string dn))
          (go_keep)
          ((first
            | (go_at_call 131;refine(qfs C x' y' z' dc dn _ P0.b).mono ?_;rintro e v0 ⟨rfl,b⟩;have Q0:=P0.go b;obtain⟨m0,n0⟩:=Q0.seen)
            | (go_at_call 131;refine(qfs B x y z dc dn _ D0.a).mono ?_;rintro e u0 ⟨rfl,b⟩;have P0:=D0.go b;obtain⟨g0,h0⟩:=P0.seen)
            | (go_at_call 110;refine(K0.out _).mono ?_;rintro e W1 ⟨rfl,b⟩;have S1:=Q0.go b;obtain⟨r0,t0⟩:=S1.seen)
            | fail))
        (go_wp2_with fail);rw[rounds_succ];(go_wp2_with fail);have D1:=S1.drew;obtain⟨e1,f1⟩:=S1.seen
        go_region_held3 (fun w'=>w'.cell? ⟨w.heap.size,0,none⟩=some (.int .u8 dc)∧w'.cell? ⟨w.heap.size,1,none⟩=some (.string dn))
          (go_keep)
          ((first
            | (go_at_call 131;refine(qhk C x' y' z' dc dn _ P1.b).mono ?_;rintro e v1 ⟨rfl,b⟩;have Q1:=P1.go b;obtain⟨m1,n1⟩:=Q1.seen)
            | (go_at_call 131;refine(qhk B x y z dc dn _ D1.a).mono ?_;rintro e u1 ⟨rfl,b⟩;have P1:=D1.go b;obtain⟨g1,h1⟩:=P1.seen)
            | (go_at_call 110;refine(K1.out _).mono ?_;rintro e W2 ⟨rfl,b⟩;have S2:=Q1.go b;obtain⟨r1,t1⟩:=S2.seen)
            | fail))
        (go_wp2_with fail);rw[rounds_succ];(go_wp2_with fail);have D2:=S2.drew;obtain⟨e2,f2⟩:=S2.seen
        go_region_held3 (fun w'=>w'.cell? ⟨w.heap.size,0,none⟩=some (.int .u8 dc)∧w'.cell? ⟨w.heap.size,1,none⟩=some (.string dn))
          (go_keep)
          ((first
            | (go_at_call 131;refine(qlp C x' y' z' dc dn _ P2.b).mono ?_;rintro e v2 ⟨rfl,b⟩;have Q2:=P2.go b;obtain⟨m2,n2⟩:=Q2.seen)
            | (go_at_call 131;refine(qlp B x y z dc dn _ D2.a).mono ?_;rintro e u2 ⟨rfl,b⟩;have P2:=D2.go b;obtain⟨g2,h2⟩:=P2.seen)
            | (go_at_call 110;refine(K2.out _).mono ?_;rintro e W3 ⟨rfl,b⟩;have S3:=Q2.go b;obtain⟨r2,t2⟩:=S3.seen)
            | fail))
        (go_wp2_with fail);go_ret
        exact⟨qbv HV.out.symm,S3.below⟩
    · have k1:(o1 != 0)=true:=by simpa using c1
      have HV:Hid (O=o1):=by show _=_;rw[HO.out];simp[orI,c0,c1]
      clear c0 c1;go_enter Tryz.func108,Tryz.ntmps108
      (go_wp2_with fail);refine wp_loop_rounds 4 ?_;rw[rounds_succ];(go_wp2_with fail);generalize w.alloc (.cells #[.int .u8 dc,.string dn] 135)=W0 at *;have D0:=S0.drew;obtain⟨e0,f0⟩:=S0.seen
      go_region_held3 (fun w'=>w'.cell? ⟨w.heap.size,0,none⟩=some (.int .u8 dc)∧w'.cell? ⟨w.heap.size,1,none⟩=some (.string dn))
        (go_keep)
        ((first
          | (go_at_call 131;refine(qfs C x' y' z' dc dn _ P0.b).mono ?_;rintro e v0 ⟨rfl,b⟩;have Q0:=P0.go b;obtain⟨m0,n0⟩:=Q0.seen)
          | (go_at_call 131;refine(qfs B x y z dc dn _ D0.a).mono ?_;rintro e u0 ⟨rfl,b⟩;have P0:=D0.go b;obtain⟨g0,h0⟩:=P0.seen)
          | (go_at_call 110;refine(K0.out _).mono ?_;rintro e W1 ⟨rfl,b⟩;have S1:=Q0.go b;obtain⟨r0,t0⟩:=S1.seen)
          | fail))
      (go_wp2_with fail);rw[rounds_succ];(go_wp2_with fail);have D1:=S1.drew;obtain⟨e1,f1⟩:=S1.seen
      go_region_held3 (fun w'=>w'.cell? ⟨w.heap.size,0,none⟩=some (.int .u8 dc)∧w'.cell? ⟨w.heap.size,1,none⟩=some (.string dn))
        (go_keep)
        ((first
          | (go_at_call 131;refine(qhk C x' y' z' dc dn _ P1.b).mono ?_;rintro e v1 ⟨rfl,b⟩;have Q1:=P1.go b;obtain⟨m1,n1⟩:=Q1.seen)
          | (go_at_call 131;refine(qhk B x y z dc dn _ D1.a).mono ?_;rintro e u1 ⟨rfl,b⟩;have P1:=D1.go b;obtain⟨g1,h1⟩:=P1.seen)
          | (go_at_call 110;refine(K1.out _).mono ?_;rintro e W2 ⟨rfl,b⟩;have S2:=Q1.go b;obtain⟨r1,t1⟩:=S2.seen)
          | fail))
      (go_wp2_with fail);go_ret
      exact⟨qbv HV.out.symm,S2.below⟩
  · have k0:(o0 != 0)=true:=by simpa using c0
    have HV:Hid (O=o0):=by show _=_;rw[HO.out];simp[orI,c0]
    clear c0;go_enter Tryz.func108,Tryz.ntmps108
    (go_wp2_with fail);refine wp_loop_rounds 4 ?_;rw[rounds_succ];(go_wp2_with fail);generalize w.alloc (.cells #[.int .u8 dc,.string dn] 135)=W0 at *;have D0:=S0.drew;obtain⟨e0,f0⟩:=S0.seen
    go_region_held3 (fun w'=>w'.cell? ⟨w.heap.size,0,none⟩=some (.int .u8 dc)∧w'.cell? ⟨w.heap.size,1,none⟩=some (.string dn))
      (go_keep)
      ((first
        | (go_at_call 131;refine(qfs C x' y' z' dc dn _ P0.b).mono ?_;rintro e v0 ⟨rfl,b⟩;have Q0:=P0.go b;obtain⟨m0,n0⟩:=Q0.seen)
        | (go_at_call 131;refine(qfs B x y z dc dn _ D0.a).mono ?_;rintro e u0 ⟨rfl,b⟩;have P0:=D0.go b;obtain⟨g0,h0⟩:=P0.seen)
        | (go_at_call 110;refine(K0.out _).mono ?_;rintro e W1 ⟨rfl,b⟩;have S1:=Q0.go b;obtain⟨r0,t0⟩:=S1.seen)
        | fail))
    (go_wp2_with fail);go_ret
    exact⟨qbv HV.out.symm,S1.below⟩
structure Cmp3 {α : Type} (f:α→α→Int):Prop where
 rng:∀ a b,f a b=-1∨f a b=0∨f a b=1
 anti:∀ a b,f b a=- f a b
 trans:∀ a b c,f a b≤0→f b c≤0→f a c≤0
 eqv:∀ a b c,f a b=0→f a c=f b c
namespace Cmp3
variable {α β : Type} {f g:α→α→Int}
theorem self (h:Cmp3 f) (a:α):f a a=0:=by have:=h.anti a a;omega
theorem lt_le (h:Cmp3 f) {a b c:α} (h1:f a b<0) (h2:f b c≤0):f a c<0:=by
 have h3:=h.trans a b c (by omega) h2
 by_cases e:f a c=0
 ·have e1:=h.eqv a c b e;have e2:=h.anti b c;omega
 ·omega
theorem le_lt (h:Cmp3 f) {a b c:α} (h1:f a b≤0) (h2:f b c<0):f a c<0:=by
 have h3:=h.trans a b c h1 (by omega)
 by_cases e:f a c=0
 ·have e0:=h.anti a c;have e1:=h.eqv c a b (by omega)
  have e2:=h.anti b c;omega
 ·omega
theorem pull (h:Cmp3 f) (p:β→α):Cmp3 (fun x y=>f (p x) (p y)):=
 ⟨fun a b=>h.rng _ _,fun a b=>h.anti _ _,fun a b c=>h.trans _ _ _,fun a b c=>h.eqv _ _ _⟩
theorem lex (hf:Cmp3 f) (hg:Cmp3 g):Cmp3 (fun x y=>if f x y=0 then g x y else f x y):=by
 refine⟨fun a b=>?_,fun a b=>?_,fun a b c h1 h2=>?_,fun a b c h=>?_⟩
 ·skip
  split
  ·exact hg.rng a b
  ·exact hf.rng a b
 ·have:=hf.anti a b;have:=hg.anti a b
  by_cases h:f a b=0
  ·rw[if_pos h,if_pos (by omega)];omega
  ·rw[if_neg h,if_neg (by omega)];omega
 ·skip
  have f1:f a b≤0:=by split at h1<;>omega
  have f2:f b c≤0:=by split at h2<;>omega
  have f3:=hf.trans a b c f1 f2
  by_cases h:f a c=0
  ·rw [if_pos h];have e1:f a b=0:=by
    by_cases e:f a b=0
    ·exact e
    ·have:=hf.lt_le (a:=a) (b:=b) (c:=c) (by omega) f2;omega
   have e2:f b c=0:=by
    by_cases e:f b c=0
    ·exact e
    ·have:=hf.le_lt (a:=a) (b:=b) (c:=c) f1 (by omega);omega
   rw[if_pos e1]at h1;rw[if_pos e2]at h2;exact hg.trans a b c h1 h2
  ·rw[if_neg h];exact f3
 ·skip
  have e1:f a b=0:=by split at h<;>omega
  rw[if_pos e1]at h;rw[hf.eqv a b c e1,hg.eqv a b c h]
end Cmp3
theorem qxv:Cmp3 cmpN:=by
 refine⟨fun a b=>?_,fun a b=>?_,fun a b c h1 h2=>?_,fun a b c h=>?_⟩
 ·unfold cmpN;(repeat' split)<;>simp
 ·unfold cmpN;(repeat' split)<;>omega
 ·unfold cmpN at *;(repeat' split at h1)<;>(repeat' split at h2)<;>(repeat' split)<;>omega
 ·unfold cmpN at *;(repeat' split at h)<;>(repeat' split)<;>omega
def lexG {α : Type} (f:α→α→Int):List α→List α→Int
 | [],[]=>0
 | [],_::_=>-1
 | _::_,[]=>1
 | x::a,y::b=>if f x y=0 then lexG f a b else f x y
theorem qbpr {α : Type} {f:α→α→Int} (h:Cmp3 f):Cmp3 (lexG f):=by
 refine⟨fun a=>?_,fun a=>?_,fun a=>?_,fun a=>?_⟩
 ·induction a with
  | nil=>intro b;cases b<;>simp[lexG]
  | cons x a ih=>
   intro b;cases b with
   | nil=>simp[lexG]
   | cons y b=>
    rw[lexG];split
    ·exact ih b
    ·exact h.rng x y
 ·induction a with
  | nil=>intro b;cases b<;>simp[lexG]
  | cons x a ih=>
   intro b;cases b with
   | nil=>simp[lexG]
   | cons y b=>
    have e:=h.anti x y;rw[lexG,lexG]
    by_cases h0:f x y=0
    ·rw[if_pos h0,if_pos (by omega)];exact ih b
    ·rw[if_neg h0,if_neg (by omega)];exact e
 ·induction a with
  | nil=>intro b c h1 h2;cases c<;>cases b<;>simp[lexG]at *
  | cons x a ih=>
   intro b c h1 h2;cases b with
   | nil=>simp[lexG]at h1
   | cons y b=>
    cases c with
    | nil=>simp[lexG]at h2
    | cons z c=>
     rw[lexG]at h1 h2 ⊢;have f1:f x y≤0:=by split at h1<;>omega
     have f2:f y z≤0:=by split at h2<;>omega
     have f3:=h.trans x y z f1 f2
     by_cases h0:f x z=0
     ·rw [if_pos h0];have e1:f x y=0:=by
       by_cases e:f x y=0
       ·exact e
       ·have:=h.lt_le (a:=x) (b:=y) (c:=z) (by omega) f2;omega
      have e2:f y z=0:=by
       by_cases e:f y z=0
       ·exact e
       ·have:=h.le_lt (a:=x) (b:=y) (c:=z) f1 (by omega);omega
      rw[if_pos e1]at h1;rw[if_pos e2]at h2;exact ih b c h1 h2
     ·rw[if_neg h0];exact f3
 ·induction a with
  | nil=>intro b c h1;cases b<;>simp[lexG]at *
  | cons x a ih=>
   intro b c h1;cases b with
   | nil=>simp[lexG]at h1
   | cons y b=>
    rw[lexG]at h1;have e1:f x y=0:=by split at h1<;>omega
    rw[if_pos e1]at h1;cases c with
    | nil=>simp[lexG]
    | cons z c=>rw[lexG,lexG,h.eqv x y z e1,ih b c h1]
theorem qbgt:∀ a b:QB,Lib.compareBytes a b=lexG (fun x y:UInt8=>cmpN x.toNat y.toNat) a b
 | [],[]=>rfl
 | [],_::_=>rfl
 | _::_,[]=>rfl
 | x::a,y::b=>by
  rw[lexG,Lib.compareBytes,qbgt a b];have e:∀ u v:UInt8,(u<v)↔u.toNat<v.toNat:=fun u v=>UInt8.lt_iff_toNat_lt;unfold cmpN
  by_cases h1:x<y
  ·have h1':=(e x y).1 h1;simp[h1,h1']
  ·have h1':¬ x.toNat<y.toNat:=fun h=>h1 ((e x y).2 h)
   by_cases h2:y<x
   ·have h2':=(e y x).1 h2;simp[h1,h1',h2,h2']
   ·have h2':¬ y.toNat<x.toNat:=fun h=>h2 ((e y x).2 h);simp[h1,h1',h2,h2']
theorem qbkj:Cmp3 Lib.compareBytes:=by
 have:=qbpr (qxv.pull (fun x:UInt8=>x.toNat));have e:Lib.compareBytes=lexG (fun x y:UInt8=>cmpN x.toNat y.toNat):=funext fun a=>funext fun b=>qbgt a b;rw[e];exact this
theorem qbqw:Cmp3 cmpD:=by
 have:=Cmp3.lex (qxv.pull (fun l:QB=>(qp l).length)) (qbkj.pull qp);have e:cmpD=fun x y=>if cmpN (qp x).length (qp y).length=0 then Lib.compareBytes (qp x) (qp y) else cmpN (qp x).length (qp y).length:=funext fun a=>funext fun b=>by
  unfold cmpD cmpN
  (repeat' split)<;>first|rfl|omega
 rw[e];exact this
structure PepL where
 ep:QB
 rel:List QB
 c:Int
 n:QB
 b:Bool
 m:QB
 d:Bool
 k:QB
 loc:List QB
def st1 (x:PepL):Int×QB:=if x.c=0 then (if x.d&&!x.b then (0,[]) else (255,[])) else (x.c,x.n)
def st2 (x:PepL):Int×QB:=if x.b then (1,x.m) else (0,[])
def st3 (x:PepL):Int×QB:=if x.d then (1,x.k) else (255,[])
def stL (x y:PepL):Int:=orI [stgO (st1 x) (st1 y),stgO (st2 x) (st2 y),stgO (st3 x) (st3 y)]
def ordP (x y:PepL):Int:=orI [cmpD x.ep y.ep,padO cmpD [48] x.rel y.rel 0,stL x y,padO locO [] x.loc y.loc 0]
def rowL (u:QB) (xs:List (Nat×Nat)):List QB:=xs.map fun x=>qbt (seg u x.1 x.2)
def ql (u:QB):PepL:=⟨epoT u (vp1 u),rowL u (vrel u),preC u (vp3 u),stN u (vp3 u) qbp,posB u (vp4 u),posN u (vp4 u),(qbl u (vp5 u) qbk).isSome,stN u (vp5 u) qbk,rowL u (qfb u)⟩
def okP (l:QB):Bool:=decide (l.length≤64)&&decide ((verX (qk l)).1=0)
def cmpT (a b:QB):Int:=if okP a then (if okP b then ordP (ql (qk a)) (ql (qk b)) else 1) else if okP b then -1 else 0
end Go.Proofs.YtabmfdedbpmfmaaGreat
