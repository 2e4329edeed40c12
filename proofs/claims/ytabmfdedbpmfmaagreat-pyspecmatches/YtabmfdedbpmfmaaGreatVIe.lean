/- Walks: whether a version is wanted. -/
import Derived.Test.YtabmfdedbpmfmaaGreatVHx
import Derived.Test.YtabmfdedbpmfmaaGreatVIa
import Derived.Test.YtabmfdedbpmfmaaGreatVHf
import Derived.Test.YtabmfdedbpmfmaaGreatVGp
import Derived.Test.YtabmfdedbpmfmaaGreatVGu
import Derived.Test.YtabmfdedbpmfmaaGreatVGga
import Derived.Test.YtabmfdedbpmfmaaGreatVGj
namespace Go.Proofs.YtabmfdedbpmfmaaGreat
open Go.RowKit Go.Shelf
open _root_.Array renaming getElem?_eq_some_iff → qbth
open Below renaming refl → qbtn
open Nat renaming le_refl → qbtm
open World renaming alloc_heap_new → qbtk
open Go.RowKit renaming Below → QE
open Go.Proofs.Tryz (prog)
set_option linter.unusedVariables false
set_option maxHeartbeats 4000000
set_option maxRecDepth 100000
theorem want1_0 (x y:PepL) (r1 r2 q1 q2:Option Addr) (c1 c2 d1 d2:Nat) (t u sg:QY) (st su o R:Bool) (fr:Value) (a b er:Int) (p:Nat) (w:World) (hp:w.heap[p]? = some (.cells #[.string (qd x.ep),.slice r1 x.rel.length c1,.int .u8 x.c,.string (qd x.n),.bool x.b,.string (qd x.m),.bool x.d,.string (qd x.k),.slice q1 x.loc.length d1,.string t,.bool st] 59 (0,0)))
  (HH:∀ W,QE w.heap.size w W→Calls prog 150 #[.agg #[.string (qd x.ep),.slice r1 x.rel.length c1,.int .u8 x.c,.string (qd x.n),.bool x.b,.string (qd x.m),.bool x.d,.string (qd x.k),.slice q1 x.loc.length d1,.string t,.bool st],.agg #[.string (qd y.ep),.slice r2 y.rel.length c2,.int .u8 y.c,.string (qd y.n),.bool y.b,.string (qd y.m),.bool y.d,.string (qd y.k),.slice q2 y.loc.length d2,.string u,.bool su]] W fun e W'=>e=.returned (.bool R)∧QE W.heap.size W W') :
  Calls prog 79 #[.agg #[.string sg,fr,.func (.func 150) #[] #[],.bool o,.string (qd y.ep),.slice r2 y.rel.length c2,.int .u8 y.c,.string (qd y.n),.bool y.b,.string (qd y.m),.bool y.d,.string (qd y.k),.slice q2 y.loc.length d2,.string u,.bool su,.int .i64 a,.int .i64 b,.int .i64 er],.pointer (some ⟨p,0,none⟩)] w fun e w'=>e=.returned (.bool (!R))∧QE w.heap.size w w':=by
 have n0:=qbtk w (.cells #[.string sg,fr,.func (.func 150) #[] #[],.bool o,.string (qd y.ep),.slice r2 y.rel.length c2,.int .u8 y.c,.string (qd y.n),.bool y.b,.string (qd y.m),.bool y.d,.string (qd y.k),.slice q2 y.loc.length d2,.string u,.bool su,.int .i64 a,.int .i64 b,.int .i64 er] 61);have hal:QE w.heap.size w (w.alloc (.cells #[.string sg,fr,.func (.func 150) #[] #[],.bool o,.string (qd y.ep),.slice r2 y.rel.length c2,.int .u8 y.c,.string (qd y.n),.bool y.b,.string (qd y.m),.bool y.d,.string (qd y.k),.slice q2 y.loc.length d2,.string u,.bool su,.int .i64 a,.int .i64 b,.int .i64 er] 61)):=(qbtn _ w).alloc (qbtm _) _;have hpl:=(qbth.1 hp).1;have hp1:=(hal.block p hpl).trans hp;have HC:=qb (HH _ hal);have HA:=qb hal;obtain⟨s0,s1,s2,s3,s4,s5,s6,s7,s8,s9,s10,_⟩:=qh hp1;obtain⟨x0,x1,x2,x3,x4,x5,x6,x7,x8,x9,x10,x11,x12,x13,x14,x15,x16,x17,_⟩:=qdc n0;clear n0 hal hp hp1 HH hpl;go_enter Tryz.func79,Tryz.ntmps79
 (go_wp2_with fail);refine(HC.out).mono ?_;rintro e w2 ⟨rfl,b2⟩;(go_wp2_with fail);go_ret
 exact⟨rfl,HA.out.trans (b2.mono HA.out.size)⟩
theorem want1_1 (x y:PepL) (r1 r2 q1 q2:Option Addr) (c1 c2 d1 d2:Nat) (t u sg:QY) (st su o R:Bool) (fr:Value) (a b er:Int) (p:Nat) (w:World) (hp:w.heap[p]? = some (.cells #[.string (qd x.ep),.slice r1 x.rel.length c1,.int .u8 x.c,.string (qd x.n),.bool x.b,.string (qd x.m),.bool x.d,.string (qd x.k),.slice q1 x.loc.length d1,.string t,.bool st] 59 (0,0)))
  (HH:∀ W,QE w.heap.size w W→Calls prog 152 #[.agg #[.string (qd x.ep),.slice r1 x.rel.length c1,.int .u8 x.c,.string (qd x.n),.bool x.b,.string (qd x.m),.bool x.d,.string (qd x.k),.slice q1 x.loc.length d1,.string t,.bool st],.agg #[.string (qd y.ep),.slice r2 y.rel.length c2,.int .u8 y.c,.string (qd y.n),.bool y.b,.string (qd y.m),.bool y.d,.string (qd y.k),.slice q2 y.loc.length d2,.string u,.bool su]] W fun e W'=>e=.returned (.bool R)∧QE W.heap.size W W') :
  Calls prog 79 #[.agg #[.string sg,fr,.func (.func 152) #[] #[],.bool o,.string (qd y.ep),.slice r2 y.rel.length c2,.int .u8 y.c,.string (qd y.n),.bool y.b,.string (qd y.m),.bool y.d,.string (qd y.k),.slice q2 y.loc.length d2,.string u,.bool su,.int .i64 a,.int .i64 b,.int .i64 er],.pointer (some ⟨p,0,none⟩)] w fun e w'=>e=.returned (.bool (!R))∧QE w.heap.size w w':=by
 have n0:=qbtk w (.cells #[.string sg,fr,.func (.func 152) #[] #[],.bool o,.string (qd y.ep),.slice r2 y.rel.length c2,.int .u8 y.c,.string (qd y.n),.bool y.b,.string (qd y.m),.bool y.d,.string (qd y.k),.slice q2 y.loc.length d2,.string u,.bool su,.int .i64 a,.int .i64 b,.int .i64 er] 61);have hal:QE w.heap.size w (w.alloc (.cells #[.string sg,fr,.func (.func 152) #[] #[],.bool o,.string (qd y.ep),.slice r2 y.rel.length c2,.int .u8 y.c,.string (qd y.n),.bool y.b,.string (qd y.m),.bool y.d,.string (qd y.k),.slice q2 y.loc.length d2,.string u,.bool su,.int .i64 a,.int .i64 b,.int .i64 er] 61)):=(qbtn _ w).alloc (qbtm _) _;have hpl:=(qbth.1 hp).1;have hp1:=(hal.block p hpl).trans hp;have HC:=qb (HH _ hal);have HA:=qb hal;obtain⟨s0,s1,s2,s3,s4,s5,s6,s7,s8,s9,s10,_⟩:=qh hp1;obtain⟨x0,x1,x2,x3,x4,x5,x6,x7,x8,x9,x10,x11,x12,x13,x14,x15,x16,x17,_⟩:=qdc n0;clear n0 hal hp hp1 HH hpl;go_enter Tryz.func79,Tryz.ntmps79
 (go_wp2_with fail);refine(HC.out).mono ?_;rintro e w2 ⟨rfl,b2⟩;(go_wp2_with fail);go_ret
 exact⟨rfl,HA.out.trans (b2.mono HA.out.size)⟩
theorem want1_2 (x y:PepL) (r1 r2 q1 q2:Option Addr) (c1 c2 d1 d2:Nat) (t u sg:QY) (st su o R:Bool) (fr:Value) (a b er:Int) (p:Nat) (w:World) (hp:w.heap[p]? = some (.cells #[.string (qd x.ep),.slice r1 x.rel.length c1,.int .u8 x.c,.string (qd x.n),.bool x.b,.string (qd x.m),.bool x.d,.string (qd x.k),.slice q1 x.loc.length d1,.string t,.bool st] 59 (0,0)))
  (HH:∀ W,QE w.heap.size w W→Calls prog 153 #[.agg #[.string (qd x.ep),.slice r1 x.rel.length c1,.int .u8 x.c,.string (qd x.n),.bool x.b,.string (qd x.m),.bool x.d,.string (qd x.k),.slice q1 x.loc.length d1,.string t,.bool st],.agg #[.string (qd y.ep),.slice r2 y.rel.length c2,.int .u8 y.c,.string (qd y.n),.bool y.b,.string (qd y.m),.bool y.d,.string (qd y.k),.slice q2 y.loc.length d2,.string u,.bool su]] W fun e W'=>e=.returned (.bool R)∧QE W.heap.size W W') :
  Calls prog 79 #[.agg #[.string sg,fr,.func (.func 153) #[] #[],.bool o,.string (qd y.ep),.slice r2 y.rel.length c2,.int .u8 y.c,.string (qd y.n),.bool y.b,.string (qd y.m),.bool y.d,.string (qd y.k),.slice q2 y.loc.length d2,.string u,.bool su,.int .i64 a,.int .i64 b,.int .i64 er],.pointer (some ⟨p,0,none⟩)] w fun e w'=>e=.returned (.bool (!R))∧QE w.heap.size w w':=by
 have n0:=qbtk w (.cells #[.string sg,fr,.func (.func 153) #[] #[],.bool o,.string (qd y.ep),.slice r2 y.rel.length c2,.int .u8 y.c,.string (qd y.n),.bool y.b,.string (qd y.m),.bool y.d,.string (qd y.k),.slice q2 y.loc.length d2,.string u,.bool su,.int .i64 a,.int .i64 b,.int .i64 er] 61);have hal:QE w.heap.size w (w.alloc (.cells #[.string sg,fr,.func (.func 153) #[] #[],.bool o,.string (qd y.ep),.slice r2 y.rel.length c2,.int .u8 y.c,.string (qd y.n),.bool y.b,.string (qd y.m),.bool y.d,.string (qd y.k),.slice q2 y.loc.length d2,.string u,.bool su,.int .i64 a,.int .i64 b,.int .i64 er] 61)):=(qbtn _ w).alloc (qbtm _) _;have hpl:=(qbth.1 hp).1;have hp1:=(hal.block p hpl).trans hp;have HC:=qb (HH _ hal);have HA:=qb hal;obtain⟨s0,s1,s2,s3,s4,s5,s6,s7,s8,s9,s10,_⟩:=qh hp1;obtain⟨x0,x1,x2,x3,x4,x5,x6,x7,x8,x9,x10,x11,x12,x13,x14,x15,x16,x17,_⟩:=qdc n0;clear n0 hal hp hp1 HH hpl;go_enter Tryz.func79,Tryz.ntmps79
 (go_wp2_with fail);refine(HC.out).mono ?_;rintro e w2 ⟨rfl,b2⟩;(go_wp2_with fail);go_ret
 exact⟨rfl,HA.out.trans (b2.mono HA.out.size)⟩
theorem want1_3 (x y:PepL) (r1 r2 q1 q2:Option Addr) (c1 c2 d1 d2:Nat) (t u sg:QY) (st su o R:Bool) (fr:Value) (a b er:Int) (p:Nat) (w:World) (hp:w.heap[p]? = some (.cells #[.string (qd x.ep),.slice r1 x.rel.length c1,.int .u8 x.c,.string (qd x.n),.bool x.b,.string (qd x.m),.bool x.d,.string (qd x.k),.slice q1 x.loc.length d1,.string t,.bool st] 59 (0,0)))
  (HH:∀ W,QE w.heap.size w W→Calls prog 155 #[.agg #[.string (qd x.ep),.slice r1 x.rel.length c1,.int .u8 x.c,.string (qd x.n),.bool x.b,.string (qd x.m),.bool x.d,.string (qd x.k),.slice q1 x.loc.length d1,.string t,.bool st],.agg #[.string (qd y.ep),.slice r2 y.rel.length c2,.int .u8 y.c,.string (qd y.n),.bool y.b,.string (qd y.m),.bool y.d,.string (qd y.k),.slice q2 y.loc.length d2,.string u,.bool su]] W fun e W'=>e=.returned (.bool R)∧QE W.heap.size W W') :
  Calls prog 79 #[.agg #[.string sg,fr,.func (.func 155) #[] #[],.bool o,.string (qd y.ep),.slice r2 y.rel.length c2,.int .u8 y.c,.string (qd y.n),.bool y.b,.string (qd y.m),.bool y.d,.string (qd y.k),.slice q2 y.loc.length d2,.string u,.bool su,.int .i64 a,.int .i64 b,.int .i64 er],.pointer (some ⟨p,0,none⟩)] w fun e w'=>e=.returned (.bool (!R))∧QE w.heap.size w w':=by
 have n0:=qbtk w (.cells #[.string sg,fr,.func (.func 155) #[] #[],.bool o,.string (qd y.ep),.slice r2 y.rel.length c2,.int .u8 y.c,.string (qd y.n),.bool y.b,.string (qd y.m),.bool y.d,.string (qd y.k),.slice q2 y.loc.length d2,.string u,.bool su,.int .i64 a,.int .i64 b,.int .i64 er] 61);have hal:QE w.heap.size w (w.alloc (.cells #[.string sg,fr,.func (.func 155) #[] #[],.bool o,.string (qd y.ep),.slice r2 y.rel.length c2,.int .u8 y.c,.string (qd y.n),.bool y.b,.string (qd y.m),.bool y.d,.string (qd y.k),.slice q2 y.loc.length d2,.string u,.bool su,.int .i64 a,.int .i64 b,.int .i64 er] 61)):=(qbtn _ w).alloc (qbtm _) _;have hpl:=(qbth.1 hp).1;have hp1:=(hal.block p hpl).trans hp;have HC:=qb (HH _ hal);have HA:=qb hal;obtain⟨s0,s1,s2,s3,s4,s5,s6,s7,s8,s9,s10,_⟩:=qh hp1;obtain⟨x0,x1,x2,x3,x4,x5,x6,x7,x8,x9,x10,x11,x12,x13,x14,x15,x16,x17,_⟩:=qdc n0;clear n0 hal hp hp1 HH hpl;go_enter Tryz.func79,Tryz.ntmps79
 (go_wp2_with fail);refine(HC.out).mono ?_;rintro e w2 ⟨rfl,b2⟩;(go_wp2_with fail);go_ret
 exact⟨rfl,HA.out.trans (b2.mono HA.out.size)⟩
theorem want1_4 (x y:PepL) (r1 r2 q1 q2:Option Addr) (c1 c2 d1 d2:Nat) (t u sg:QY) (st su o R:Bool) (fr:Value) (a b er:Int) (p:Nat) (w:World) (hp:w.heap[p]? = some (.cells #[.string (qd x.ep),.slice r1 x.rel.length c1,.int .u8 x.c,.string (qd x.n),.bool x.b,.string (qd x.m),.bool x.d,.string (qd x.k),.slice q1 x.loc.length d1,.string t,.bool st] 59 (0,0)))
  (HH:∀ W,QE w.heap.size w W→Calls prog 156 #[.agg #[.string (qd x.ep),.slice r1 x.rel.length c1,.int .u8 x.c,.string (qd x.n),.bool x.b,.string (qd x.m),.bool x.d,.string (qd x.k),.slice q1 x.loc.length d1,.string t,.bool st],.agg #[.string (qd y.ep),.slice r2 y.rel.length c2,.int .u8 y.c,.string (qd y.n),.bool y.b,.string (qd y.m),.bool y.d,.string (qd y.k),.slice q2 y.loc.length d2,.string u,.bool su]] W fun e W'=>e=.returned (.bool R)∧QE W.heap.size W W') :
  Calls prog 79 #[.agg #[.string sg,fr,.func (.func 156) #[] #[],.bool o,.string (qd y.ep),.slice r2 y.rel.length c2,.int .u8 y.c,.string (qd y.n),.bool y.b,.string (qd y.m),.bool y.d,.string (qd y.k),.slice q2 y.loc.length d2,.string u,.bool su,.int .i64 a,.int .i64 b,.int .i64 er],.pointer (some ⟨p,0,none⟩)] w fun e w'=>e=.returned (.bool (!R))∧QE w.heap.size w w':=by
 have n0:=qbtk w (.cells #[.string sg,fr,.func (.func 156) #[] #[],.bool o,.string (qd y.ep),.slice r2 y.rel.length c2,.int .u8 y.c,.string (qd y.n),.bool y.b,.string (qd y.m),.bool y.d,.string (qd y.k),.slice q2 y.loc.length d2,.string u,.bool su,.int .i64 a,.int .i64 b,.int .i64 er] 61);have hal:QE w.heap.size w (w.alloc (.cells #[.string sg,fr,.func (.func 156) #[] #[],.bool o,.string (qd y.ep),.slice r2 y.rel.length c2,.int .u8 y.c,.string (qd y.n),.bool y.b,.string (qd y.m),.bool y.d,.string (qd y.k),.slice q2 y.loc.length d2,.string u,.bool su,.int .i64 a,.int .i64 b,.int .i64 er] 61)):=(qbtn _ w).alloc (qbtm _) _;have hpl:=(qbth.1 hp).1;have hp1:=(hal.block p hpl).trans hp;have HC:=qb (HH _ hal);have HA:=qb hal;obtain⟨s0,s1,s2,s3,s4,s5,s6,s7,s8,s9,s10,_⟩:=qh hp1;obtain⟨x0,x1,x2,x3,x4,x5,x6,x7,x8,x9,x10,x11,x12,x13,x14,x15,x16,x17,_⟩:=qdc n0;clear n0 hal hp hp1 HH hpl;go_enter Tryz.func79,Tryz.ntmps79
 (go_wp2_with fail);refine(HC.out).mono ?_;rintro e w2 ⟨rfl,b2⟩;(go_wp2_with fail);go_ret
 exact⟨rfl,HA.out.trans (b2.mono HA.out.size)⟩
theorem want1_5 (x y:PepL) (r1 r2 q1 q2:Option Addr) (c1 c2 d1 d2:Nat) (t u sg:QY) (st su o R:Bool) (fr:Value) (a b er:Int) (p:Nat) (w:World) (hp:w.heap[p]? = some (.cells #[.string (qd x.ep),.slice r1 x.rel.length c1,.int .u8 x.c,.string (qd x.n),.bool x.b,.string (qd x.m),.bool x.d,.string (qd x.k),.slice q1 x.loc.length d1,.string t,.bool st] 59 (0,0)))
  (HH:∀ W,QE w.heap.size w W→Calls prog 157 #[.agg #[.string (qd x.ep),.slice r1 x.rel.length c1,.int .u8 x.c,.string (qd x.n),.bool x.b,.string (qd x.m),.bool x.d,.string (qd x.k),.slice q1 x.loc.length d1,.string t,.bool st],.agg #[.string (qd y.ep),.slice r2 y.rel.length c2,.int .u8 y.c,.string (qd y.n),.bool y.b,.string (qd y.m),.bool y.d,.string (qd y.k),.slice q2 y.loc.length d2,.string u,.bool su]] W fun e W'=>e=.returned (.bool R)∧QE W.heap.size W W') :
  Calls prog 79 #[.agg #[.string sg,fr,.func (.func 157) #[] #[],.bool o,.string (qd y.ep),.slice r2 y.rel.length c2,.int .u8 y.c,.string (qd y.n),.bool y.b,.string (qd y.m),.bool y.d,.string (qd y.k),.slice q2 y.loc.length d2,.string u,.bool su,.int .i64 a,.int .i64 b,.int .i64 er],.pointer (some ⟨p,0,none⟩)] w fun e w'=>e=.returned (.bool (!R))∧QE w.heap.size w w':=by
 have n0:=qbtk w (.cells #[.string sg,fr,.func (.func 157) #[] #[],.bool o,.string (qd y.ep),.slice r2 y.rel.length c2,.int .u8 y.c,.string (qd y.n),.bool y.b,.string (qd y.m),.bool y.d,.string (qd y.k),.slice q2 y.loc.length d2,.string u,.bool su,.int .i64 a,.int .i64 b,.int .i64 er] 61);have hal:QE w.heap.size w (w.alloc (.cells #[.string sg,fr,.func (.func 157) #[] #[],.bool o,.string (qd y.ep),.slice r2 y.rel.length c2,.int .u8 y.c,.string (qd y.n),.bool y.b,.string (qd y.m),.bool y.d,.string (qd y.k),.slice q2 y.loc.length d2,.string u,.bool su,.int .i64 a,.int .i64 b,.int .i64 er] 61)):=(qbtn _ w).alloc (qbtm _) _;have hpl:=(qbth.1 hp).1;have hp1:=(hal.block p hpl).trans hp;have HC:=qb (HH _ hal);have HA:=qb hal;obtain⟨s0,s1,s2,s3,s4,s5,s6,s7,s8,s9,s10,_⟩:=qh hp1;obtain⟨x0,x1,x2,x3,x4,x5,x6,x7,x8,x9,x10,x11,x12,x13,x14,x15,x16,x17,_⟩:=qdc n0;clear n0 hal hp hp1 HH hpl;go_enter Tryz.func79,Tryz.ntmps79
 (go_wp2_with fail);refine(HC.out).mono ?_;rintro e w2 ⟨rfl,b2⟩;(go_wp2_with fail);go_ret
 exact⟨rfl,HA.out.trans (b2.mono HA.out.size)⟩
theorem want1_6 (x y:PepL) (r1 r2 q1 q2:Option Addr) (c1 c2 d1 d2:Nat) (t u sg:QY) (st su o R:Bool) (fr:Value) (a b er:Int) (p:Nat) (w:World) (hp:w.heap[p]? = some (.cells #[.string (qd x.ep),.slice r1 x.rel.length c1,.int .u8 x.c,.string (qd x.n),.bool x.b,.string (qd x.m),.bool x.d,.string (qd x.k),.slice q1 x.loc.length d1,.string t,.bool st] 59 (0,0)))
  (HH:∀ W,QE w.heap.size w W→Calls prog 158 #[.agg #[.string (qd x.ep),.slice r1 x.rel.length c1,.int .u8 x.c,.string (qd x.n),.bool x.b,.string (qd x.m),.bool x.d,.string (qd x.k),.slice q1 x.loc.length d1,.string t,.bool st],.agg #[.string (qd y.ep),.slice r2 y.rel.length c2,.int .u8 y.c,.string (qd y.n),.bool y.b,.string (qd y.m),.bool y.d,.string (qd y.k),.slice q2 y.loc.length d2,.string u,.bool su]] W fun e W'=>e=.returned (.bool R)∧QE W.heap.size W W') :
  Calls prog 79 #[.agg #[.string sg,fr,.func (.func 158) #[] #[],.bool o,.string (qd y.ep),.slice r2 y.rel.length c2,.int .u8 y.c,.string (qd y.n),.bool y.b,.string (qd y.m),.bool y.d,.string (qd y.k),.slice q2 y.loc.length d2,.string u,.bool su,.int .i64 a,.int .i64 b,.int .i64 er],.pointer (some ⟨p,0,none⟩)] w fun e w'=>e=.returned (.bool (!R))∧QE w.heap.size w w':=by
 have n0:=qbtk w (.cells #[.string sg,fr,.func (.func 158) #[] #[],.bool o,.string (qd y.ep),.slice r2 y.rel.length c2,.int .u8 y.c,.string (qd y.n),.bool y.b,.string (qd y.m),.bool y.d,.string (qd y.k),.slice q2 y.loc.length d2,.string u,.bool su,.int .i64 a,.int .i64 b,.int .i64 er] 61);have hal:QE w.heap.size w (w.alloc (.cells #[.string sg,fr,.func (.func 158) #[] #[],.bool o,.string (qd y.ep),.slice r2 y.rel.length c2,.int .u8 y.c,.string (qd y.n),.bool y.b,.string (qd y.m),.bool y.d,.string (qd y.k),.slice q2 y.loc.length d2,.string u,.bool su,.int .i64 a,.int .i64 b,.int .i64 er] 61)):=(qbtn _ w).alloc (qbtm _) _;have hpl:=(qbth.1 hp).1;have hp1:=(hal.block p hpl).trans hp;have HC:=qb (HH _ hal);have HA:=qb hal;obtain⟨s0,s1,s2,s3,s4,s5,s6,s7,s8,s9,s10,_⟩:=qh hp1;obtain⟨x0,x1,x2,x3,x4,x5,x6,x7,x8,x9,x10,x11,x12,x13,x14,x15,x16,x17,_⟩:=qdc n0;clear n0 hal hp hp1 HH hpl;go_enter Tryz.func79,Tryz.ntmps79
 (go_wp2_with fail);refine(HC.out).mono ?_;rintro e w2 ⟨rfl,b2⟩;(go_wp2_with fail);go_ret
 exact⟨rfl,HA.out.trans (b2.mono HA.out.size)⟩
theorem want1_7 (x y:PepL) (r1 r2 q1 q2:Option Addr) (c1 c2 d1 d2:Nat) (t u sg:QY) (st su o R:Bool) (fr:Value) (a b er:Int) (p:Nat) (w:World) (hp:w.heap[p]? = some (.cells #[.string (qd x.ep),.slice r1 x.rel.length c1,.int .u8 x.c,.string (qd x.n),.bool x.b,.string (qd x.m),.bool x.d,.string (qd x.k),.slice q1 x.loc.length d1,.string t,.bool st] 59 (0,0)))
  (HH:∀ W,QE w.heap.size w W→Calls prog 160 #[.agg #[.string (qd x.ep),.slice r1 x.rel.length c1,.int .u8 x.c,.string (qd x.n),.bool x.b,.string (qd x.m),.bool x.d,.string (qd x.k),.slice q1 x.loc.length d1,.string t,.bool st],.agg #[.string (qd y.ep),.slice r2 y.rel.length c2,.int .u8 y.c,.string (qd y.n),.bool y.b,.string (qd y.m),.bool y.d,.string (qd y.k),.slice q2 y.loc.length d2,.string u,.bool su]] W fun e W'=>e=.returned (.bool R)∧QE W.heap.size W W') :
  Calls prog 79 #[.agg #[.string sg,fr,.func (.func 160) #[] #[],.bool o,.string (qd y.ep),.slice r2 y.rel.length c2,.int .u8 y.c,.string (qd y.n),.bool y.b,.string (qd y.m),.bool y.d,.string (qd y.k),.slice q2 y.loc.length d2,.string u,.bool su,.int .i64 a,.int .i64 b,.int .i64 er],.pointer (some ⟨p,0,none⟩)] w fun e w'=>e=.returned (.bool (!R))∧QE w.heap.size w w':=by
 have n0:=qbtk w (.cells #[.string sg,fr,.func (.func 160) #[] #[],.bool o,.string (qd y.ep),.slice r2 y.rel.length c2,.int .u8 y.c,.string (qd y.n),.bool y.b,.string (qd y.m),.bool y.d,.string (qd y.k),.slice q2 y.loc.length d2,.string u,.bool su,.int .i64 a,.int .i64 b,.int .i64 er] 61);have hal:QE w.heap.size w (w.alloc (.cells #[.string sg,fr,.func (.func 160) #[] #[],.bool o,.string (qd y.ep),.slice r2 y.rel.length c2,.int .u8 y.c,.string (qd y.n),.bool y.b,.string (qd y.m),.bool y.d,.string (qd y.k),.slice q2 y.loc.length d2,.string u,.bool su,.int .i64 a,.int .i64 b,.int .i64 er] 61)):=(qbtn _ w).alloc (qbtm _) _;have hpl:=(qbth.1 hp).1;have hp1:=(hal.block p hpl).trans hp;have HC:=qb (HH _ hal);have HA:=qb hal;obtain⟨s0,s1,s2,s3,s4,s5,s6,s7,s8,s9,s10,_⟩:=qh hp1;obtain⟨x0,x1,x2,x3,x4,x5,x6,x7,x8,x9,x10,x11,x12,x13,x14,x15,x16,x17,_⟩:=qdc n0;clear n0 hal hp hp1 HH hpl;go_enter Tryz.func79,Tryz.ntmps79
 (go_wp2_with fail);refine(HC.out).mono ?_;rintro e w2 ⟨rfl,b2⟩;(go_wp2_with fail);go_ret
 exact⟨rfl,HA.out.trans (b2.mono HA.out.size)⟩
structure ClOK (c:Cl):Prop where
 k8:c.k<8
 tl:c.t.length≤256
 ver:c.k≠7→okP c.t=true∧c.x=ql (qk c.t)
 two:c.k=0→2≤c.x.rel.length
 pub:c.k≠1→c.k≠2→c.k≠7→pubB c.x=true
 bare:c.st=true→(c.k=1∨c.k=2)∧qff c.x=true
 txt:c.k=7→c.x=pep0∧badN c.t=c.t.length
theorem qsv {may:PepL→Bool} {u t:QB} {x:PepL} {st:Bool} (h:qbn may u=.ok x t st):okP u=true∧may (ql (qk u))=true∧x=ql (qk u)∧t=u∧st=false:=by
 unfold qbn at h;cases ho:okP u
 ·rw[ho,if_neg (by simp)]at h;cases h
 ·rw[ho,if_pos rfl]at h;split at h
  ·cases h;exact⟨rfl,by assumption,rfl,rfl,rfl⟩
  ·cases h
theorem qbjf:∀ l:QB,badN l≤l.length
 | []=>Nat.le_refl _
 | c::r=>by have:=qbjf r;unfold badN;split<;>simp<;>omega
theorem wdR_ok {k:Nat} (hk:k<8) {u t:QB} {x:PepL} {st:Bool} (hu:u.length≤256) (h:wdR k u=.ok x t st) (s e:Nat) (er:Int):ClOK ⟨k,x,t,st,s,e,er⟩:=by
 unfold wdR at h;split at h
 ·rename_i h0;obtain⟨h1,h2,h3,h4,h5⟩:=qsv h;simp only[Bool.and_eq_true,decide_eq_true_eq]at h2;subst h4 h5 h0;exact⟨hk,hu,fun _=>⟨h1,h3⟩,fun _=>(by dsimp only;rw[h3];omega),fun _ _ _=>(by dsimp only;rw[h3];exact h2.1),fun h=>(by cases h),fun h=>(by cases h)⟩
 ·rename_i h0;split at h
  ·rename_i h12;split at h
   ·cases hq:qbn qff (u.take (u.length-2))with
    | bad e2 p2=>rw[hq]at h;cases h
    | ok x2 t2 st2=>
     rw[hq]at h;cases h;obtain⟨h1,h2,h3,h4,h5⟩:=qsv hq;refine⟨hk,(by dsimp only;rw[h4,List.length_take];omega),fun _=>(by dsimp only;rw[h4];exact⟨h1,h3⟩),fun h=>absurd h h0,fun a b _=>(by rcases h12 with h12|h12<;>contradiction),fun _=>⟨h12,by dsimp only;rw[h3];exact h2⟩,fun h=>(by dsimp only at h;omega)⟩
   ·obtain⟨h1,h2,h3,h4,h5⟩:=qsv h;subst h4 h5;exact⟨hk,hu,fun _=>⟨h1,h3⟩,fun h=>absurd h h0,fun a b _=>(by rcases h12 with h12|h12<;>contradiction),fun h=>(by cases h),fun h=>(by dsimp only at h;omega)⟩
  ·rename_i h12;split at h
   ·rename_i h7;unfold qkr at h;split at h
    ·cases h
    ·rename_i hb;cases h;have:=qbjf u;exact⟨hk,hu,fun h=>absurd h7 h,fun h=>absurd h h0,fun _ _ h=>absurd h7 h,fun h=>(by cases h),fun _=>⟨rfl,by dsimp only;omega⟩⟩
   ·rename_i h7;obtain⟨h1,h2,h3,h4,h5⟩:=qsv h;subst h4 h5;exact⟨hk,hu,fun _=>⟨h1,h3⟩,fun h=>absurd h h0,fun _ _ _=>(by dsimp only;rw[h3];exact h2),fun h=>(by cases h),fun h=>absurd h h7⟩
theorem qbhm {l:QB} (hl:l.length≤256) {a:Nat} (h:(clP l a).er=0):ClOK (clP l a):=by
 have hop:=qhm (l.drop a) 8 (by omega)
 unfold clP at h ⊢;split
 ·rename_i h8;rw[if_pos h8]at h;exfalso;dsimp only at h;unfold misL at h;split at h<;>cases h
 ·rename_i h8;rw[if_neg h8]at h;have hk:(opGo (l.drop a) 8).1<8:=by omega
  generalize (opGo (l.drop a) 8).1=k at *;cases hr:rwL l k (skL l (a+(sgn k).length))with
  | mk R z=>
   rw[hr]at h;cases R with
   | bad er p=>
    exfalso;exact qbkn hr h
   | ok x t st=>
    dsimp only;unfold rwL at hr;split at hr
    ·cases hr
    ·cases hq:wdR k (seg l (skL l (a+(sgn k).length)) (skL l (a+(sgn k).length)+wdN (l.drop (skL l (a+(sgn k).length)))))with
     | bad er p=>rw[hq]at hr;cases hr
     | ok x2 t2 st2=>
      rw[hq]at hr;cases hr;exact wdR_ok hk (Nat.le_trans (qbbm l _ _) hl) hq _ _ _
theorem qbnh {l:QB} (hl:l.length≤256):∀ n a acc,(∀ c∈acc,ClOK c)→∀ c∈(pyGo l n a acc).2.2,ClOK c
 | 0,a,acc,h,c,hc=>by unfold pyGo at hc;cases hc
 | n + 1,a,acc,h,c,hc=>by
  unfold pyGo at hc;split at hc
  ·cases hc
  ·split at hc
   ·cases hc
   ·rename_i he;have he:(clP l (skL l a)).er=0:=Classical.not_not.1 he;have hall:∀ c∈acc++[clP l (skL l a)],ClOK c:=fun c hc=>by
     rcases List.mem_append.1 hc with hc|hc
     ·exact h c hc
     ·simp at hc;subst hc;exact qbhm hl he
    split at hc
    ·exact qbnh hl n _ _ hall c hc
    ·exact hall c hc
theorem qbbz (l:QB):∀ c∈(pyL l).2.2,ClOK c:=by
 unfold pyL;split
 ·intro c hc;cases hc
 ·rename_i hl;split
  ·intro c hc;cases hc
  ·exact qbnh (by omega) 33 0 [] (fun c hc=>by cases hc)
def qmd (c:Cl):Bool:=opB c.k&&preP c.x
def qlb (cs:List Cl) (u:QB):Bool:=
 okP u&&(!(preP (ql (qk u))&&!cs.any qmd)&&!cs.any (fun c=>!qfp c.k (ql (qk u)) u c.x c.t c.st))
set_option maxHeartbeats 4000000
set_option maxRecDepth 100000
theorem qbdw (x:PepL) (r1 q1:Option Addr) (c1 d1:Nat) (sg t:QY) (f g:Value) (o st:Bool) (a b er:Int) (w:World) (rr:qx w (.slice r1 x.rel.length c1) x.rel) (ll:qx w (.slice q1 x.loc.length d1) x.loc) :
  Calls Tryz.prog 46 #[.agg #[.string sg,f,g,.bool o,.string (qd x.ep),.slice r1 x.rel.length c1,.int .u8 x.c,.string (qd x.n),.bool x.b,.string (qd x.m),.bool x.d,.string (qd x.k),.slice q1 x.loc.length d1,.string t,.bool st,.int .i64 a,.int .i64 b,.int .i64 er]] w fun e w'=>e=.returned (.bool (o&&(x.c != 0||x.d)))∧Below w.heap.size w w':=by
 have PX9:=qb (fun W h1 h2=>qtd x r1 q1 c1 d1 W h1 h2);have n0:=World.alloc_heap_new w (.cells #[.string sg,f,g,.bool o,.string (qd x.ep),.slice r1 x.rel.length c1,.int .u8 x.c,.string (qd x.n),.bool x.b,.string (qd x.m),.bool x.d,.string (qd x.k),.slice q1 x.loc.length d1,.string t,.bool st,.int .i64 a,.int .i64 b,.int .i64 er] 61);have hb:Below w.heap.size w (w.alloc (.cells #[.string sg,f,g,.bool o,.string (qd x.ep),.slice r1 x.rel.length c1,.int .u8 x.c,.string (qd x.n),.bool x.b,.string (qd x.m),.bool x.d,.string (qd x.k),.slice q1 x.loc.length d1,.string t,.bool st,.int .i64 a,.int .i64 b,.int .i64 er] 61)):=(Below.refl _ w).alloc (Nat.le_refl _) _;have T1:=qb (rr.below hb);have T2:=qb (ll.below hb);obtain⟨V,hV⟩:∃ V,w.alloc (.cells #[.string sg,f,g,.bool o,.string (qd x.ep),.slice r1 x.rel.length c1,.int .u8 x.c,.string (qd x.n),.bool x.b,.string (qd x.m),.bool x.d,.string (qd x.k),.slice q1 x.loc.length d1,.string t,.bool st,.int .i64 a,.int .i64 b,.int .i64 er] 61)=V:=⟨_,rfl⟩;rw[hV]at n0 hb T1 T2;have hsz:w.heap.size<V.heap.size:=by rw[←hV];simp
 obtain⟨s0,s1,s2,s3,s4,s5,s6,s7,s8,s9,s10,s11,s12,s13,s14,s15,s16,s17,s_0,s_1,s_2,s_3,s_4,s_5,s_6,s_7,s_8,s_9,s_10,s_11,s_12,s_13,s_14,s_15,s_16,s_17⟩:=qdc n0;have N0:=qb n0;clear n0 rr ll;cases o
 ·go_enter Tryz.func46,Tryz.ntmps46
  (go_wp2_with fail);go_ret
  exact⟨rfl,hb⟩
 ·go_enter Tryz.func46,Tryz.ntmps46
  (go_wp2_with fail);refine(PX9.out _ T1.out T2.out).mono ?_;rintro e w5 ⟨rfl,b5⟩;(go_wp2_with fail);go_ret
  exact⟨by simp,hb.trans (b5.mono hb.size)⟩
set_option maxHeartbeats 8000000
set_option maxRecDepth 100000
theorem qbgw {A:Nat→Prop} (X:It) (w:World) (hT:TxC A w X):Calls Tryz.prog 46 #[.agg (clV X.1 X.2.1 X.2.2)] w fun e w'=>e=.returned (.bool (qmd X.1))∧Below w.heap.size w w':=by
 obtain⟨⟨k,y,u,su,s,e,er⟩,x2,x3⟩:=X;obtain⟨rb,lb,_,_⟩:=hT;dsimp only at rb lb;obtain⟨r2,c2,rfl,_⟩:=id rb;obtain⟨q2,d2,rfl,_⟩:=id lb;exact qbdw y r2 q2 c2 d2 _ _ _ _ (opB k) su _ _ _ w rb lb
theorem qxp {A:Nat→Prop} (X:It) (hX:ClOK X.1) (x:PepL) (r1 q1:Option Addr) (c1 d1:Nat) (t:QY) (st:Bool) (p:Nat) (w:World) (hT:TxC A w X) (hp:w.heap[p]? = some (.cells #[.string (qd x.ep),.slice r1 x.rel.length c1,.int .u8 x.c,.string (qd x.n),.bool x.b,.string (qd x.m),.bool x.d,.string (qd x.k),.slice q1 x.loc.length d1,.string t,.bool st] 59 (0,0)))
 (ra:qx w (.slice r1 x.rel.length c1) x.rel) (la:qx w (.slice q1 x.loc.length d1) x.loc) (hx:VerOK x) (hn:r1=none→c1=0) (ht:t.size≤maxLen) :
 Calls Tryz.prog 79 #[.agg (clV X.1 X.2.1 X.2.2),.pointer (some ⟨p,0,none⟩)] w fun e w'=>e=.returned (.bool (!qfp X.1.k x t.data.toList X.1.x X.1.t X.1.st))∧Below w.heap.size w w':=by
  obtain⟨⟨k,y,u,su,s,e,er⟩,x2,x3⟩:=X;obtain⟨rb,lb,cb,_⟩:=hT;dsimp only at rb lb cb hX ⊢;obtain⟨r2,c2,rfl,_⟩:=id rb;obtain⟨q2,d2,rfl,_⟩:=id lb;have hk:=hX.k8
  have hu:(qd u).size≤maxLen:=by
    have:=hX.tl;have e1:(qd u).size=u.length:=by rw[←qg,qj]
    unfold maxLen;dsimp only at this;omega
  have HH:∀ W,Below w.heap.size w W→Calls Tryz.prog (hoF k) #[.agg #[.string (qd x.ep),.slice r1 x.rel.length c1,.int .u8 x.c,.string (qd x.n),.bool x.b,.string (qd x.m),.bool x.d,.string (qd x.k),.slice q1 x.loc.length d1,.string t,.bool st],.agg #[.string (qd y.ep),.slice r2 y.rel.length c2,.int .u8 y.c,.string (qd y.n),.bool y.b,.string (qd y.m),.bool y.d,.string (qd y.k),.slice q2 y.loc.length d2,.string (qd u),.bool su]] W fun e W'=>e=.returned (.bool (qfp k x t.data.toList y u su))∧Below W.heap.size W W':=fun W hb=>by
    have:=qbrr k hk x y r1 r2 q1 q2 c1 c2 d1 d2 t (qd u) st su W (ra.below hb) (rb.below hb) (la.below hb) (lb.below hb) hx hn (fun h=>by have:=hX.ver h;dsimp only at this;rw[this.2];exact qtk this.1)
      (fun h=>by
        have h2:=hX.two h;dsimp only at h2;obtain⟨b,off,e1,_⟩:=rb.some (by omega)
        exact(cb _ _ _ (by rw[e1])).2) (fun h=>hX.two h) ht hu
    rwa [qj]at this
  match k,hk with
  | 0,_=>exact want1_0 x y r1 r2 q1 q2 c1 c2 d1 d2 t (qd u) (qd (sgn 0)) st su (opB 0) _ (fnV (rdF 0)) (s:Int) (e:Int) er p w hp HH
  | 1,_=>exact want1_1 x y r1 r2 q1 q2 c1 c2 d1 d2 t (qd u) (qd (sgn 1)) st su (opB 1) _ (fnV (rdF 1)) (s:Int) (e:Int) er p w hp HH
  | 2,_=>exact want1_2 x y r1 r2 q1 q2 c1 c2 d1 d2 t (qd u) (qd (sgn 2)) st su (opB 2) _ (fnV (rdF 2)) (s:Int) (e:Int) er p w hp HH
  | 3,_=>exact want1_3 x y r1 r2 q1 q2 c1 c2 d1 d2 t (qd u) (qd (sgn 3)) st su (opB 3) _ (fnV (rdF 3)) (s:Int) (e:Int) er p w hp HH
  | 4,_=>exact want1_4 x y r1 r2 q1 q2 c1 c2 d1 d2 t (qd u) (qd (sgn 4)) st su (opB 4) _ (fnV (rdF 4)) (s:Int) (e:Int) er p w hp HH
  | 5,_=>exact want1_5 x y r1 r2 q1 q2 c1 c2 d1 d2 t (qd u) (qd (sgn 5)) st su (opB 5) _ (fnV (rdF 5)) (s:Int) (e:Int) er p w hp HH
  | 6,_=>exact want1_6 x y r1 r2 q1 q2 c1 c2 d1 d2 t (qd u) (qd (sgn 6)) st su (opB 6) _ (fnV (rdF 6)) (s:Int) (e:Int) er p w hp HH
  | 7,_=>exact want1_7 x y r1 r2 q1 q2 c1 c2 d1 d2 t (qd u) (qd (sgn 7)) st su (opB 7) _ (fnV (rdF 7)) (s:Int) (e:Int) er p w hp HH
theorem want_any (Z:Nat) (v:Value) (its:List It) (s:QY) (w:World) (hv:ClsV Z w v its) (hl:its.length≤33) (hok:∀ x∈its,ClOK x.1) (hs:s.size≤140737488351232) :
  Calls Tryz.prog 49 #[v,.string s] w fun e w'=>e=.returned (.bool (qlb (its.map Prod.fst) s.data.toList))∧Below w.heap.size w w':=by
 obtain⟨a,c,rfl,_⟩:=hv.at_;have HV:=qb hv;have HOK:=qb hok;clear hv hok;cases ho:okP s.data.toList
 ·have RV:=qb (fun W=>qft s W hs ho);have HR:Hid (qlb (its.map Prod.fst) s.data.toList=false):=qb (by unfold qlb;rw[ho];rfl)
  have hq:qbn (fun _=>true) s.data.toList=.bad (errX s.data.toList).1 (errX s.data.toList).2:=by unfold qbn;rw[ho];rfl
  rw[hq]at RV;generalize (errX s.data.toList).1=e1 at *;generalize (errX s.data.toList).2=p1 at *;clear ho hq;go_enter Tryz.func49,Tryz.ntmps49
  (go_wp2_with fail);refine(RV.out _).mono ?_;rintro e w1 ⟨b1,hne,st,rfl⟩;unfold zerV;obtain⟨V,hV,n1,n2,bV,sV⟩:=qm w1 #[.string ⟨#[]⟩,.slice none 0 0,.int .u8 0,.string ⟨#[]⟩,.bool false,.string ⟨#[]⟩,.bool false,.string ⟨#[]⟩,.slice none 0 0,.string ⟨#[]⟩,.bool st] #[.int .i64 e1,.int .i64 (p1:Int)] 59 25;obtain⟨u0,u1,_⟩:=qv n2;have m1:(e1 != 0)=true:=by simpa using hne
  have m2:(e1==0)=false:=by simpa using hne
  have HB:=qb (b1.trans (bV.mono b1.size));have HVV:=qb hV;clear n1 n2 bV sV hV b1 hne;go_upto_region 2 with fail
  rw[HVV.out];(go_wp2_with fail);go_ret
  exact⟨by rw[HR.out];rfl,HB.out⟩
 ·have RV:=qb (fun W=>qfw s W ho);have hx:=qtk ho;have HR:Hid (qlb (its.map Prod.fst) s.data.toList=(!(preP (ql (qk s.data.toList))&&!its.any (fun x=>qmd x.1))&&!its.any (fun x=>!qfp x.1.k (ql (qk s.data.toList)) s.data.toList x.1.x x.1.t x.1.st))):=qb (by unfold qlb;rw[ho,Bool.true_and,List.any_map,List.any_map];rfl)
  have hq:qbn (fun _=>true) s.data.toList=.ok (ql (qk s.data.toList)) s.data.toList false:=by unfold qbn;rw[ho];rfl
  rw[hq]at RV;generalize ql (qk s.data.toList)=x at *;clear ho hq;rw[HR.out];go_enter Tryz.func49,Tryz.ntmps49
  (go_wp2_with fail);refine(RV.out _).mono ?_;rintro e w1 ⟨b1,vr,vl,rfl,t1,t2,fr1,fr2⟩;obtain⟨r1,c1,rfl,_⟩:=id t1;obtain⟨q1,d1,rfl,_⟩:=id t2;unfold verV;obtain⟨V,hV,n1,n2,bV,sV⟩:=qm w1 #[.string (qd x.ep),.slice r1 x.rel.length c1,.int .u8 x.c,.string (qd x.n),.bool x.b,.string (qd x.m),.bool x.d,.string (qd x.k),.slice q1 x.loc.length d1,.string (qd s.data.toList),.bool false] #[.int .i64 0,.int .i64 0] 59 25;obtain⟨u0,u1,_⟩:=qv n2;obtain⟨s0,s1,s2,s3,s4,s5,s6,s7,s8,s9,s10,_⟩:=qh n1;have HBW:=qb (b1.trans (bV.mono b1.size));have T1:=qb (t1.below bV);have T2:=qb (t2.below bV);have HN1:=qb n1;have HVV:=qb ((HV.out.below b1).below bV);have HVW:=qb hV;have hsz1:w1.heap.size<V.heap.size:=by omega
  have hne:=hx.fit.f2;have hno:Hid (r1=none→c1=0):=qb fun h=>by
   obtain⟨b,off,e1,_⟩:=t1.some (List.length_pos_iff.2 hne);rw[h]at e1;cases e1
  replace hx:=qb hx;have PR:=qb (qtd x r1 q1 c1 d1 V T1.out T2.out);clear n1 n2 bV sV hV b1 t1 t2 fr1 fr2 hne
  change Hid (Calls Tryz.prog 77 _ V fun e w'=>e=.returned (.bool (preP x))∧Below V.heap.size V w')at PR
  cases hp:preP x
  ·rw [hp]at PR;have HP:=qb hp;clear hp;go_upto_region 2 with fail
   rw [HVW.out];(go_wp2_with fail);refine(PR.out).mono ?_;rintro e w5 ⟨rfl,b5⟩;have B5:=qb b5;clear b5;have HVw5:=qb (HVV.out.below B5.out);have CF:=qb (qlt (fun X=>!qfp X.1.k x s.data.toList X.1.x X.1.t X.1.st) w1.heap.size Z _ its w5 HVw5.out hl (fun X hX W hb hT=>by
    obtain⟨A,hT⟩:=hT;have:=qxp X (HOK.out X hX) x r1 q1 c1 d1 (qd s.data.toList) false w1.heap.size W hT (((B5.out.trans (hb.mono B5.out.size)).block _ hsz1).trans HN1.out) (T1.out.below (B5.out.trans (hb.mono B5.out.size))) (T2.out.below (B5.out.trans (hb.mono B5.out.size))) hx.out (hno.out) (by rw[qdb];unfold maxLen;omega)
    rw[qdb]at this;exact this))
   (go_wp2_with fail);refine(CF.out).mono ?_;rintro e w7 ⟨rfl,b7⟩;have HBB:=qb (HBW.out.trans ((B5.out.trans (b7.mono B5.out.size)).mono HBW.out.size));(go_wp2_with fail);go_ret
   exact⟨by rw[HP.out];rfl,HBB.out⟩
  ·rw [hp]at PR;have HP:=qb hp;clear hp;cases ha:its.any (fun X=>qmd X.1)
   ·go_upto_region 2 with fail
    rw[HVW.out];(go_wp2_with fail);refine(PR.out).mono ?_;rintro e w5 ⟨rfl,b5⟩;have CL:=qb (qlw (fun X=>qmd X.1) Z _ its w5 (HVV.out.below b5) hl (fun X hX W hb hT=>by obtain⟨A,hT⟩:=hT;exact qbgw X W hT))
    rw[ha]at CL;have HA:=qb ha;(go_wp2_with fail);refine(CL.out).mono ?_;rintro e w6 ⟨rfl,b6⟩;have HBB:=qb (HBW.out.trans ((b5.trans (b6.mono b5.size)).mono HBW.out.size));(go_wp2_with fail);go_ret
    exact⟨by rw[HP.out,HA.out];rfl,HBB.out⟩
   ·go_upto_region 2 with fail
    rw[HVW.out];(go_wp2_with fail);refine(PR.out).mono ?_;rintro e w5 ⟨rfl,b5⟩;have CL:=qb (qlw (fun X=>qmd X.1) Z _ its w5 (HVV.out.below b5) hl (fun X hX W hb hT=>by obtain⟨A,hT⟩:=hT;exact qbgw X W hT))
    rw [ha]at CL;have HA:=qb ha;(go_wp2_with fail);refine(CL.out).mono ?_;rintro e w6 ⟨rfl,b6⟩;have B6:=qb (b5.trans (b6.mono b5.size));clear b5 b6 ha;have HVw6:=qb (HVV.out.below B6.out);have CF:=qb (qlt (fun X=>!qfp X.1.k x s.data.toList X.1.x X.1.t X.1.st) w1.heap.size Z _ its w6 HVw6.out hl (fun X hX W hb hT=>by
     obtain⟨A,hT⟩:=hT;have:=qxp X (HOK.out X hX) x r1 q1 c1 d1 (qd s.data.toList) false w1.heap.size W hT (((B6.out.trans (hb.mono B6.out.size)).block _ hsz1).trans HN1.out) (T1.out.below (B6.out.trans (hb.mono B6.out.size))) (T2.out.below (B6.out.trans (hb.mono B6.out.size))) hx.out (hno.out) (by rw[qdb];unfold maxLen;omega)
     rw[qdb]at this;exact this))
    (go_wp2_with fail);refine(CF.out).mono ?_;rintro e w7 ⟨rfl,b7⟩;have HBB:=qb (HBW.out.trans ((B6.out.trans (b7.mono B6.out.size)).mono HBW.out.size));(go_wp2_with fail);go_ret
    exact⟨by rw[HP.out,HA.out];rfl,HBB.out⟩
end Go.Proofs.YtabmfdedbpmfmaaGreat
