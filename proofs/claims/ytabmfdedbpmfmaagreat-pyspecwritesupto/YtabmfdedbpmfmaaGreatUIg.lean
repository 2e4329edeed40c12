/- Plain: the chapter's examples. -/
import Derived.Test.YtabmfdedbpmfmaaGreatUYc
import Derived.Test.YtabmfdedbpmfmaaGreatUGp
import Derived.Test.YtabmfdedbpmfmaaGreatUZe
import Derived.Test.YtabmfdedbpmfmaaGreatUGy
import Derived.Test.YtabmfdedbpmfmaaGreatUGlb
import Derived.Test.YtabmfdedbpmfmaaGreatUGhb
import Derived.Deep.Cut
import Derived.Test.YtabmfdedbpmfmaaGreatUGf
namespace Go.Proofs.YtabmfdedbpmfmaaGreat
open Go.RowKit Go.Shelf
open Nat renaming zero_le → qbsf
set_option linter.unusedVariables false
def hpub (x:PepL):PepL:=⟨x.ep,x.rel,x.c,x.n,x.b,x.m,x.d,x.k,[]⟩
def qfw (x:PepL):PepL:=⟨x.ep,x.rel,0,[],false,[],false,[],[]⟩
structure VerOK (x:PepL):Prop where
 small:SmallP x
 fit:FitT x
 len:x.rel.length≤65
theorem qnz {l:QB} (h:okP l=true):VerOK (qm (qk l)):=by
 have h1:(qk l).length≤64:=by rw[qlq];exact(low_ok h).2
 exact⟨qrs _ h1,ok_fit h,(qbmc _ h1).r.1⟩
theorem VerOK.pub {x:PepL} (h:VerOK x):SmallP (hpub x)∧FitT (hpub x):=
 ⟨⟨h.small.e,h.small.n,h.small.m,h.small.k,h.small.r,⟨qbsf _,fun t ht=>by cases ht⟩,h.small.rI,qbsf _⟩,⟨h.fit.f1,h.fit.f2,h.fit.f3,h.fit.f4,h.fit.f5,h.fit.f6,h.fit.f7,rfl⟩⟩
theorem VerOK.base {x:PepL} (h:VerOK x):SmallP (qfw x)∧FitT (qfw x):=
 ⟨⟨h.small.e,qbsf _,qbsf _,qbsf _,h.small.r,⟨qbsf _,fun t ht=>by cases ht⟩,h.small.rI,qbsf _⟩,⟨h.fit.f1,h.fit.f2,h.fit.f3,.inl rfl,rfl,rfl,rfl,rfl⟩⟩
def preP (x:PepL):Bool:=x.c != 0||x.d
def qwn (x y:PepL):Bool:=ordP (qfw x) (qfw y)==0
def eqP (x y:PepL) (su:Bool):Bool:=if su=true then begB x.ep x.rel y.ep y.rel else if pubB y=true then ordP (hpub x) y==0 else ordP x y==0
def qft (k:Nat) (x:PepL) (t:QB) (y:PepL) (u:QB) (su:Bool):Bool:=
 match k with
 | 0=>decide (0≤ordP (hpub x) y)&&begB x.ep x.rel y.ep y.rel.dropLast
 | 1=>eqP x y su
 | 2=>!eqP x y su
 | 3=>decide (ordP (hpub x) y≤0)
 | 4=>decide (0≤ordP (hpub x) y)
 | 5=>!(qwn x y&&preP x&&!preP y)&&decide (ordP x y<0)
 | 6=>!(qwn x y&&(!pubB x||x.b&&!y.b))&&decide (0<ordP x y)
 | _=>t.map lowC==u.map lowC
theorem qbbb (x y:PepL) (r1 r2 q1 q2:Option Addr) (c1 c2 d1 d2:Nat) (t u:QY) (st su:Bool) (w:World) (ra:qz w (.slice r1 x.rel.length c1) x.rel) (rb:qz w (.slice r2 y.rel.length c2) y.rel) (la:qz w (.slice q1 x.loc.length d1) x.loc) (lb:qz w (.slice q2 y.loc.length d2) y.loc) (hx:VerOK x) (hy:VerOK y) (hn:r1=none→c1=0) :
 Calls Tryz.prog 175 #[.agg #[.string (qd x.ep),.slice r1 x.rel.length c1,.int .u8 x.c,.string (qd x.n),.bool x.b,.string (qd x.m),.bool x.d,.string (qd x.k),.slice q1 x.loc.length d1,.string t,.bool st],.agg #[.string (qd y.ep),.slice r2 y.rel.length c2,.int .u8 y.c,.string (qd y.n),.bool y.b,.string (qd y.m),.bool y.d,.string (qd y.k),.slice q2 y.loc.length d2,.string u,.bool su]] w fun e W'=>e=.returned (.int .i64 (ordP (hpub x) y))∧Below w.heap.size w W':=
  qsm x y r1 r2 q1 q2 c1 c2 d1 d2 t u st su w ra rb la lb (ordP (hpub x) y)
    (fun W h1 h2=>(qbmb x r1 q1 c1 d1 W h1 h2 (by have:=hx.len;omega) hn).mono fun e w' h=>by
      obtain⟨v',rfl,ho,hb⟩:=h;obtain⟨a,k,rfl,_⟩:=qpx ho;exact⟨a,k,rfl,qmv ho,hb⟩)
    (fun a k W h1 h2 h3=>qqm (hpub x) y a r2 none q2 k c2 0 d2 W h1 h2 ⟨none,0,rfl,.inl rfl⟩ h3 hx.pub.1 hy.small hx.pub.2 hy.fit)
theorem SB_any (x y:PepL) (r1 r2 q1 q2:Option Addr) (c1 c2 d1 d2:Nat) (t u:QY) (st su:Bool) (w:World) (ra:qz w (.slice r1 x.rel.length c1) x.rel) (rb:qz w (.slice r2 y.rel.length c2) y.rel) (la:qz w (.slice q1 x.loc.length d1) x.loc) (lb:qz w (.slice q2 y.loc.length d2) y.loc) (hx:VerOK x) (hy:VerOK y) :
  Calls Tryz.prog 177 #[.agg #[.string (qd x.ep),.slice r1 x.rel.length c1,.int .u8 x.c,.string (qd x.n),.bool x.b,.string (qd x.m),.bool x.d,.string (qd x.k),.slice q1 x.loc.length d1,.string t,.bool st],.agg #[.string (qd y.ep),.slice r2 y.rel.length c2,.int .u8 y.c,.string (qd y.n),.bool y.b,.string (qd y.m),.bool y.d,.string (qd y.k),.slice q2 y.loc.length d2,.string u,.bool su]] w fun e W'=>e=.returned (.bool (qwn x y))∧Below w.heap.size w W':=
 qbbs x y r1 r2 q1 q2 c1 c2 d1 d2 t u st su w ra rb la lb (ordP (qfw x) (qfw y))
  (fun W h1 h2=>qqm (qfw x) (qfw y) r1 r2 none none c1 c2 0 0 W h1 h2 ⟨none,0,rfl,.inl rfl⟩ ⟨none,0,rfl,.inl rfl⟩ hx.base.1 hy.base.1 hx.base.2 hy.base.2)
theorem qbjt (x y:PepL) (r1 r2 q1 q2:Option Addr) (c1 c2 d1 d2:Nat) (w:World) (ra:qz w (.slice r1 x.rel.length c1) x.rel) (rb:qz w (.slice r2 y.rel.length c2) y.rel) (la:qz w (.slice q1 x.loc.length d1) x.loc) (lb:qz w (.slice q2 y.loc.length d2) y.loc) (hx:VerOK x) (hy:VerOK y) :
  Calls Tryz.prog 176 #[.agg #[.string (qd x.ep),.slice r1 x.rel.length c1,.int .u8 x.c,.string (qd x.n),.bool x.b,.string (qd x.m),.bool x.d,.string (qd x.k),.slice q1 x.loc.length d1],.agg #[.string (qd y.ep),.slice r2 y.rel.length c2,.int .u8 y.c,.string (qd y.n),.bool y.b,.string (qd y.m),.bool y.d,.string (qd y.k),.slice q2 y.loc.length d2]] w fun e W'=>e=.returned (.int .i64 (ordP x y))∧Below w.heap.size w W':=
 qqm x y r1 r2 q1 q2 c1 c2 d1 d2 w ra rb la lb hx.small hy.small hx.fit hy.fit
theorem BG_any (x:PepL) (ep:QB) (rs:List QB) (r1 q1 r2:Option Addr) (c1 d1 c2:Nat) (v2 v3 v4 v5 v6 v7 v8:Value) (w:World) (ra:qz w (.slice r1 x.rel.length c1) x.rel) (rb:qz w (.slice r2 rs.length c2) rs) (hx:VerOK x) (hl:rs.length≤65) :
  Calls Tryz.prog 172 #[.agg #[.string (qd x.ep),.slice r1 x.rel.length c1,.int .u8 x.c,.string (qd x.n),.bool x.b,.string (qd x.m),.bool x.d,.string (qd x.k),.slice q1 x.loc.length d1],.agg #[.string (qd ep),.slice r2 rs.length c2,v2,v3,v4,v5,v6,v7,v8]] w fun e w'=>e=.returned (.bool (begB x.ep x.rel ep rs))∧Below w.heap.size w w':=by
 obtain⟨g,o,rfl,_⟩:=ra.some (List.length_pos_iff.2 hx.fit.f2);exact qbkz x ep rs g o c1 d1 c2 q1 r2 v2 v3 v4 v5 v6 v7 v8 w ra hx.fit.f2 rb (by have:=hx.len;omega) (by omega)
theorem EQ_any (x y:PepL) (r1 r2 q1 q2:Option Addr) (c1 c2 d1 d2:Nat) (t u:QY) (st su:Bool) (w:World) (ra:qz w (.slice r1 x.rel.length c1) x.rel) (rb:qz w (.slice r2 y.rel.length c2) y.rel) (la:qz w (.slice q1 x.loc.length d1) x.loc) (lb:qz w (.slice q2 y.loc.length d2) y.loc) (hx:VerOK x) (hy:VerOK y) (hn:r1=none→c1=0) :
  Calls Tryz.prog 152 #[.agg #[.string (qd x.ep),.slice r1 x.rel.length c1,.int .u8 x.c,.string (qd x.n),.bool x.b,.string (qd x.m),.bool x.d,.string (qd x.k),.slice q1 x.loc.length d1,.string t,.bool st],.agg #[.string (qd y.ep),.slice r2 y.rel.length c2,.int .u8 y.c,.string (qd y.n),.bool y.b,.string (qd y.m),.bool y.d,.string (qd y.k),.slice q2 y.loc.length d2,.string u,.bool su]] w fun e W'=>e=.returned (.bool (eqP x y su))∧Below w.heap.size w W':=
 qbrb x y r1 r2 q1 q2 c1 c2 d1 d2 t u st su w ra rb la lb (begB x.ep x.rel y.ep y.rel) (ordP (hpub x) y) (ordP x y)
  (fun W h1 h2 h3 h4=>BG_any x y.ep y.rel r1 q1 r2 c1 d1 c2 _ _ _ _ _ _ _ W h1 h2 hx hy.len)
  (fun W h1 h2 h3 h4=>qbbb x y r1 r2 q1 q2 c1 c2 d1 d2 t u st su W h1 h2 h3 h4 hx hy hn)
  (fun W h1 h2 h3 h4=>qbjt x y r1 r2 q1 q2 c1 c2 d1 d2 W h1 h2 h3 h4 hx hy)
theorem qzb (k:Nat) (hk:k<8) (x y:PepL) (r1 r2 q1 q2:Option Addr) (c1 c2 d1 d2:Nat) (t u:QY) (st su:Bool) (w:World) (ra:qz w (.slice r1 x.rel.length c1) x.rel) (rb:qz w (.slice r2 y.rel.length c2) y.rel) (la:qz w (.slice q1 x.loc.length d1) x.loc) (lb:qz w (.slice q2 y.loc.length d2) y.loc) (hx:VerOK x) (hn:r1=none→c1=0) (hy:k≠7→VerOK y) (hc2:k=0→y.rel.length≤c2) (h2:k=0→2≤y.rel.length) (ht:t.size≤maxLen) (hu:u.size≤maxLen) :
  Calls Tryz.prog (hoF k) #[.agg #[.string (qd x.ep),.slice r1 x.rel.length c1,.int .u8 x.c,.string (qd x.n),.bool x.b,.string (qd x.m),.bool x.d,.string (qd x.k),.slice q1 x.loc.length d1,.string t,.bool st],.agg #[.string (qd y.ep),.slice r2 y.rel.length c2,.int .u8 y.c,.string (qd y.n),.bool y.b,.string (qd y.m),.bool y.d,.string (qd y.k),.slice q2 y.loc.length d2,.string u,.bool su]] w fun e W'=>e=.returned (.bool (qft k x t.data.toList y u.data.toList su))∧Below w.heap.size w W':=by
 match k,hk with
 | 0, _=>
  have hy:=hy (by decide)
  have hc2:=hc2 rfl;have h2:=h2 rfl;obtain⟨b2,o2,rfl,_⟩:=rb.some (by omega)
  obtain⟨n,hn1⟩:∃ n,y.rel.length=n+1:=⟨y.rel.length-1,by omega⟩
  have hdl:y.rel.dropLast.length=n:=by rw[List.length_dropLast];omega
  refine qtj x y r1 q1 q2 b2 o2 c1 c2 d1 d2 t u st su w ra rb la lb n hn1 (by omega) (by have:=hy.len;omega) (decide (0≤ordP (hpub x) y)) (begB x.ep x.rel y.ep y.rel.dropLast) ?_ ?_
  ·exact fun W h1 h2 h3 h4=>qbgz x y r1 _ q1 q2 c1 c2 d1 d2 t u st su W h1 h2 h3 h4 (ordP (hpub x) y) (fun W h1 h2 h3 h4=>qbbb x y r1 _ q1 q2 c1 c2 d1 d2 t u st su W h1 h2 h3 h4 hx hy hn)
  ·intro W h1 h2 h3 h4;have hT:qz W (.slice (some ⟨b2,o2,none⟩) n c2) y.rel.dropLast:=by
    obtain⟨a,cap,e,h0|⟨b,off,e2,hlt,hc⟩⟩:=h2
    ·rw[h0]at hn1;cases hn1
    ·cases e;cases e2;refine⟨_,c2,by rw[hdl],.inr ⟨b2,o2,rfl,hlt,fun i hi=>?_⟩⟩
     rw[List.getElem_dropLast];exact hc i (by omega)
   rw[←hdl]at hT ⊢;exact BG_any x y.ep y.rel.dropLast r1 q1 _ c1 d1 c2 _ _ _ _ _ _ _ W h1 hT hx (by have:=hy.len;omega)
 | 1,_=>exact EQ_any x y r1 r2 q1 q2 c1 c2 d1 d2 t u st su w ra rb la lb hx (hy (by decide)) hn
 | 2,_=>exact qbhz x y r1 r2 q1 q2 c1 c2 d1 d2 t u st su w ra rb la lb (eqP x y su) (fun W h1 h2 h3 h4=>EQ_any x y r1 r2 q1 q2 c1 c2 d1 d2 t u st su W h1 h2 h3 h4 hx (hy (by decide)) hn)
 | 3,_=>exact upTo_any x y r1 r2 q1 q2 c1 c2 d1 d2 t u st su w ra rb la lb (ordP (hpub x) y) (fun W h1 h2 h3 h4=>qbbb x y r1 r2 q1 q2 c1 c2 d1 d2 t u st su W h1 h2 h3 h4 hx (hy (by decide)) hn)
 | 4,_=>exact qbgz x y r1 r2 q1 q2 c1 c2 d1 d2 t u st su w ra rb la lb (ordP (hpub x) y) (fun W h1 h2 h3 h4=>qbbb x y r1 r2 q1 q2 c1 c2 d1 d2 t u st su W h1 h2 h3 h4 hx (hy (by decide)) hn)
 | 5,_=>exact less_any x y r1 r2 q1 q2 c1 c2 d1 d2 t u st su w ra rb la lb (qwn x y) (ordP x y) (fun W h1 h2 h3 h4=>SB_any x y r1 r2 q1 q2 c1 c2 d1 d2 t u st su W h1 h2 h3 h4 hx (hy (by decide))) (fun W h1 h2 h3 h4=>qbjt x y r1 r2 q1 q2 c1 c2 d1 d2 W h1 h2 h3 h4 hx (hy (by decide)))
 | 6,_=>exact more_any x y r1 r2 q1 q2 c1 c2 d1 d2 t u st su w ra rb la lb (qwn x y) (ordP x y) (fun W h1 h2 h3 h4=>SB_any x y r1 r2 q1 q2 c1 c2 d1 d2 t u st su W h1 h2 h3 h4 hx (hy (by decide))) (fun W h1 h2 h3 h4=>qbjt x y r1 r2 q1 q2 c1 c2 d1 d2 W h1 h2 h3 h4 hx (hy (by decide)))
 | 7,_=>exact qbdd x y r1 r2 q1 q2 c1 c2 d1 d2 t u st su w ra rb la lb ht hu
open _root_.Array renaming getElem?_eq_some_iff → qbsp
open Below renaming refl → qbsv
open Nat renaming le_refl → qbst
open World renaming alloc_heap_new → qbsr
open Go.RowKit renaming Below → QE
open Go.Proofs.Tryz (prog)
set_option maxHeartbeats 4000000
set_option maxRecDepth 100000
theorem want1_0 (x y:PepL) (r1 r2 q1 q2:Option Addr) (c1 c2 d1 d2:Nat) (t u sg:QY) (st su o R:Bool) (fr:Value) (a b er:Int) (p:Nat) (w:World) (hp:w.heap[p]? = some (.cells #[.string (qd x.ep),.slice r1 x.rel.length c1,.int .u8 x.c,.string (qd x.n),.bool x.b,.string (qd x.m),.bool x.d,.string (qd x.k),.slice q1 x.loc.length d1,.string t,.bool st] 59 (0,0)))
  (HH:∀ W,QE w.heap.size w W→Calls prog 150 #[.agg #[.string (qd x.ep),.slice r1 x.rel.length c1,.int .u8 x.c,.string (qd x.n),.bool x.b,.string (qd x.m),.bool x.d,.string (qd x.k),.slice q1 x.loc.length d1,.string t,.bool st],.agg #[.string (qd y.ep),.slice r2 y.rel.length c2,.int .u8 y.c,.string (qd y.n),.bool y.b,.string (qd y.m),.bool y.d,.string (qd y.k),.slice q2 y.loc.length d2,.string u,.bool su]] W fun e W'=>e=.returned (.bool R)∧QE W.heap.size W W') :
  Calls prog 79 #[.agg #[.string sg,fr,.func (.func 150) #[] #[],.bool o,.string (qd y.ep),.slice r2 y.rel.length c2,.int .u8 y.c,.string (qd y.n),.bool y.b,.string (qd y.m),.bool y.d,.string (qd y.k),.slice q2 y.loc.length d2,.string u,.bool su,.int .i64 a,.int .i64 b,.int .i64 er],.pointer (some ⟨p,0,none⟩)] w fun e w'=>e=.returned (.bool (!R))∧QE w.heap.size w w':=by
 have n0:=qbsr w (.cells #[.string sg,fr,.func (.func 150) #[] #[],.bool o,.string (qd y.ep),.slice r2 y.rel.length c2,.int .u8 y.c,.string (qd y.n),.bool y.b,.string (qd y.m),.bool y.d,.string (qd y.k),.slice q2 y.loc.length d2,.string u,.bool su,.int .i64 a,.int .i64 b,.int .i64 er] 61);have hal:QE w.heap.size w (w.alloc (.cells #[.string sg,fr,.func (.func 150) #[] #[],.bool o,.string (qd y.ep),.slice r2 y.rel.length c2,.int .u8 y.c,.string (qd y.n),.bool y.b,.string (qd y.m),.bool y.d,.string (qd y.k),.slice q2 y.loc.length d2,.string u,.bool su,.int .i64 a,.int .i64 b,.int .i64 er] 61)):=(qbsv _ w).alloc (qbst _) _;have hpl:=(qbsp.1 hp).1;have hp1:=(hal.block p hpl).trans hp;have HC:=qb (HH _ hal);have HA:=qb hal;obtain⟨s0,s1,s2,s3,s4,s5,s6,s7,s8,s9,s10,_⟩:=qh hp1;obtain⟨x0,x1,x2,x3,x4,x5,x6,x7,x8,x9,x10,x11,x12,x13,x14,x15,x16,x17,_⟩:=qdc n0;clear n0 hal hp hp1 HH hpl;go_enter Tryz.func79,Tryz.ntmps79
 (go_wp2_with fail);refine(HC.out).mono ?_;rintro e w2 ⟨rfl,b2⟩;(go_wp2_with fail);go_ret
 exact⟨rfl,HA.out.trans (b2.mono HA.out.size)⟩
theorem want1_1 (x y:PepL) (r1 r2 q1 q2:Option Addr) (c1 c2 d1 d2:Nat) (t u sg:QY) (st su o R:Bool) (fr:Value) (a b er:Int) (p:Nat) (w:World) (hp:w.heap[p]? = some (.cells #[.string (qd x.ep),.slice r1 x.rel.length c1,.int .u8 x.c,.string (qd x.n),.bool x.b,.string (qd x.m),.bool x.d,.string (qd x.k),.slice q1 x.loc.length d1,.string t,.bool st] 59 (0,0)))
  (HH:∀ W,QE w.heap.size w W→Calls prog 152 #[.agg #[.string (qd x.ep),.slice r1 x.rel.length c1,.int .u8 x.c,.string (qd x.n),.bool x.b,.string (qd x.m),.bool x.d,.string (qd x.k),.slice q1 x.loc.length d1,.string t,.bool st],.agg #[.string (qd y.ep),.slice r2 y.rel.length c2,.int .u8 y.c,.string (qd y.n),.bool y.b,.string (qd y.m),.bool y.d,.string (qd y.k),.slice q2 y.loc.length d2,.string u,.bool su]] W fun e W'=>e=.returned (.bool R)∧QE W.heap.size W W') :
  Calls prog 79 #[.agg #[.string sg,fr,.func (.func 152) #[] #[],.bool o,.string (qd y.ep),.slice r2 y.rel.length c2,.int .u8 y.c,.string (qd y.n),.bool y.b,.string (qd y.m),.bool y.d,.string (qd y.k),.slice q2 y.loc.length d2,.string u,.bool su,.int .i64 a,.int .i64 b,.int .i64 er],.pointer (some ⟨p,0,none⟩)] w fun e w'=>e=.returned (.bool (!R))∧QE w.heap.size w w':=by
 have n0:=qbsr w (.cells #[.string sg,fr,.func (.func 152) #[] #[],.bool o,.string (qd y.ep),.slice r2 y.rel.length c2,.int .u8 y.c,.string (qd y.n),.bool y.b,.string (qd y.m),.bool y.d,.string (qd y.k),.slice q2 y.loc.length d2,.string u,.bool su,.int .i64 a,.int .i64 b,.int .i64 er] 61);have hal:QE w.heap.size w (w.alloc (.cells #[.string sg,fr,.func (.func 152) #[] #[],.bool o,.string (qd y.ep),.slice r2 y.rel.length c2,.int .u8 y.c,.string (qd y.n),.bool y.b,.string (qd y.m),.bool y.d,.string (qd y.k),.slice q2 y.loc.length d2,.string u,.bool su,.int .i64 a,.int .i64 b,.int .i64 er] 61)):=(qbsv _ w).alloc (qbst _) _;have hpl:=(qbsp.1 hp).1;have hp1:=(hal.block p hpl).trans hp;have HC:=qb (HH _ hal);have HA:=qb hal;obtain⟨s0,s1,s2,s3,s4,s5,s6,s7,s8,s9,s10,_⟩:=qh hp1;obtain⟨x0,x1,x2,x3,x4,x5,x6,x7,x8,x9,x10,x11,x12,x13,x14,x15,x16,x17,_⟩:=qdc n0;clear n0 hal hp hp1 HH hpl;go_enter Tryz.func79,Tryz.ntmps79
 (go_wp2_with fail);refine(HC.out).mono ?_;rintro e w2 ⟨rfl,b2⟩;(go_wp2_with fail);go_ret
 exact⟨rfl,HA.out.trans (b2.mono HA.out.size)⟩
theorem want1_2 (x y:PepL) (r1 r2 q1 q2:Option Addr) (c1 c2 d1 d2:Nat) (t u sg:QY) (st su o R:Bool) (fr:Value) (a b er:Int) (p:Nat) (w:World) (hp:w.heap[p]? = some (.cells #[.string (qd x.ep),.slice r1 x.rel.length c1,.int .u8 x.c,.string (qd x.n),.bool x.b,.string (qd x.m),.bool x.d,.string (qd x.k),.slice q1 x.loc.length d1,.string t,.bool st] 59 (0,0)))
  (HH:∀ W,QE w.heap.size w W→Calls prog 153 #[.agg #[.string (qd x.ep),.slice r1 x.rel.length c1,.int .u8 x.c,.string (qd x.n),.bool x.b,.string (qd x.m),.bool x.d,.string (qd x.k),.slice q1 x.loc.length d1,.string t,.bool st],.agg #[.string (qd y.ep),.slice r2 y.rel.length c2,.int .u8 y.c,.string (qd y.n),.bool y.b,.string (qd y.m),.bool y.d,.string (qd y.k),.slice q2 y.loc.length d2,.string u,.bool su]] W fun e W'=>e=.returned (.bool R)∧QE W.heap.size W W') :
  Calls prog 79 #[.agg #[.string sg,fr,.func (.func 153) #[] #[],.bool o,.string (qd y.ep),.slice r2 y.rel.length c2,.int .u8 y.c,.string (qd y.n),.bool y.b,.string (qd y.m),.bool y.d,.string (qd y.k),.slice q2 y.loc.length d2,.string u,.bool su,.int .i64 a,.int .i64 b,.int .i64 er],.pointer (some ⟨p,0,none⟩)] w fun e w'=>e=.returned (.bool (!R))∧QE w.heap.size w w':=by
 have n0:=qbsr w (.cells #[.string sg,fr,.func (.func 153) #[] #[],.bool o,.string (qd y.ep),.slice r2 y.rel.length c2,.int .u8 y.c,.string (qd y.n),.bool y.b,.string (qd y.m),.bool y.d,.string (qd y.k),.slice q2 y.loc.length d2,.string u,.bool su,.int .i64 a,.int .i64 b,.int .i64 er] 61);have hal:QE w.heap.size w (w.alloc (.cells #[.string sg,fr,.func (.func 153) #[] #[],.bool o,.string (qd y.ep),.slice r2 y.rel.length c2,.int .u8 y.c,.string (qd y.n),.bool y.b,.string (qd y.m),.bool y.d,.string (qd y.k),.slice q2 y.loc.length d2,.string u,.bool su,.int .i64 a,.int .i64 b,.int .i64 er] 61)):=(qbsv _ w).alloc (qbst _) _;have hpl:=(qbsp.1 hp).1;have hp1:=(hal.block p hpl).trans hp;have HC:=qb (HH _ hal);have HA:=qb hal;obtain⟨s0,s1,s2,s3,s4,s5,s6,s7,s8,s9,s10,_⟩:=qh hp1;obtain⟨x0,x1,x2,x3,x4,x5,x6,x7,x8,x9,x10,x11,x12,x13,x14,x15,x16,x17,_⟩:=qdc n0;clear n0 hal hp hp1 HH hpl;go_enter Tryz.func79,Tryz.ntmps79
 (go_wp2_with fail);refine(HC.out).mono ?_;rintro e w2 ⟨rfl,b2⟩;(go_wp2_with fail);go_ret
 exact⟨rfl,HA.out.trans (b2.mono HA.out.size)⟩
theorem want1_3 (x y:PepL) (r1 r2 q1 q2:Option Addr) (c1 c2 d1 d2:Nat) (t u sg:QY) (st su o R:Bool) (fr:Value) (a b er:Int) (p:Nat) (w:World) (hp:w.heap[p]? = some (.cells #[.string (qd x.ep),.slice r1 x.rel.length c1,.int .u8 x.c,.string (qd x.n),.bool x.b,.string (qd x.m),.bool x.d,.string (qd x.k),.slice q1 x.loc.length d1,.string t,.bool st] 59 (0,0)))
  (HH:∀ W,QE w.heap.size w W→Calls prog 155 #[.agg #[.string (qd x.ep),.slice r1 x.rel.length c1,.int .u8 x.c,.string (qd x.n),.bool x.b,.string (qd x.m),.bool x.d,.string (qd x.k),.slice q1 x.loc.length d1,.string t,.bool st],.agg #[.string (qd y.ep),.slice r2 y.rel.length c2,.int .u8 y.c,.string (qd y.n),.bool y.b,.string (qd y.m),.bool y.d,.string (qd y.k),.slice q2 y.loc.length d2,.string u,.bool su]] W fun e W'=>e=.returned (.bool R)∧QE W.heap.size W W') :
  Calls prog 79 #[.agg #[.string sg,fr,.func (.func 155) #[] #[],.bool o,.string (qd y.ep),.slice r2 y.rel.length c2,.int .u8 y.c,.string (qd y.n),.bool y.b,.string (qd y.m),.bool y.d,.string (qd y.k),.slice q2 y.loc.length d2,.string u,.bool su,.int .i64 a,.int .i64 b,.int .i64 er],.pointer (some ⟨p,0,none⟩)] w fun e w'=>e=.returned (.bool (!R))∧QE w.heap.size w w':=by
 have n0:=qbsr w (.cells #[.string sg,fr,.func (.func 155) #[] #[],.bool o,.string (qd y.ep),.slice r2 y.rel.length c2,.int .u8 y.c,.string (qd y.n),.bool y.b,.string (qd y.m),.bool y.d,.string (qd y.k),.slice q2 y.loc.length d2,.string u,.bool su,.int .i64 a,.int .i64 b,.int .i64 er] 61);have hal:QE w.heap.size w (w.alloc (.cells #[.string sg,fr,.func (.func 155) #[] #[],.bool o,.string (qd y.ep),.slice r2 y.rel.length c2,.int .u8 y.c,.string (qd y.n),.bool y.b,.string (qd y.m),.bool y.d,.string (qd y.k),.slice q2 y.loc.length d2,.string u,.bool su,.int .i64 a,.int .i64 b,.int .i64 er] 61)):=(qbsv _ w).alloc (qbst _) _;have hpl:=(qbsp.1 hp).1;have hp1:=(hal.block p hpl).trans hp;have HC:=qb (HH _ hal);have HA:=qb hal;obtain⟨s0,s1,s2,s3,s4,s5,s6,s7,s8,s9,s10,_⟩:=qh hp1;obtain⟨x0,x1,x2,x3,x4,x5,x6,x7,x8,x9,x10,x11,x12,x13,x14,x15,x16,x17,_⟩:=qdc n0;clear n0 hal hp hp1 HH hpl;go_enter Tryz.func79,Tryz.ntmps79
 (go_wp2_with fail);refine(HC.out).mono ?_;rintro e w2 ⟨rfl,b2⟩;(go_wp2_with fail);go_ret
 exact⟨rfl,HA.out.trans (b2.mono HA.out.size)⟩
theorem want1_4 (x y:PepL) (r1 r2 q1 q2:Option Addr) (c1 c2 d1 d2:Nat) (t u sg:QY) (st su o R:Bool) (fr:Value) (a b er:Int) (p:Nat) (w:World) (hp:w.heap[p]? = some (.cells #[.string (qd x.ep),.slice r1 x.rel.length c1,.int .u8 x.c,.string (qd x.n),.bool x.b,.string (qd x.m),.bool x.d,.string (qd x.k),.slice q1 x.loc.length d1,.string t,.bool st] 59 (0,0)))
  (HH:∀ W,QE w.heap.size w W→Calls prog 156 #[.agg #[.string (qd x.ep),.slice r1 x.rel.length c1,.int .u8 x.c,.string (qd x.n),.bool x.b,.string (qd x.m),.bool x.d,.string (qd x.k),.slice q1 x.loc.length d1,.string t,.bool st],.agg #[.string (qd y.ep),.slice r2 y.rel.length c2,.int .u8 y.c,.string (qd y.n),.bool y.b,.string (qd y.m),.bool y.d,.string (qd y.k),.slice q2 y.loc.length d2,.string u,.bool su]] W fun e W'=>e=.returned (.bool R)∧QE W.heap.size W W') :
  Calls prog 79 #[.agg #[.string sg,fr,.func (.func 156) #[] #[],.bool o,.string (qd y.ep),.slice r2 y.rel.length c2,.int .u8 y.c,.string (qd y.n),.bool y.b,.string (qd y.m),.bool y.d,.string (qd y.k),.slice q2 y.loc.length d2,.string u,.bool su,.int .i64 a,.int .i64 b,.int .i64 er],.pointer (some ⟨p,0,none⟩)] w fun e w'=>e=.returned (.bool (!R))∧QE w.heap.size w w':=by
 have n0:=qbsr w (.cells #[.string sg,fr,.func (.func 156) #[] #[],.bool o,.string (qd y.ep),.slice r2 y.rel.length c2,.int .u8 y.c,.string (qd y.n),.bool y.b,.string (qd y.m),.bool y.d,.string (qd y.k),.slice q2 y.loc.length d2,.string u,.bool su,.int .i64 a,.int .i64 b,.int .i64 er] 61);have hal:QE w.heap.size w (w.alloc (.cells #[.string sg,fr,.func (.func 156) #[] #[],.bool o,.string (qd y.ep),.slice r2 y.rel.length c2,.int .u8 y.c,.string (qd y.n),.bool y.b,.string (qd y.m),.bool y.d,.string (qd y.k),.slice q2 y.loc.length d2,.string u,.bool su,.int .i64 a,.int .i64 b,.int .i64 er] 61)):=(qbsv _ w).alloc (qbst _) _;have hpl:=(qbsp.1 hp).1;have hp1:=(hal.block p hpl).trans hp;have HC:=qb (HH _ hal);have HA:=qb hal;obtain⟨s0,s1,s2,s3,s4,s5,s6,s7,s8,s9,s10,_⟩:=qh hp1;obtain⟨x0,x1,x2,x3,x4,x5,x6,x7,x8,x9,x10,x11,x12,x13,x14,x15,x16,x17,_⟩:=qdc n0;clear n0 hal hp hp1 HH hpl;go_enter Tryz.func79,Tryz.ntmps79
 (go_wp2_with fail);refine(HC.out).mono ?_;rintro e w2 ⟨rfl,b2⟩;(go_wp2_with fail);go_ret
 exact⟨rfl,HA.out.trans (b2.mono HA.out.size)⟩
theorem want1_5 (x y:PepL) (r1 r2 q1 q2:Option Addr) (c1 c2 d1 d2:Nat) (t u sg:QY) (st su o R:Bool) (fr:Value) (a b er:Int) (p:Nat) (w:World) (hp:w.heap[p]? = some (.cells #[.string (qd x.ep),.slice r1 x.rel.length c1,.int .u8 x.c,.string (qd x.n),.bool x.b,.string (qd x.m),.bool x.d,.string (qd x.k),.slice q1 x.loc.length d1,.string t,.bool st] 59 (0,0)))
  (HH:∀ W,QE w.heap.size w W→Calls prog 157 #[.agg #[.string (qd x.ep),.slice r1 x.rel.length c1,.int .u8 x.c,.string (qd x.n),.bool x.b,.string (qd x.m),.bool x.d,.string (qd x.k),.slice q1 x.loc.length d1,.string t,.bool st],.agg #[.string (qd y.ep),.slice r2 y.rel.length c2,.int .u8 y.c,.string (qd y.n),.bool y.b,.string (qd y.m),.bool y.d,.string (qd y.k),.slice q2 y.loc.length d2,.string u,.bool su]] W fun e W'=>e=.returned (.bool R)∧QE W.heap.size W W') :
  Calls prog 79 #[.agg #[.string sg,fr,.func (.func 157) #[] #[],.bool o,.string (qd y.ep),.slice r2 y.rel.length c2,.int .u8 y.c,.string (qd y.n),.bool y.b,.string (qd y.m),.bool y.d,.string (qd y.k),.slice q2 y.loc.length d2,.string u,.bool su,.int .i64 a,.int .i64 b,.int .i64 er],.pointer (some ⟨p,0,none⟩)] w fun e w'=>e=.returned (.bool (!R))∧QE w.heap.size w w':=by
 have n0:=qbsr w (.cells #[.string sg,fr,.func (.func 157) #[] #[],.bool o,.string (qd y.ep),.slice r2 y.rel.length c2,.int .u8 y.c,.string (qd y.n),.bool y.b,.string (qd y.m),.bool y.d,.string (qd y.k),.slice q2 y.loc.length d2,.string u,.bool su,.int .i64 a,.int .i64 b,.int .i64 er] 61);have hal:QE w.heap.size w (w.alloc (.cells #[.string sg,fr,.func (.func 157) #[] #[],.bool o,.string (qd y.ep),.slice r2 y.rel.length c2,.int .u8 y.c,.string (qd y.n),.bool y.b,.string (qd y.m),.bool y.d,.string (qd y.k),.slice q2 y.loc.length d2,.string u,.bool su,.int .i64 a,.int .i64 b,.int .i64 er] 61)):=(qbsv _ w).alloc (qbst _) _;have hpl:=(qbsp.1 hp).1;have hp1:=(hal.block p hpl).trans hp;have HC:=qb (HH _ hal);have HA:=qb hal;obtain⟨s0,s1,s2,s3,s4,s5,s6,s7,s8,s9,s10,_⟩:=qh hp1;obtain⟨x0,x1,x2,x3,x4,x5,x6,x7,x8,x9,x10,x11,x12,x13,x14,x15,x16,x17,_⟩:=qdc n0;clear n0 hal hp hp1 HH hpl;go_enter Tryz.func79,Tryz.ntmps79
 (go_wp2_with fail);refine(HC.out).mono ?_;rintro e w2 ⟨rfl,b2⟩;(go_wp2_with fail);go_ret
 exact⟨rfl,HA.out.trans (b2.mono HA.out.size)⟩
theorem want1_6 (x y:PepL) (r1 r2 q1 q2:Option Addr) (c1 c2 d1 d2:Nat) (t u sg:QY) (st su o R:Bool) (fr:Value) (a b er:Int) (p:Nat) (w:World) (hp:w.heap[p]? = some (.cells #[.string (qd x.ep),.slice r1 x.rel.length c1,.int .u8 x.c,.string (qd x.n),.bool x.b,.string (qd x.m),.bool x.d,.string (qd x.k),.slice q1 x.loc.length d1,.string t,.bool st] 59 (0,0)))
  (HH:∀ W,QE w.heap.size w W→Calls prog 158 #[.agg #[.string (qd x.ep),.slice r1 x.rel.length c1,.int .u8 x.c,.string (qd x.n),.bool x.b,.string (qd x.m),.bool x.d,.string (qd x.k),.slice q1 x.loc.length d1,.string t,.bool st],.agg #[.string (qd y.ep),.slice r2 y.rel.length c2,.int .u8 y.c,.string (qd y.n),.bool y.b,.string (qd y.m),.bool y.d,.string (qd y.k),.slice q2 y.loc.length d2,.string u,.bool su]] W fun e W'=>e=.returned (.bool R)∧QE W.heap.size W W') :
  Calls prog 79 #[.agg #[.string sg,fr,.func (.func 158) #[] #[],.bool o,.string (qd y.ep),.slice r2 y.rel.length c2,.int .u8 y.c,.string (qd y.n),.bool y.b,.string (qd y.m),.bool y.d,.string (qd y.k),.slice q2 y.loc.length d2,.string u,.bool su,.int .i64 a,.int .i64 b,.int .i64 er],.pointer (some ⟨p,0,none⟩)] w fun e w'=>e=.returned (.bool (!R))∧QE w.heap.size w w':=by
 have n0:=qbsr w (.cells #[.string sg,fr,.func (.func 158) #[] #[],.bool o,.string (qd y.ep),.slice r2 y.rel.length c2,.int .u8 y.c,.string (qd y.n),.bool y.b,.string (qd y.m),.bool y.d,.string (qd y.k),.slice q2 y.loc.length d2,.string u,.bool su,.int .i64 a,.int .i64 b,.int .i64 er] 61);have hal:QE w.heap.size w (w.alloc (.cells #[.string sg,fr,.func (.func 158) #[] #[],.bool o,.string (qd y.ep),.slice r2 y.rel.length c2,.int .u8 y.c,.string (qd y.n),.bool y.b,.string (qd y.m),.bool y.d,.string (qd y.k),.slice q2 y.loc.length d2,.string u,.bool su,.int .i64 a,.int .i64 b,.int .i64 er] 61)):=(qbsv _ w).alloc (qbst _) _;have hpl:=(qbsp.1 hp).1;have hp1:=(hal.block p hpl).trans hp;have HC:=qb (HH _ hal);have HA:=qb hal;obtain⟨s0,s1,s2,s3,s4,s5,s6,s7,s8,s9,s10,_⟩:=qh hp1;obtain⟨x0,x1,x2,x3,x4,x5,x6,x7,x8,x9,x10,x11,x12,x13,x14,x15,x16,x17,_⟩:=qdc n0;clear n0 hal hp hp1 HH hpl;go_enter Tryz.func79,Tryz.ntmps79
 (go_wp2_with fail);refine(HC.out).mono ?_;rintro e w2 ⟨rfl,b2⟩;(go_wp2_with fail);go_ret
 exact⟨rfl,HA.out.trans (b2.mono HA.out.size)⟩
theorem want1_7 (x y:PepL) (r1 r2 q1 q2:Option Addr) (c1 c2 d1 d2:Nat) (t u sg:QY) (st su o R:Bool) (fr:Value) (a b er:Int) (p:Nat) (w:World) (hp:w.heap[p]? = some (.cells #[.string (qd x.ep),.slice r1 x.rel.length c1,.int .u8 x.c,.string (qd x.n),.bool x.b,.string (qd x.m),.bool x.d,.string (qd x.k),.slice q1 x.loc.length d1,.string t,.bool st] 59 (0,0)))
  (HH:∀ W,QE w.heap.size w W→Calls prog 160 #[.agg #[.string (qd x.ep),.slice r1 x.rel.length c1,.int .u8 x.c,.string (qd x.n),.bool x.b,.string (qd x.m),.bool x.d,.string (qd x.k),.slice q1 x.loc.length d1,.string t,.bool st],.agg #[.string (qd y.ep),.slice r2 y.rel.length c2,.int .u8 y.c,.string (qd y.n),.bool y.b,.string (qd y.m),.bool y.d,.string (qd y.k),.slice q2 y.loc.length d2,.string u,.bool su]] W fun e W'=>e=.returned (.bool R)∧QE W.heap.size W W') :
  Calls prog 79 #[.agg #[.string sg,fr,.func (.func 160) #[] #[],.bool o,.string (qd y.ep),.slice r2 y.rel.length c2,.int .u8 y.c,.string (qd y.n),.bool y.b,.string (qd y.m),.bool y.d,.string (qd y.k),.slice q2 y.loc.length d2,.string u,.bool su,.int .i64 a,.int .i64 b,.int .i64 er],.pointer (some ⟨p,0,none⟩)] w fun e w'=>e=.returned (.bool (!R))∧QE w.heap.size w w':=by
 have n0:=qbsr w (.cells #[.string sg,fr,.func (.func 160) #[] #[],.bool o,.string (qd y.ep),.slice r2 y.rel.length c2,.int .u8 y.c,.string (qd y.n),.bool y.b,.string (qd y.m),.bool y.d,.string (qd y.k),.slice q2 y.loc.length d2,.string u,.bool su,.int .i64 a,.int .i64 b,.int .i64 er] 61);have hal:QE w.heap.size w (w.alloc (.cells #[.string sg,fr,.func (.func 160) #[] #[],.bool o,.string (qd y.ep),.slice r2 y.rel.length c2,.int .u8 y.c,.string (qd y.n),.bool y.b,.string (qd y.m),.bool y.d,.string (qd y.k),.slice q2 y.loc.length d2,.string u,.bool su,.int .i64 a,.int .i64 b,.int .i64 er] 61)):=(qbsv _ w).alloc (qbst _) _;have hpl:=(qbsp.1 hp).1;have hp1:=(hal.block p hpl).trans hp;have HC:=qb (HH _ hal);have HA:=qb hal;obtain⟨s0,s1,s2,s3,s4,s5,s6,s7,s8,s9,s10,_⟩:=qh hp1;obtain⟨x0,x1,x2,x3,x4,x5,x6,x7,x8,x9,x10,x11,x12,x13,x14,x15,x16,x17,_⟩:=qdc n0;clear n0 hal hp hp1 HH hpl;go_enter Tryz.func79,Tryz.ntmps79
 (go_wp2_with fail);refine(HC.out).mono ?_;rintro e w2 ⟨rfl,b2⟩;(go_wp2_with fail);go_ret
 exact⟨rfl,HA.out.trans (b2.mono HA.out.size)⟩
structure ClOK (c:Cl):Prop where
 k8:c.k<8
 tl:c.t.length≤256
 ver:c.k≠7→okP c.t=true∧c.x=qm (qk c.t)
 two:c.k=0→2≤c.x.rel.length
 pub:c.k≠1→c.k≠2→c.k≠7→pubB c.x=true
 bare:c.st=true→(c.k=1∨c.k=2)∧qgb c.x=true
 txt:c.k=7→c.x=pep0∧badN c.t=c.t.length
theorem qst {may:PepL→Bool} {u t:QB} {x:PepL} {st:Bool} (h:qbp may u=.ok x t st):okP u=true∧may (qm (qk u))=true∧x=qm (qk u)∧t=u∧st=false:=by
 unfold qbp at h;cases ho:okP u
 ·rw[ho,if_neg (by simp)]at h;cases h
 ·rw[ho,if_pos rfl]at h;split at h
  ·cases h;exact⟨rfl,by assumption,rfl,rfl,rfl⟩
  ·cases h
theorem qbfq:∀ l:QB,badN l≤l.length
 | []=>Nat.le_refl _
 | c::r=>by have:=qbfq r;unfold badN;split<;>simp<;>omega
theorem wdR_ok {k:Nat} (hk:k<8) {u t:QB} {x:PepL} {st:Bool} (hu:u.length≤256) (h:wdR k u=.ok x t st) (s e:Nat) (er:Int):ClOK ⟨k,x,t,st,s,e,er⟩:=by
 unfold wdR at h;split at h
 ·rename_i h0;obtain⟨h1,h2,h3,h4,h5⟩:=qst h;simp only[Bool.and_eq_true,decide_eq_true_eq]at h2;subst h4 h5 h0;exact⟨hk,hu,fun _=>⟨h1,h3⟩,fun _=>(by dsimp only;rw[h3];omega),fun _ _ _=>(by dsimp only;rw[h3];exact h2.1),fun h=>(by cases h),fun h=>(by cases h)⟩
 ·rename_i h0;split at h
  ·rename_i h12;split at h
   ·cases hq:qbp qgb (u.take (u.length-2))with
    | bad e2 p2=>rw[hq]at h;cases h
    | ok x2 t2 st2=>
     rw[hq]at h;cases h;obtain⟨h1,h2,h3,h4,h5⟩:=qst hq;refine⟨hk,(by dsimp only;rw[h4,List.length_take];omega),fun _=>(by dsimp only;rw[h4];exact⟨h1,h3⟩),fun h=>absurd h h0,fun a b _=>(by rcases h12 with h12|h12<;>contradiction),fun _=>⟨h12,by dsimp only;rw[h3];exact h2⟩,fun h=>(by dsimp only at h;omega)⟩
   ·obtain⟨h1,h2,h3,h4,h5⟩:=qst h;subst h4 h5;exact⟨hk,hu,fun _=>⟨h1,h3⟩,fun h=>absurd h h0,fun a b _=>(by rcases h12 with h12|h12<;>contradiction),fun h=>(by cases h),fun h=>(by dsimp only at h;omega)⟩
  ·rename_i h12;split at h
   ·rename_i h7;unfold qln at h;split at h
    ·cases h
    ·rename_i hb;cases h;have:=qbfq u;exact⟨hk,hu,fun h=>absurd h7 h,fun h=>absurd h h0,fun _ _ h=>absurd h7 h,fun h=>(by cases h),fun _=>⟨rfl,by dsimp only;omega⟩⟩
   ·rename_i h7;obtain⟨h1,h2,h3,h4,h5⟩:=qst h;subst h4 h5;exact⟨hk,hu,fun _=>⟨h1,h3⟩,fun h=>absurd h h0,fun _ _ _=>(by dsimp only;rw[h3];exact h2),fun h=>(by cases h),fun h=>absurd h h7⟩
theorem qbfw {l:QB} (hl:l.length≤256) {a:Nat} (h:(clP l a).er=0):ClOK (clP l a):=by
 have hop:=qhv (l.drop a) 8 (by omega)
 unfold clP at h ⊢;split
 ·rename_i h8;rw[if_pos h8]at h;exfalso;dsimp only at h;unfold misL at h;split at h<;>cases h
 ·rename_i h8;rw[if_neg h8]at h;have hk:(opGo (l.drop a) 8).1<8:=by omega
  generalize (opGo (l.drop a) 8).1=k at *;cases hr:rwL l k (skL l (a+(sgn k).length))with
  | mk R z=>
   rw[hr]at h;cases R with
   | bad er p=>
    exfalso;exact rwL_ne hr h
   | ok x t st=>
    dsimp only;unfold rwL at hr;split at hr
    ·cases hr
    ·cases hq:wdR k (seg l (skL l (a+(sgn k).length)) (skL l (a+(sgn k).length)+wdN (l.drop (skL l (a+(sgn k).length)))))with
     | bad er p=>rw[hq]at hr;cases hr
     | ok x2 t2 st2=>
      rw[hq]at hr;cases hr;exact wdR_ok hk (Nat.le_trans (qbbj l _ _) hl) hq _ _ _
theorem qbmt {l:QB} (hl:l.length≤256):∀ n a acc,(∀ c∈acc,ClOK c)→∀ c∈(pyGo l n a acc).2.2,ClOK c
 | 0,a,acc,h,c,hc=>by unfold pyGo at hc;cases hc
 | n + 1,a,acc,h,c,hc=>by
  unfold pyGo at hc;split at hc
  ·cases hc
  ·split at hc
   ·cases hc
   ·rename_i he;have he:(clP l (skL l a)).er=0:=Classical.not_not.1 he;have hall:∀ c∈acc++[clP l (skL l a)],ClOK c:=fun c hc=>by
     rcases List.mem_append.1 hc with hc|hc
     ·exact h c hc
     ·simp at hc;subst hc;exact qbfw hl he
    split at hc
    ·exact qbmt hl n _ _ hall c hc
    ·exact hall c hc
theorem qwh (l:QB):∀ c∈(pyL l).2.2,ClOK c:=by
 unfold pyL;split
 ·intro c hc;cases hc
 ·rename_i hl;split
  ·intro c hc;cases hc
  ·exact qbmt (by omega) 33 0 [] (fun c hc=>by cases hc)
def qpf (c:Cl):Bool:=opB c.k&&preP c.x
def qll (cs:List Cl) (u:QB):Bool:=
 okP u&&(!(preP (qm (qk u))&&!cs.any qpf)&&!cs.any (fun c=>!qft c.k (qm (qk u)) u c.x c.t c.st))
set_option maxHeartbeats 4000000
set_option maxRecDepth 100000
theorem qbdl (x:PepL) (r1 q1:Option Addr) (c1 d1:Nat) (sg t:QY) (f g:Value) (o st:Bool) (a b er:Int) (w:World) (rr:qz w (.slice r1 x.rel.length c1) x.rel) (ll:qz w (.slice q1 x.loc.length d1) x.loc) :
  Calls Tryz.prog 46 #[.agg #[.string sg,f,g,.bool o,.string (qd x.ep),.slice r1 x.rel.length c1,.int .u8 x.c,.string (qd x.n),.bool x.b,.string (qd x.m),.bool x.d,.string (qd x.k),.slice q1 x.loc.length d1,.string t,.bool st,.int .i64 a,.int .i64 b,.int .i64 er]] w fun e w'=>e=.returned (.bool (o&&(x.c != 0||x.d)))∧Below w.heap.size w w':=by
 have PX9:=qb (fun W h1 h2=>qsx x r1 q1 c1 d1 W h1 h2);have n0:=World.alloc_heap_new w (.cells #[.string sg,f,g,.bool o,.string (qd x.ep),.slice r1 x.rel.length c1,.int .u8 x.c,.string (qd x.n),.bool x.b,.string (qd x.m),.bool x.d,.string (qd x.k),.slice q1 x.loc.length d1,.string t,.bool st,.int .i64 a,.int .i64 b,.int .i64 er] 61);have hb:Below w.heap.size w (w.alloc (.cells #[.string sg,f,g,.bool o,.string (qd x.ep),.slice r1 x.rel.length c1,.int .u8 x.c,.string (qd x.n),.bool x.b,.string (qd x.m),.bool x.d,.string (qd x.k),.slice q1 x.loc.length d1,.string t,.bool st,.int .i64 a,.int .i64 b,.int .i64 er] 61)):=(Below.refl _ w).alloc (Nat.le_refl _) _;have T1:=qb (rr.below hb);have T2:=qb (ll.below hb);obtain⟨V,hV⟩:∃ V,w.alloc (.cells #[.string sg,f,g,.bool o,.string (qd x.ep),.slice r1 x.rel.length c1,.int .u8 x.c,.string (qd x.n),.bool x.b,.string (qd x.m),.bool x.d,.string (qd x.k),.slice q1 x.loc.length d1,.string t,.bool st,.int .i64 a,.int .i64 b,.int .i64 er] 61)=V:=⟨_,rfl⟩;rw[hV]at n0 hb T1 T2;have hsz:w.heap.size<V.heap.size:=by rw[←hV];simp
 obtain⟨s0,s1,s2,s3,s4,s5,s6,s7,s8,s9,s10,s11,s12,s13,s14,s15,s16,s17,s_0,s_1,s_2,s_3,s_4,s_5,s_6,s_7,s_8,s_9,s_10,s_11,s_12,s_13,s_14,s_15,s_16,s_17⟩:=qdc n0;have N0:=qb n0;clear n0 rr ll;cases o
 ·go_enter Tryz.func46,Tryz.ntmps46
  (go_wp2_with fail);go_ret
  exact⟨rfl,hb⟩
 ·go_enter Tryz.func46,Tryz.ntmps46
  (go_wp2_with fail);refine(PX9.out _ T1.out T2.out).mono ?_;rintro e w5 ⟨rfl,b5⟩;(go_wp2_with fail);go_ret
  exact⟨by simp,hb.trans (b5.mono hb.size)⟩
set_option maxHeartbeats 8000000
set_option maxRecDepth 100000
theorem qqj {A:Nat→Prop} (X:It) (w:World) (hT:TxC A w X):Calls Tryz.prog 46 #[.agg (clV X.1 X.2.1 X.2.2)] w fun e w'=>e=.returned (.bool (qpf X.1))∧Below w.heap.size w w':=by
 obtain⟨⟨k,y,u,su,s,e,er⟩,x2,x3⟩:=X;obtain⟨rb,lb,_,_⟩:=hT;dsimp only at rb lb;obtain⟨r2,c2,rfl,_⟩:=id rb;obtain⟨q2,d2,rfl,_⟩:=id lb;exact qbdl y r2 q2 c2 d2 _ _ _ _ (opB k) su _ _ _ w rb lb
theorem qxn {A:Nat→Prop} (X:It) (hX:ClOK X.1) (x:PepL) (r1 q1:Option Addr) (c1 d1:Nat) (t:QY) (st:Bool) (p:Nat) (w:World) (hT:TxC A w X) (hp:w.heap[p]? = some (.cells #[.string (qd x.ep),.slice r1 x.rel.length c1,.int .u8 x.c,.string (qd x.n),.bool x.b,.string (qd x.m),.bool x.d,.string (qd x.k),.slice q1 x.loc.length d1,.string t,.bool st] 59 (0,0)))
 (ra:qz w (.slice r1 x.rel.length c1) x.rel) (la:qz w (.slice q1 x.loc.length d1) x.loc) (hx:VerOK x) (hn:r1=none→c1=0) (ht:t.size≤maxLen) :
 Calls Tryz.prog 79 #[.agg (clV X.1 X.2.1 X.2.2),.pointer (some ⟨p,0,none⟩)] w fun e w'=>e=.returned (.bool (!qft X.1.k x t.data.toList X.1.x X.1.t X.1.st))∧Below w.heap.size w w':=by
  obtain⟨⟨k,y,u,su,s,e,er⟩,x2,x3⟩:=X;obtain⟨rb,lb,cb,_⟩:=hT;dsimp only at rb lb cb hX ⊢;obtain⟨r2,c2,rfl,_⟩:=id rb;obtain⟨q2,d2,rfl,_⟩:=id lb;have hk:=hX.k8
  have hu:(qd u).size≤maxLen:=by
    have:=hX.tl;have e1:(qd u).size=u.length:=by rw[←qg,qj]
    unfold maxLen;dsimp only at this;omega
  have HH:∀ W,Below w.heap.size w W→Calls Tryz.prog (hoF k) #[.agg #[.string (qd x.ep),.slice r1 x.rel.length c1,.int .u8 x.c,.string (qd x.n),.bool x.b,.string (qd x.m),.bool x.d,.string (qd x.k),.slice q1 x.loc.length d1,.string t,.bool st],.agg #[.string (qd y.ep),.slice r2 y.rel.length c2,.int .u8 y.c,.string (qd y.n),.bool y.b,.string (qd y.m),.bool y.d,.string (qd y.k),.slice q2 y.loc.length d2,.string (qd u),.bool su]] W fun e W'=>e=.returned (.bool (qft k x t.data.toList y u su))∧Below W.heap.size W W':=fun W hb=>by
    have:=qzb k hk x y r1 r2 q1 q2 c1 c2 d1 d2 t (qd u) st su W (ra.below hb) (rb.below hb) (la.below hb) (lb.below hb) hx hn (fun h=>by have:=hX.ver h;dsimp only at this;rw[this.2];exact qnz this.1)
      (fun h=>by
        have h2:=hX.two h;dsimp only at h2;obtain⟨b,off,e1,_⟩:=rb.some (by omega)
        exact(cb _ _ _ (by rw[e1])).2) (fun h=>hX.two h) ht hu
    rwa [qj]at this
  match k,hk with
  | 0,_=>exact want1_0 x y r1 r2 q1 q2 c1 c2 d1 d2 t (qd u) (qd (sgn 0)) st su (opB 0) _ (fnV (rdF 0)) (s:Int) (e:Int) er p w hp HH
  | 1,_=>exact want1_1 x y r1 r2 q1 q2 c1 c2 d1 d2 t (qd u) (qd (sgn 1)) st su (opB 1) _ (fnV (rdF 1)) (s:Int) (e:Int) er p w hp HH
  | 2,_=>exact want1_2 x y r1 r2 q1 q2 c1 c2 d1 d2 t (qd u) (qd (sgn 2)) st su (opB 2) _ (fnV (rdF 2)) (s:Int) (e:Int) er p w hp HH
  | 3,_=>exact want1_3 x y r1 r2 q1 q2 c1 c2 d1 d2 t (qd u) (qd (sgn 3)) st su (opB 3) _ (fnV (rdF 3)) (s:Int) (e:Int) er p w hp HH
  | 4,_=>exact want1_4 x y r1 r2 q1 q2 c1 c2 d1 d2 t (qd u) (qd (sgn 4)) st su (opB 4) _ (fnV (rdF 4)) (s:Int) (e:Int) er p w hp HH
  | 5,_=>exact want1_5 x y r1 r2 q1 q2 c1 c2 d1 d2 t (qd u) (qd (sgn 5)) st su (opB 5) _ (fnV (rdF 5)) (s:Int) (e:Int) er p w hp HH
  | 6,_=>exact want1_6 x y r1 r2 q1 q2 c1 c2 d1 d2 t (qd u) (qd (sgn 6)) st su (opB 6) _ (fnV (rdF 6)) (s:Int) (e:Int) er p w hp HH
  | 7,_=>exact want1_7 x y r1 r2 q1 q2 c1 c2 d1 d2 t (qd u) (qd (sgn 7)) st su (opB 7) _ (fnV (rdF 7)) (s:Int) (e:Int) er p w hp HH
theorem want_any (Z:Nat) (v:Value) (its:List It) (s:QY) (w:World) (hv:ClsV Z w v its) (hl:its.length≤33) (hok:∀ x∈its,ClOK x.1) (hs:s.size≤140737488351232) :
  Calls Tryz.prog 49 #[v,.string s] w fun e w'=>e=.returned (.bool (qll (its.map Prod.fst) s.data.toList))∧Below w.heap.size w w':=by
 obtain⟨a,c,rfl,_⟩:=hv.at_;have HV:=qb hv;have HOK:=qb hok;clear hv hok;cases ho:okP s.data.toList
 ·have RV:=qb (fun W=>qdz s W hs ho);have HR:Hid (qll (its.map Prod.fst) s.data.toList=false):=qb (by unfold qll;rw[ho];rfl)
  have hq:qbp (fun _=>true) s.data.toList=.bad (errX s.data.toList).1 (errX s.data.toList).2:=by unfold qbp;rw[ho];rfl
  rw[hq]at RV;generalize (errX s.data.toList).1=e1 at *;generalize (errX s.data.toList).2=p1 at *;clear ho hq;go_enter Tryz.func49,Tryz.ntmps49
  (go_wp2_with fail);refine(RV.out _).mono ?_;rintro e w1 ⟨b1,hne,st,rfl⟩;unfold zerV;obtain⟨V,hV,n1,n2,bV,sV⟩:=ql w1 #[.string ⟨#[]⟩,.slice none 0 0,.int .u8 0,.string ⟨#[]⟩,.bool false,.string ⟨#[]⟩,.bool false,.string ⟨#[]⟩,.slice none 0 0,.string ⟨#[]⟩,.bool st] #[.int .i64 e1,.int .i64 (p1:Int)] 59 25;obtain⟨u0,u1,_⟩:=qv n2;have m1:(e1 != 0)=true:=by simpa using hne
  have m2:(e1==0)=false:=by simpa using hne
  have HB:=qb (b1.trans (bV.mono b1.size));have HVV:=qb hV;clear n1 n2 bV sV hV b1 hne;go_upto_region 2 with fail
  rw[HVV.out];(go_wp2_with fail);go_ret
  exact⟨by rw[HR.out];rfl,HB.out⟩
 ·have RV:=qb (fun W=>qfb s W ho);have hx:=qnz ho;have HR:Hid (qll (its.map Prod.fst) s.data.toList=(!(preP (qm (qk s.data.toList))&&!its.any (fun x=>qpf x.1))&&!its.any (fun x=>!qft x.1.k (qm (qk s.data.toList)) s.data.toList x.1.x x.1.t x.1.st))):=qb (by unfold qll;rw[ho,Bool.true_and,List.any_map,List.any_map];rfl)
  have hq:qbp (fun _=>true) s.data.toList=.ok (qm (qk s.data.toList)) s.data.toList false:=by unfold qbp;rw[ho];rfl
  rw[hq]at RV;generalize qm (qk s.data.toList)=x at *;clear ho hq;rw[HR.out];go_enter Tryz.func49,Tryz.ntmps49
  (go_wp2_with fail);refine(RV.out _).mono ?_;rintro e w1 ⟨b1,vr,vl,rfl,t1,t2,fr1,fr2⟩;obtain⟨r1,c1,rfl,_⟩:=id t1;obtain⟨q1,d1,rfl,_⟩:=id t2;unfold verV;obtain⟨V,hV,n1,n2,bV,sV⟩:=ql w1 #[.string (qd x.ep),.slice r1 x.rel.length c1,.int .u8 x.c,.string (qd x.n),.bool x.b,.string (qd x.m),.bool x.d,.string (qd x.k),.slice q1 x.loc.length d1,.string (qd s.data.toList),.bool false] #[.int .i64 0,.int .i64 0] 59 25;obtain⟨u0,u1,_⟩:=qv n2;obtain⟨s0,s1,s2,s3,s4,s5,s6,s7,s8,s9,s10,_⟩:=qh n1;have HBW:=qb (b1.trans (bV.mono b1.size));have T1:=qb (t1.below bV);have T2:=qb (t2.below bV);have HN1:=qb n1;have HVV:=qb ((HV.out.below b1).below bV);have HVW:=qb hV;have hsz1:w1.heap.size<V.heap.size:=by omega
  have hne:=hx.fit.f2;have hno:Hid (r1=none→c1=0):=qb fun h=>by
   obtain⟨b,off,e1,_⟩:=t1.some (List.length_pos_iff.2 hne);rw[h]at e1;cases e1
  replace hx:=qb hx;have PR:=qb (qsx x r1 q1 c1 d1 V T1.out T2.out);clear n1 n2 bV sV hV b1 t1 t2 fr1 fr2 hne
  change Hid (Calls Tryz.prog 77 _ V fun e w'=>e=.returned (.bool (preP x))∧Below V.heap.size V w')at PR
  cases hp:preP x
  ·rw [hp]at PR;have HP:=qb hp;clear hp;go_upto_region 2 with fail
   rw [HVW.out];(go_wp2_with fail);refine(PR.out).mono ?_;rintro e w5 ⟨rfl,b5⟩;have B5:=qb b5;clear b5;have HVw5:=qb (HVV.out.below B5.out);have CF:=qb (qlj (fun X=>!qft X.1.k x s.data.toList X.1.x X.1.t X.1.st) w1.heap.size Z _ its w5 HVw5.out hl (fun X hX W hb hT=>by
    obtain⟨A,hT⟩:=hT;have:=qxn X (HOK.out X hX) x r1 q1 c1 d1 (qd s.data.toList) false w1.heap.size W hT (((B5.out.trans (hb.mono B5.out.size)).block _ hsz1).trans HN1.out) (T1.out.below (B5.out.trans (hb.mono B5.out.size))) (T2.out.below (B5.out.trans (hb.mono B5.out.size))) hx.out (hno.out) (by rw[qcw];unfold maxLen;omega)
    rw[qcw]at this;exact this))
   (go_wp2_with fail);refine(CF.out).mono ?_;rintro e w7 ⟨rfl,b7⟩;have HBB:=qb (HBW.out.trans ((B5.out.trans (b7.mono B5.out.size)).mono HBW.out.size));(go_wp2_with fail);go_ret
   exact⟨by rw[HP.out];rfl,HBB.out⟩
  ·rw [hp]at PR;have HP:=qb hp;clear hp;cases ha:its.any (fun X=>qpf X.1)
   ·go_upto_region 2 with fail
    rw[HVW.out];(go_wp2_with fail);refine(PR.out).mono ?_;rintro e w5 ⟨rfl,b5⟩;have CL:=qb (qlk (fun X=>qpf X.1) Z _ its w5 (HVV.out.below b5) hl (fun X hX W hb hT=>by obtain⟨A,hT⟩:=hT;exact qqj X W hT))
    rw[ha]at CL;have HA:=qb ha;(go_wp2_with fail);refine(CL.out).mono ?_;rintro e w6 ⟨rfl,b6⟩;have HBB:=qb (HBW.out.trans ((b5.trans (b6.mono b5.size)).mono HBW.out.size));(go_wp2_with fail);go_ret
    exact⟨by rw[HP.out,HA.out];rfl,HBB.out⟩
   ·go_upto_region 2 with fail
    rw[HVW.out];(go_wp2_with fail);refine(PR.out).mono ?_;rintro e w5 ⟨rfl,b5⟩;have CL:=qb (qlk (fun X=>qpf X.1) Z _ its w5 (HVV.out.below b5) hl (fun X hX W hb hT=>by obtain⟨A,hT⟩:=hT;exact qqj X W hT))
    rw [ha]at CL;have HA:=qb ha;(go_wp2_with fail);refine(CL.out).mono ?_;rintro e w6 ⟨rfl,b6⟩;have B6:=qb (b5.trans (b6.mono b5.size));clear b5 b6 ha;have HVw6:=qb (HVV.out.below B6.out);have CF:=qb (qlj (fun X=>!qft X.1.k x s.data.toList X.1.x X.1.t X.1.st) w1.heap.size Z _ its w6 HVw6.out hl (fun X hX W hb hT=>by
     obtain⟨A,hT⟩:=hT;have:=qxn X (HOK.out X hX) x r1 q1 c1 d1 (qd s.data.toList) false w1.heap.size W hT (((B6.out.trans (hb.mono B6.out.size)).block _ hsz1).trans HN1.out) (T1.out.below (B6.out.trans (hb.mono B6.out.size))) (T2.out.below (B6.out.trans (hb.mono B6.out.size))) hx.out (hno.out) (by rw[qcw];unfold maxLen;omega)
     rw[qcw]at this;exact this))
    (go_wp2_with fail);refine(CF.out).mono ?_;rintro e w7 ⟨rfl,b7⟩;have HBB:=qb (HBW.out.trans ((B6.out.trans (b7.mono B6.out.size)).mono HBW.out.size));(go_wp2_with fail);go_ret
    exact⟨by rw[HP.out,HA.out];rfl,HBB.out⟩
set_option maxHeartbeats 4000000
set_option maxRecDepth 100000
def latF (p:QB→Bool) (b:QB×Bool) (t:QB):QB×Bool:=if (p t&&(!b.2||decide (0<cmpT t b.1)))=true then (t,true) else b
def qpq (p:QB→Bool) (ts:List QB):QB×Bool:=ts.foldl (latF p) ([],false)
theorem lat_take (p:QB→Bool) (ts:List QB) (i:Nat) (h:i<ts.length):(ts.take (i+1)).foldl (latF p) ([],false)=latF p ((ts.take i).foldl (latF p) ([],false)) ts[i]:=by
 rw[List.take_succ_eq_append_getElem h,List.foldl_append]
 rfl
theorem qbjz (p:QB→Bool) (B:Nat) (ts:List QB) (v:Value) (w:World) (hv:qz w v ts) (hln:ts.length≤9000000000000000000)
  (hz:∀ t∈ts,t.length≤140737488351232) (hp:∀ t∈ts,∀ (W:World),Below w.heap.size w W→Calls Tryz.prog 48 #[.string (qd t),.pointer (some ⟨B,0,none⟩)] W fun e W'=>e=.returned (.bool (p t))∧Below W.heap.size W W') :
  Calls Tryz.prog 47 #[v,.func (.func 48) #[] #[.pointer (some ⟨B,0,none⟩)],.func (.func 50) #[] #[]] w fun e w'=>e=.returned (.tuple #[.string (qd (qpq p ts).1),.bool (qpq p ts).2])∧Below w.heap.size w w':=by
 obtain⟨a,k,rfl,_⟩:=id hv;obtain⟨n,hn⟩:∃ n,ts.length=n:=⟨_,rfl⟩;rw[hn]at hv hln ⊢;have HN:=qb hn;have HV:=qb hv;have HP:=qb hp;have HZ:=qb hz;clear hn hv hp hz;go_enter Tryz.func47,Tryz.ntmps47
 (go_wp2_with fail);go_loopw [8,9,14] (fun x f j wr=>∃ (i:Nat) (S:QB) (F:Bool),S.length≤140737488351232∧i≤n∧x=.string (qd S)∧f=.bool F∧j=.int .i64 i∧Hid (Below w.heap.size w wr)∧Hid ((ts.take i).foldl (latF p) ([],false)=(S,F))) (fun _ _ j _=>n-(intOf j).toNat)
 case atStart=>exact⟨0,[],false,by simp,by omega,rfl,rfl,rfl,Below.refl _ _,rfl⟩
 case round=>
  obtain⟨i,S,F,hS,hin,rfl,rfl,rfl,HB,HA⟩:=hrel
  by_cases hlt:i<n
  ·have hlt':(i:Int)<(n:Int):=by omega
   have i1:i<ts.length:=by rw[HN.out];exact hlt
   obtain⟨b,o,rfl,hrow⟩:=qz.some (HV.out.below HB.out) (by omega)
   have d0:=hrow i i1;have h2:=lat_take p ts i i1;rw[HA.out]at h2;have h3:latF p (S,F) ts[i]=if (p ts[i]&&(!F||decide (0<cmpT ts[i] S)))=true then (ts[i],true) else (S,F):=rfl;rw[h3]at h2;have P1:=qb (fun (W:World) (hW:Below w.heap.size w W)=>(HP.out ts[i] (List.getElem_mem _) W hW:Calls Tryz.prog 48 #[.string (qd ts[i]),.pointer (some ⟨B,0,none⟩)] W fun e W'=>e=.returned (.bool (p ts[i]))∧Below W.heap.size W W'));have C1:=qb (fun (W:World)=>(by have:=qbbq (qd ts[i]) (qd S) W (by rw[←qg,qj];exact HZ.out _ (List.getElem_mem _)) (by rw[←qg,qj];exact hS);rw[qj,qj]at this;exact this:Calls Tryz.prog 50 #[.string (qd ts[i]),.string (qd S)] W fun e W'=>e=.returned (.int .i64 (cmpT ts[i] S))∧Below W.heap.size W W'))
   have H2:=qb h2;have htz:=HZ.out ts[i] (List.getElem_mem _);clear h2 h3 hrow;generalize p ts[i]=X at *;generalize cmpT ts[i] S=C at *;generalize ts[i]=t at *;clear i1;(go_wp2_with fail);refine(P1.out _ HB.out).mono ?_;rintro e W1 ⟨rfl,b1⟩;have HB1:=qb (HB.out.trans (b1.mono HB.out.size));clear b1 HB P1 d0;cases X with
   | false=>
    (go_wp2_with fail);go_roundw
    case rel=>exact⟨i+1,S,F,hS,by omega,rfl,rfl,by go_num,HB1,by show _=_;rw[H2.out];rfl⟩
    case measure=>simp[intOf];omega
   | true=>
    cases F with
    | false=>
     (go_wp2_with fail);go_roundw
     case rel=>exact⟨i+1,t,true,htz,by omega,rfl,rfl,by go_num,HB1,by show _=_;rw[H2.out];rfl⟩
     case measure=>simp[intOf];omega
    | true=>
     (go_wp2_with fail);refine(C1.out _).mono ?_;rintro e W2 ⟨rfl,b2⟩;have HB2:=qb (HB1.out.trans (b2.mono HB1.out.size));clear b2 HB1 C1
     by_cases hC:0<C
     ·have hd:decide (0<C)=true:=by simpa using hC
      (go_wp2_with fail);go_roundw
      case rel=>exact⟨i+1,t,true,htz,by omega,rfl,rfl,by go_num,HB2,by show _=_;rw[H2.out,hd];rfl⟩
      case measure=>simp[intOf];omega
     ·have hd:decide (0<C)=false:=by simpa using hC
      (go_wp2_with fail);go_roundw
      case rel=>exact⟨i+1,S,true,hS,by omega,rfl,rfl,by go_num,HB2,by show _=_;rw[H2.out,hd];rfl⟩
      case measure=>simp[intOf];omega
  ·have hlt':¬ (i:Int)<(n:Int):=by omega
   have hX:qpq p ts=(S,F):=by
    have:=HA.out
    rwa [List.take_of_length_le (by rw[HN.out];omega)]at this
   have HX:=qb hX;clear hX;(go_wp2_with fail);go_ret2
   exact⟨by rw[HX.out];rfl,HB.out⟩
theorem qbpg (Z p:Nat) (v:Value) (its:List It) (s:QY) (w:World) (hp:Boxed w p 50 v) (hv:ClsV Z w v its) (hl:its.length≤33) (hok:∀ x∈its,ClOK x.1) (hs:s.size≤140737488351232) :
  Calls Tryz.prog 48 #[.string s,.pointer (some ⟨p,0,none⟩)] w fun e w'=>e=.returned (.bool (qll (its.map Prod.fst) s.data.toList))∧Below w.heap.size w w':=by
 have WA:=qb (want_any Z v its s w hv hl hok hs);obtain⟨a,c,rfl,_⟩:=hv.at_;have c0:=hp.cell;clear hp hv hok;go_enter Tryz.func48,Tryz.ntmps48
 (go_wp2_with fail);refine(WA.out).mono ?_;rintro e w2 ⟨rfl,b2⟩;(go_wp2_with fail);go_ret
 exact⟨rfl,b2⟩
def qbgv (l:QB) (ts:List QB):QB×Bool:=if (pyL l).1=0 then qpq (qll (pyL l).2.2) ts else ([],false)
theorem qbkv (s:QY) (v:Value) (ts:List QB) (w:World) (hv:qz w v ts) (hln:ts.length≤9000000000000000000) (hz:∀ t∈ts,t.length≤140737488351232) :
  Calls Tryz.prog 20 #[.string s,v] w fun e w'=>e=.returned (.tuple #[.string (qd (qbgv s.data.toList ts).1),.bool (qbgv s.data.toList ts).2])∧Below w.heap.size w w':=by
 have RC:=qb (fun W=>qht s W);have hlen:=qbcf s.data.toList;have hall:=qwh s.data.toList;have hP:qbgv s.data.toList ts=if (pyL s.data.toList).1=0 then qpq (qll (pyL s.data.toList).2.2) ts else ([],false):=rfl;generalize pyL s.data.toList=G at *;obtain⟨er,p,cs⟩:=G;dsimp only at hP hlen hall;obtain⟨a,k,rfl,_⟩:=id hv;have HV:=qb hv;have HPP:=qb hP;have HLN:=qb hln;have HZ:=qb hz;clear hv hP hz;go_enter Tryz.func20,Tryz.ntmps20
 (go_wp2_with fail);refine(RC.out _).mono ?_;rintro e w1 ⟨b1,u,rfl,its,hits,hu⟩;dsimp only at hits;subst hits;have hl33:its.length≤33:=by simpa using hlen
 have hok:∀ x∈its,ClOK x.1:=fun x hx=>hall _ (List.mem_map_of_mem hx);obtain⟨ua,uc,rfl,_⟩:=hu.at_;obtain⟨V,hVV,n1,n2,bV,sV⟩:=ql w1 #[.slice ua its.length uc] #[.int .i64 er,.int .i64 (p:Int)] 50 25;have f0:=qc 0 n2 rfl;have f1:=qc 1 n2 rfl;have HB:=qb (b1.trans (bV.mono b1.size));have HU:=qb (hu.below bV);have HN1:=qb (n1:Boxed V w1.heap.size 50 (.slice ua its.length uc));have HVV:=qb hVV;have HT:=qb ((HV.out.below b1).below bV);have HOK:=qb hok;clear hlen hall b1 hu n1 n2 bV sV hVV hok
 by_cases he:er=0
 ·subst he;have LA:=qb (qbjz (qll (its.map Prod.fst)) w1.heap.size ts _ V HT.out HLN.out HZ.out (fun t ht W hb=>by
   have:=qbpg w.heap.size w1.heap.size _ its (qd t) W ((hb.block _ (Array.getElem?_eq_some_iff.1 HN1.out).1).trans HN1.out) (HU.out.below hb) hl33 HOK.out (by rw[←qg,qj];exact HZ.out t ht)
   rwa [qj]at this))
  go_upto_region 2 with fail
  rw[HVV.out];(go_wp2_with fail);refine(LA.out).mono ?_;rintro e w3 ⟨rfl,b3⟩;(go_wp2_with fail);go_ret2
  exact⟨by rw[HPP.out];rfl,HB.out.trans (b3.mono HB.out.size)⟩
 ·have n1:(er != 0)=true:=by simpa using he
  have n2:(er==0)=false:=by simpa using he
  have HE:=qb he;go_upto_region 2 with fail
  rw[HVV.out];(go_wp2_with fail);go_ret2
  exact⟨by rw[HPP.out,if_neg HE.out];rfl,HB.out⟩
def qcz (l u:QB):Bool:=decide ((pyL l).1=0)&&qll (pyL l).2.2 u
theorem qbjr (l u:QB):(qbgv l [u]).2=qcz l u:=by
 unfold qbgv qcz;split
 ·rename_i h;rw[h];show(latF (qll (pyL l).2.2) ([],false) u).2=_;unfold latF;cases qll (pyL l).2.2 u<;>simp
 ·rename_i h;simp[h]
theorem qcx (s t:QY) (w:World) (ht:t.size≤140737488351232) :
  Calls Tryz.prog 22 #[.string s,.string t] w fun e w'=>e=.returned (.bool (qcz s.data.toList t.data.toList))∧Below w.heap.size w w':=by
 rw [←qbjr];have n0:=World.alloc_heap_new w (.cells #[.string t] 9);have hal:Below w.heap.size w (w.alloc (.cells #[.string t] 9)):=(Below.refl _ w).alloc (Nat.le_refl _) _;have hT:qz (w.alloc (.cells #[.string t] 9)) (.slice (some ⟨w.heap.size,0,none⟩) 1 1) [t.data.toList]:=⟨_,1,rfl,.inr ⟨w.heap.size,0,rfl,by simp,fun i hi=>by
  obtain rfl:i=0:=by simpa using hi
  have:=qc 0 n0 rfl;rw[show([t.data.toList]:List QB)[0]=t.data.toList from rfl,qcw];exact this⟩⟩
 have PK:=qb (qbkv s _ [t.data.toList] _ hT (by simp) (fun x hx=>by simp at hx;subst hx;rw[qg];exact ht))
 have HAL:=qb hal;clear n0 hal hT;go_enter Tryz.func22,Tryz.ntmps22
 (go_wp2_with fail);refine(PK.out).mono ?_;rintro e w2 ⟨rfl,b2⟩;(go_wp2_with fail);go_ret
 exact⟨rfl,HAL.out.trans (b2.mono HAL.out.size)⟩
theorem ex_p0:pyL [61,49]=(10,1,[]):=by kernel_rfl
theorem ex_p1:pyL [62,61,49,44,44,60,50]=(10,4,[]):=by kernel_rfl
theorem ex_p2:pyL [126,61,49]=(19,2,[]):=by kernel_rfl
theorem ex_m0:qcz [62,61,49,46,48,44,32,33,61,49,46,53,46,42,44,32,60,50] [49,46,52]=true:=by kernel_rfl
theorem ex_m1:qcz [62,61,49,46,48,44,32,33,61,49,46,53,46,42,44,32,60,50] [49,46,54,46,112,111,115,116,49]=true:=by kernel_rfl
theorem ex_m2:qcz [62,61,49,46,48,44,32,33,61,49,46,53,46,42,44,32,60,50] [49,46,53,46,51]=false:=by kernel_rfl
theorem ex_m3:qcz [62,61,49,46,48,44,32,33,61,49,46,53,46,42,44,32,60,50] [50,46,48,97,49]=false:=by kernel_rfl
theorem ex_m4:qcz [62,61,49,46,48,44,32,33,61,49,46,53,46,42,44,32,60,50] [50,46,48]=false:=by kernel_rfl
theorem ex_m5:qcz [126,61,49,46,52,46,50] [49,46,52,46,57]=true:=by kernel_rfl
theorem ex_m6:qcz [126,61,49,46,52,46,50] [49,46,53]=false:=by kernel_rfl
theorem ex_m7:qcz [61,61,49,46,49] [49,46,49,46,48,43,108,111,99,97,108]=true:=by kernel_rfl
theorem ex_m8:qcz [62,49,46,55] [49,46,55,46,49]=true:=by kernel_rfl
theorem ex_m9:qcz [62,49,46,55] [49,46,55,46,48,46,112,111,115,116,49]=false:=by kernel_rfl
theorem ex_m10:qcz [62,61,50,46,48,97,49] [50,46,48,98,49]=true:=by kernel_rfl
end Go.Proofs.YtabmfdedbpmfmaaGreat
