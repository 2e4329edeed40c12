/- Walks: what clauses mean. -/
import Derived.Test.YtabmfdedbpmfmaaGreatVGu
import Derived.Deep.Cut
import Derived.Test.YtabmfdedbpmfmaaGreatVYc
import Derived.Test.YtabmfdedbpmfmaaGreatVGp
import Derived.Test.YtabmfdedbpmfmaaGreatVZe
namespace Go.Proofs.YtabmfdedbpmfmaaGreat
open Go.RowKit Go.Shelf
set_option linter.unusedVariables false
set_option maxHeartbeats 4000000
set_option maxRecDepth 100000
theorem more_any (x y:PepL) (r1 r2 q1 q2:Option Addr) (c1 c2 d1 d2:Nat) (t u:QY) (st su:Bool) (w:World) (ra:qx w (.slice r1 x.rel.length c1) x.rel) (rb:qx w (.slice r2 y.rel.length c2) y.rel) (la:qx w (.slice q1 x.loc.length d1) x.loc) (lb:qx w (.slice q2 y.loc.length d2) y.loc)
  (S:Bool) (O:Int) (SB:∀ W,qx W (.slice r1 x.rel.length c1) x.rel→qx W (.slice r2 y.rel.length c2) y.rel→qx W (.slice q1 x.loc.length d1) x.loc→qx W (.slice q2 y.loc.length d2) y.loc→Calls Tryz.prog 177 #[.agg #[.string (qd x.ep),.slice r1 x.rel.length c1,.int .u8 x.c,.string (qd x.n),.bool x.b,.string (qd x.m),.bool x.d,.string (qd x.k),.slice q1 x.loc.length d1,.string t,.bool st],.agg #[.string (qd y.ep),.slice r2 y.rel.length c2,.int .u8 y.c,.string (qd y.n),.bool y.b,.string (qd y.m),.bool y.d,.string (qd y.k),.slice q2 y.loc.length d2,.string u,.bool su]] W fun e W'=>e=.returned (.bool S)∧Below W.heap.size W W') (OD:∀ W,qx W (.slice r1 x.rel.length c1) x.rel→qx W (.slice r2 y.rel.length c2) y.rel→qx W (.slice q1 x.loc.length d1) x.loc→qx W (.slice q2 y.loc.length d2) y.loc→Calls Tryz.prog 176 #[.agg #[.string (qd x.ep),.slice r1 x.rel.length c1,.int .u8 x.c,.string (qd x.n),.bool x.b,.string (qd x.m),.bool x.d,.string (qd x.k),.slice q1 x.loc.length d1],.agg #[.string (qd y.ep),.slice r2 y.rel.length c2,.int .u8 y.c,.string (qd y.n),.bool y.b,.string (qd y.m),.bool y.d,.string (qd y.k),.slice q2 y.loc.length d2]] W fun e W'=>e=.returned (.int .i64 O)∧Below W.heap.size W W') :
  Calls Tryz.prog 158 #[.agg #[.string (qd x.ep),.slice r1 x.rel.length c1,.int .u8 x.c,.string (qd x.n),.bool x.b,.string (qd x.m),.bool x.d,.string (qd x.k),.slice q1 x.loc.length d1,.string t,.bool st],.agg #[.string (qd y.ep),.slice r2 y.rel.length c2,.int .u8 y.c,.string (qd y.n),.bool y.b,.string (qd y.m),.bool y.d,.string (qd y.k),.slice q2 y.loc.length d2,.string u,.bool su]] w fun e w'=>e=.returned (.bool (!(S&&(!pubB x||x.b&&!y.b))&&decide (0<O)))∧Below w.heap.size w w':=by
 have S0:=VB.start ra rb la lb t u st su;have SB:=qb SB;have OD:=qb OD;clear ra rb la lb;have PB:=qb (fun W=>qhb x r1 q1 c1 d1 W);generalize hR:(!(S&&(!pubB x||x.b&&!y.b))&&decide (0<O))=R;have HR:=qb hR;clear hR;generalize pubB x=px at *;cases S
 ·have HR3:Hid (R=decide (0<O)):=qb (by rw[←HR.out];simp)
  go_enter Tryz.func158,Tryz.ntmps158
  (go_wp2_with fail);generalize (w.alloc _).alloc _=W0 at *;obtain⟨s0,s1,s2,s3,s4,s5,s6,s7,s8,s9,s10,_⟩:=qh S0.ea;obtain⟨v0,v1,v2,v3,v4,v5,v6,v7,v8,v9,v10,_⟩:=qh S0.eb
  try rw[hb]at s4
  try rw[hd]at v4
  (go_wp2_with fail);refine(SB.out _ S0.ra S0.rb S0.la S0.lb).mono ?_;rintro e w1 ⟨rfl,b1⟩;have S1:=S0.next b1;clear s0 s1 s2 s3 s4 s5 s6 s7 s8 s9 s10 v0 v1 v2 v3 v4 v5 v6 v7 v8 v9 v10 b1;obtain⟨s0,s1,s2,s3,s4,s5,s6,s7,s8,s9,s10,_⟩:=qh S1.ea;obtain⟨v0,v1,v2,v3,v4,v5,v6,v7,v8,v9,v10,_⟩:=qh S1.eb
  try rw[hb]at s4
  try rw[hd]at v4
  (go_wp2_with fail);refine(OD.out _ S1.ra S1.rb S1.la S1.lb).mono ?_;rintro e w2 ⟨rfl,b2⟩;have S2:=S1.next b2;clear s0 s1 s2 s3 s4 s5 s6 s7 s8 s9 s10 v0 v1 v2 v3 v4 v5 v6 v7 v8 v9 v10 b2;obtain⟨s0,s1,s2,s3,s4,s5,s6,s7,s8,s9,s10,_⟩:=qh S2.ea;obtain⟨v0,v1,v2,v3,v4,v5,v6,v7,v8,v9,v10,_⟩:=qh S2.eb
  try rw[hb]at s4
  try rw[hd]at v4
  (go_wp2_with fail);go_ret
  exact⟨by rw[HR3.out];rfl,S2.bel⟩
 ·cases px
  ·have HR3:Hid (R=false):=qb (by rw[←HR.out];simp)
   go_enter Tryz.func158,Tryz.ntmps158
   (go_wp2_with fail);generalize (w.alloc _).alloc _=W0 at *;obtain⟨s0,s1,s2,s3,s4,s5,s6,s7,s8,s9,s10,_⟩:=qh S0.ea;obtain⟨v0,v1,v2,v3,v4,v5,v6,v7,v8,v9,v10,_⟩:=qh S0.eb
   try rw[hb]at s4
   try rw[hd]at v4
   (go_wp2_with fail);refine(SB.out _ S0.ra S0.rb S0.la S0.lb).mono ?_;rintro e w1 ⟨rfl,b1⟩;have S1:=S0.next b1;clear s0 s1 s2 s3 s4 s5 s6 s7 s8 s9 s10 v0 v1 v2 v3 v4 v5 v6 v7 v8 v9 v10 b1;obtain⟨s0,s1,s2,s3,s4,s5,s6,s7,s8,s9,s10,_⟩:=qh S1.ea;obtain⟨v0,v1,v2,v3,v4,v5,v6,v7,v8,v9,v10,_⟩:=qh S1.eb
   try rw[hb]at s4
   try rw[hd]at v4
   (go_wp2_with fail);refine(PB.out _).mono ?_;rintro e w2 ⟨rfl,b2⟩;have S2:=S1.next b2;clear s0 s1 s2 s3 s4 s5 s6 s7 s8 s9 s10 v0 v1 v2 v3 v4 v5 v6 v7 v8 v9 v10 b2;obtain⟨s0,s1,s2,s3,s4,s5,s6,s7,s8,s9,s10,_⟩:=qh S2.ea;obtain⟨v0,v1,v2,v3,v4,v5,v6,v7,v8,v9,v10,_⟩:=qh S2.eb
   try rw[hb]at s4
   try rw[hd]at v4
   (go_wp2_with fail);go_ret
   exact⟨by rw[HR3.out];rfl,S2.bel⟩
  ·generalize hb:x.b=xb at *;cases xb
   ·have HR3:Hid (R=decide (0<O)):=qb (by rw[←HR.out];simp)
    go_enter Tryz.func158,Tryz.ntmps158
    (go_wp2_with fail);generalize (w.alloc _).alloc _=W0 at *;obtain⟨s0,s1,s2,s3,s4,s5,s6,s7,s8,s9,s10,_⟩:=qh S0.ea;obtain⟨v0,v1,v2,v3,v4,v5,v6,v7,v8,v9,v10,_⟩:=qh S0.eb
    try rw[hb]at s4
    try rw[hd]at v4
    (go_wp2_with fail);refine(SB.out _ S0.ra S0.rb S0.la S0.lb).mono ?_;rintro e w1 ⟨rfl,b1⟩;have S1:=S0.next b1;clear s0 s1 s2 s3 s4 s5 s6 s7 s8 s9 s10 v0 v1 v2 v3 v4 v5 v6 v7 v8 v9 v10 b1;obtain⟨s0,s1,s2,s3,s4,s5,s6,s7,s8,s9,s10,_⟩:=qh S1.ea;obtain⟨v0,v1,v2,v3,v4,v5,v6,v7,v8,v9,v10,_⟩:=qh S1.eb
    try rw[hb]at s4
    try rw[hd]at v4
    (go_wp2_with fail);refine(PB.out _).mono ?_;rintro e w2 ⟨rfl,b2⟩;have S2:=S1.next b2;clear s0 s1 s2 s3 s4 s5 s6 s7 s8 s9 s10 v0 v1 v2 v3 v4 v5 v6 v7 v8 v9 v10 b2;obtain⟨s0,s1,s2,s3,s4,s5,s6,s7,s8,s9,s10,_⟩:=qh S2.ea;obtain⟨v0,v1,v2,v3,v4,v5,v6,v7,v8,v9,v10,_⟩:=qh S2.eb
    try rw[hb]at s4
    try rw[hd]at v4
    (go_wp2_with fail);refine(OD.out _ S2.ra S2.rb S2.la S2.lb).mono ?_;rintro e w3 ⟨rfl,b3⟩;have S3:=S2.next b3;clear s0 s1 s2 s3 s4 s5 s6 s7 s8 s9 s10 v0 v1 v2 v3 v4 v5 v6 v7 v8 v9 v10 b3;obtain⟨s0,s1,s2,s3,s4,s5,s6,s7,s8,s9,s10,_⟩:=qh S3.ea;obtain⟨v0,v1,v2,v3,v4,v5,v6,v7,v8,v9,v10,_⟩:=qh S3.eb
    try rw[hb]at s4
    try rw[hd]at v4
    (go_wp2_with fail);go_ret
    exact⟨by rw[HR3.out];rfl,S3.bel⟩
   ·generalize hd:y.b=yb at *;cases yb
    ·have HR3:Hid (R=false):=qb (by rw[←HR.out];simp)
     go_enter Tryz.func158,Tryz.ntmps158
     (go_wp2_with fail);generalize (w.alloc _).alloc _=W0 at *;obtain⟨s0,s1,s2,s3,s4,s5,s6,s7,s8,s9,s10,_⟩:=qh S0.ea;obtain⟨v0,v1,v2,v3,v4,v5,v6,v7,v8,v9,v10,_⟩:=qh S0.eb
     try rw[hb]at s4
     try rw[hd]at v4
     (go_wp2_with fail);refine(SB.out _ S0.ra S0.rb S0.la S0.lb).mono ?_;rintro e w1 ⟨rfl,b1⟩;have S1:=S0.next b1;clear s0 s1 s2 s3 s4 s5 s6 s7 s8 s9 s10 v0 v1 v2 v3 v4 v5 v6 v7 v8 v9 v10 b1;obtain⟨s0,s1,s2,s3,s4,s5,s6,s7,s8,s9,s10,_⟩:=qh S1.ea;obtain⟨v0,v1,v2,v3,v4,v5,v6,v7,v8,v9,v10,_⟩:=qh S1.eb
     try rw[hb]at s4
     try rw[hd]at v4
     (go_wp2_with fail);refine(PB.out _).mono ?_;rintro e w2 ⟨rfl,b2⟩;have S2:=S1.next b2;clear s0 s1 s2 s3 s4 s5 s6 s7 s8 s9 s10 v0 v1 v2 v3 v4 v5 v6 v7 v8 v9 v10 b2;obtain⟨s0,s1,s2,s3,s4,s5,s6,s7,s8,s9,s10,_⟩:=qh S2.ea;obtain⟨v0,v1,v2,v3,v4,v5,v6,v7,v8,v9,v10,_⟩:=qh S2.eb
     try rw[hb]at s4
     try rw[hd]at v4
     (go_wp2_with fail);go_ret
     exact⟨by rw[HR3.out];rfl,S2.bel⟩
    ·have HR3:Hid (R=decide (0<O)):=qb (by rw[←HR.out];simp)
     go_enter Tryz.func158,Tryz.ntmps158
     (go_wp2_with fail);generalize (w.alloc _).alloc _=W0 at *;obtain⟨s0,s1,s2,s3,s4,s5,s6,s7,s8,s9,s10,_⟩:=qh S0.ea;obtain⟨v0,v1,v2,v3,v4,v5,v6,v7,v8,v9,v10,_⟩:=qh S0.eb
     try rw[hb]at s4
     try rw[hd]at v4
     (go_wp2_with fail);refine(SB.out _ S0.ra S0.rb S0.la S0.lb).mono ?_;rintro e w1 ⟨rfl,b1⟩;have S1:=S0.next b1;clear s0 s1 s2 s3 s4 s5 s6 s7 s8 s9 s10 v0 v1 v2 v3 v4 v5 v6 v7 v8 v9 v10 b1;obtain⟨s0,s1,s2,s3,s4,s5,s6,s7,s8,s9,s10,_⟩:=qh S1.ea;obtain⟨v0,v1,v2,v3,v4,v5,v6,v7,v8,v9,v10,_⟩:=qh S1.eb
     try rw[hb]at s4
     try rw[hd]at v4
     (go_wp2_with fail);refine(PB.out _).mono ?_;rintro e w2 ⟨rfl,b2⟩;have S2:=S1.next b2;clear s0 s1 s2 s3 s4 s5 s6 s7 s8 s9 s10 v0 v1 v2 v3 v4 v5 v6 v7 v8 v9 v10 b2;obtain⟨s0,s1,s2,s3,s4,s5,s6,s7,s8,s9,s10,_⟩:=qh S2.ea;obtain⟨v0,v1,v2,v3,v4,v5,v6,v7,v8,v9,v10,_⟩:=qh S2.eb
     try rw[hb]at s4
     try rw[hd]at v4
     (go_wp2_with fail);refine(OD.out _ S2.ra S2.rb S2.la S2.lb).mono ?_;rintro e w3 ⟨rfl,b3⟩;have S3:=S2.next b3;clear s0 s1 s2 s3 s4 s5 s6 s7 s8 s9 s10 v0 v1 v2 v3 v4 v5 v6 v7 v8 v9 v10 b3;obtain⟨s0,s1,s2,s3,s4,s5,s6,s7,s8,s9,s10,_⟩:=qh S3.ea;obtain⟨v0,v1,v2,v3,v4,v5,v6,v7,v8,v9,v10,_⟩:=qh S3.eb
     try rw[hb]at s4
     try rw[hd]at v4
     (go_wp2_with fail);go_ret
     exact⟨by rw[HR3.out];rfl,S3.bel⟩
set_option maxHeartbeats 4000000
set_option maxRecDepth 100000
theorem qbbq (x y:PepL) (r1 r2 q1 q2:Option Addr) (c1 c2 d1 d2:Nat) (t u:QY) (st su:Bool) (w:World) (ra:qx w (.slice r1 x.rel.length c1) x.rel) (rb:qx w (.slice r2 y.rel.length c2) y.rel) (la:qx w (.slice q1 x.loc.length d1) x.loc) (lb:qx w (.slice q2 y.loc.length d2) y.loc) (ht:t.size≤maxLen) (hu:u.size≤maxLen) :
 Calls Tryz.prog 160 #[.agg #[.string (qd x.ep),.slice r1 x.rel.length c1,.int .u8 x.c,.string (qd x.n),.bool x.b,.string (qd x.m),.bool x.d,.string (qd x.k),.slice q1 x.loc.length d1,.string t,.bool st],.agg #[.string (qd y.ep),.slice r2 y.rel.length c2,.int .u8 y.c,.string (qd y.n),.bool y.b,.string (qd y.m),.bool y.d,.string (qd y.k),.slice q2 y.loc.length d2,.string u,.bool su]] w fun e w'=>e=.returned (.bool (t.data.toList.map lowC==u.data.toList.map lowC))∧Below w.heap.size w w':=by
  have S0:=VB.start ra rb la lb t u st su;have L1:=qb (fun W=>qmw t W ht);have L2:=qb (fun W=>qmw u W hu);have HE:((qd (t.data.toList.map lowC)).toList==(qd (u.data.toList.map lowC)).toList)=(t.data.toList.map lowC==u.data.toList.map lowC):=by rw[toL,toL,qj,qj]
  generalize (t.data.toList.map lowC==u.data.toList.map lowC)=E at *;generalize t.data.toList.map lowC=lt at *;generalize u.data.toList.map lowC=lu at *;clear ra rb la lb ht hu;go_enter Tryz.func160,Tryz.ntmps160
  (go_wp2_with fail);generalize (w.alloc _).alloc _=W0 at *;obtain⟨s0,s1,s2,s3,s4,s5,s6,s7,s8,s9,s10,_⟩:=qh S0.ea;obtain⟨v0,v1,v2,v3,v4,v5,v6,v7,v8,v9,v10,_⟩:=qh S0.eb;have D0:=S0.next (Below.refl _ _).drew
  go_region_held3 (fun w'=>w'.cell? ⟨w.heap.size,9,none⟩=some (.string t)∧w'.cell? ⟨w.heap.size+1,9,none⟩=some (.string u))
    (go_keep)
    ((first
      | (have hq:=Q1;go_at_call 95;refine(L2.out _).mono ?_;rintro e w6 ⟨rfl,b6⟩;have Q2:=Q1.next b6;obtain⟨g0,g1,g2,g3,g4,g5,g6,g7,g8,g9,g10,_⟩:=qh Q2.ea;obtain⟨h0,h1,h2,h3,h4,h5,h6,h7,h8,h9,h10,_⟩:=qh Q2.eb)
      | (go_at_call 95;refine(L1.out _).mono ?_;rintro e w5 ⟨rfl,b5⟩;have Q1:=D0.next b5;obtain⟨e0,e1,e2,e3,e4,e5,e6,e7,e8,e9,e10,_⟩:=qh Q1.ea;obtain⟨f0,f1,f2,f3,f4,f5,f6,f7,f8,f9,f10,_⟩:=qh Q1.eb)
      | fail))
  (go_wp2_with fail);go_ret
  exact⟨rfl,Q2.bel⟩
set_option maxHeartbeats 4000000
set_option maxRecDepth 100000
theorem qtg (x y:PepL) (r1 q1 q2:Option Addr) (b2 o2 c1 c2 d1 d2:Nat) (t u:QY) (st su:Bool) (w:World) (ra:qx w (.slice r1 x.rel.length c1) x.rel) (rb:qx w (.slice (some ⟨b2,o2,none⟩) y.rel.length c2) y.rel) (la:qx w (.slice q1 x.loc.length d1) x.loc) (lb:qx w (.slice q2 y.loc.length d2) y.loc) (n:Nat) (hn:y.rel.length=n+1) (hc:n+1≤c2) (hl:n≤1048576) (F B:Bool)
  (FR:∀ W,qx W (.slice r1 x.rel.length c1) x.rel→qx W (.slice (some ⟨b2,o2,none⟩) y.rel.length c2) y.rel→qx W (.slice q1 x.loc.length d1) x.loc→qx W (.slice q2 y.loc.length d2) y.loc→Calls Tryz.prog 156 #[.agg #[.string (qd x.ep),.slice r1 x.rel.length c1,.int .u8 x.c,.string (qd x.n),.bool x.b,.string (qd x.m),.bool x.d,.string (qd x.k),.slice q1 x.loc.length d1,.string t,.bool st],.agg #[.string (qd y.ep),.slice (some ⟨b2,o2,none⟩) y.rel.length c2,.int .u8 y.c,.string (qd y.n),.bool y.b,.string (qd y.m),.bool y.d,.string (qd y.k),.slice q2 y.loc.length d2,.string u,.bool su]] W fun e W'=>e=.returned (.bool F)∧Below W.heap.size W W')
  (BG:∀ W,qx W (.slice r1 x.rel.length c1) x.rel→qx W (.slice (some ⟨b2,o2,none⟩) y.rel.length c2) y.rel→qx W (.slice q1 x.loc.length d1) x.loc→qx W (.slice q2 y.loc.length d2) y.loc→Calls Tryz.prog 172 #[.agg #[.string (qd x.ep),.slice r1 x.rel.length c1,.int .u8 x.c,.string (qd x.n),.bool x.b,.string (qd x.m),.bool x.d,.string (qd x.k),.slice q1 x.loc.length d1],.agg #[.string (qd y.ep),.slice (some ⟨b2,o2,none⟩) n c2,.int .u8 0,.string ⟨#[]⟩,.bool false,.string ⟨#[]⟩,.bool false,.string ⟨#[]⟩,.slice none 0 0]] W fun e W'=>e=.returned (.bool B)∧Below W.heap.size W W') :
  Calls Tryz.prog 150 #[.agg #[.string (qd x.ep),.slice r1 x.rel.length c1,.int .u8 x.c,.string (qd x.n),.bool x.b,.string (qd x.m),.bool x.d,.string (qd x.k),.slice q1 x.loc.length d1,.string t,.bool st],.agg #[.string (qd y.ep),.slice (some ⟨b2,o2,none⟩) y.rel.length c2,.int .u8 y.c,.string (qd y.n),.bool y.b,.string (qd y.m),.bool y.d,.string (qd y.k),.slice q2 y.loc.length d2,.string u,.bool su]] w fun e w'=>e=.returned (.bool (F&&B))∧Below w.heap.size w w':=by
 have hnn:((y.rel.length:Int)-1)=(n:Int):=by omega
 have HN:=qb hn;clear hn;have S0:=VB.start ra rb la lb t u st su;have B1:=qb (fun W=>qwn y (some ⟨b2,o2,none⟩) q2 c2 d2 W);have FR:=qb FR;have BG:=qb BG;clear ra rb la lb;go_enter Tryz.func150,Tryz.ntmps150
 (go_wp2_with fail);generalize (w.alloc _).alloc _=W0 at *;obtain⟨s0,s1,s2,s3,s4,s5,s6,s7,s8,s9,s10,_⟩:=qh S0.ea;obtain⟨v0,v1,v2,v3,v4,v5,v6,v7,v8,v9,v10,_⟩:=qh S0.eb;(go_wp2_with fail);refine(B1.out _).mono ?_;rintro e w1 ⟨rfl,b1⟩;have S1:=S0.next b1;have hb2:Below w1.heap.size w1 (w1.alloc (.cells #[.string (qd y.ep),.slice (some ⟨b2,o2,none⟩) n c2,.int .u8 0,.string ⟨#[]⟩,.bool false,.string ⟨#[]⟩,.bool false,.string ⟨#[]⟩,.slice none 0 0] 44)):=(Below.refl _ _).alloc (Nat.le_refl _) _;have n2:=World.alloc_heap_new w1 (.cells #[.string (qd y.ep),.slice (some ⟨b2,o2,none⟩) n c2,.int .u8 0,.string ⟨#[]⟩,.bool false,.string ⟨#[]⟩,.bool false,.string ⟨#[]⟩,.slice none 0 0] 44);have S2:=S1.next hb2;have hsz2:w1.heap.size<(w1.alloc (.cells #[.string (qd y.ep),.slice (some ⟨b2,o2,none⟩) n c2,.int .u8 0,.string ⟨#[]⟩,.bool false,.string ⟨#[]⟩,.bool false,.string ⟨#[]⟩,.slice none 0 0] 44)).heap.size:=by simp
 have hcc:(n:Int)≤(c2:Int):=by omega
 clear b1 S0 s0 v0 s1 v1 s2 v2 s3 v3 s4 v4 s5 v5 s6 v6 s7 v7 s8 v8 s9 v9 s10 v10;go_upto_region 3 with fail
 generalize w1.alloc _=W2 at *;obtain⟨s0,s1,s2,s3,s4,s5,s6,s7,s8,s9,s10,_⟩:=qh S2.ea;obtain⟨v0,v1,v2,v3,v4,v5,v6,v7,v8,v9,v10,_⟩:=qh S2.eb;have N2:=qb n2;clear n2 S1 hb2;cases F
 ·(go_wp2_with fail);refine(FR.out _ S2.ra S2.rb S2.la S2.lb).mono ?_;rintro e w3 ⟨rfl,b3⟩;have S3:=S2.next b3;(go_wp2_with fail);go_ret
  exact⟨rfl,S3.bel⟩
 ·(go_wp2_with fail);refine(FR.out _ S2.ra S2.rb S2.la S2.lb).mono ?_;rintro e w3 ⟨rfl,b3⟩;have S3:=S2.next b3;have n3:=(b3.block _ hsz2).trans N2.out;clear s0 v0 s1 v1 s2 v2 s3 v3 s4 v4 s5 v5 s6 v6 s7 v7 s8 v8 s9 v9 s10 v10 b3;obtain⟨s0,s1,s2,s3,s4,s5,s6,s7,s8,s9,s10,_⟩:=qh S3.ea;obtain⟨x0,x1,x2,x3,x4,x5,x6,x7,x8,_⟩:=qbw n3;(go_wp2_with fail);refine(BG.out _ S3.ra S3.rb S3.la S3.lb).mono ?_;rintro e w4 ⟨rfl,b4⟩;have S4:=S3.next b4;(go_wp2_with fail);go_ret
  exact⟨by simp,S4.bel⟩
open Nat renaming zero_le → qbsw
def hpub (x:PepL):PepL:=⟨x.ep,x.rel,x.c,x.n,x.b,x.m,x.d,x.k,[]⟩
def qjb (x:PepL):PepL:=⟨x.ep,x.rel,0,[],false,[],false,[],[]⟩
structure VerOK (x:PepL):Prop where
 small:SmallP x
 fit:FitT x
 len:x.rel.length≤65
theorem qtk {l:QB} (h:okP l=true):VerOK (ql (qk l)):=by
 have h1:(qk l).length≤64:=by rw[qdw];exact(qkn h).2
 exact⟨qhg _ h1,qnx h,(qkf _ h1).r.1⟩
theorem VerOK.pub {x:PepL} (h:VerOK x):SmallP (hpub x)∧FitT (hpub x):=
 ⟨⟨h.small.e,h.small.n,h.small.m,h.small.k,h.small.r,⟨qbsw _,fun t ht=>by cases ht⟩,h.small.rI,qbsw _⟩,⟨h.fit.f1,h.fit.f2,h.fit.f3,h.fit.f4,h.fit.f5,h.fit.f6,h.fit.f7,rfl⟩⟩
theorem VerOK.base {x:PepL} (h:VerOK x):SmallP (qjb x)∧FitT (qjb x):=
 ⟨⟨h.small.e,qbsw _,qbsw _,qbsw _,h.small.r,⟨qbsw _,fun t ht=>by cases ht⟩,h.small.rI,qbsw _⟩,⟨h.fit.f1,h.fit.f2,h.fit.f3,.inl rfl,rfl,rfl,rfl,rfl⟩⟩
def preP (x:PepL):Bool:=x.c != 0||x.d
def qwt (x y:PepL):Bool:=ordP (qjb x) (qjb y)==0
def eqP (x y:PepL) (su:Bool):Bool:=if su=true then begB x.ep x.rel y.ep y.rel else if pubB y=true then ordP (hpub x) y==0 else ordP x y==0
def qfp (k:Nat) (x:PepL) (t:QB) (y:PepL) (u:QB) (su:Bool):Bool:=
 match k with
 | 0=>decide (0≤ordP (hpub x) y)&&begB x.ep x.rel y.ep y.rel.dropLast
 | 1=>eqP x y su
 | 2=>!eqP x y su
 | 3=>decide (ordP (hpub x) y≤0)
 | 4=>decide (0≤ordP (hpub x) y)
 | 5=>!(qwt x y&&preP x&&!preP y)&&decide (ordP x y<0)
 | 6=>!(qwt x y&&(!pubB x||x.b&&!y.b))&&decide (0<ordP x y)
 | _=>t.map lowC==u.map lowC
theorem qzv (x y:PepL) (r1 r2 q1 q2:Option Addr) (c1 c2 d1 d2:Nat) (t u:QY) (st su:Bool) (w:World) (ra:qx w (.slice r1 x.rel.length c1) x.rel) (rb:qx w (.slice r2 y.rel.length c2) y.rel) (la:qx w (.slice q1 x.loc.length d1) x.loc) (lb:qx w (.slice q2 y.loc.length d2) y.loc) (hx:VerOK x) (hy:VerOK y) (hn:r1=none→c1=0) :
 Calls Tryz.prog 175 #[.agg #[.string (qd x.ep),.slice r1 x.rel.length c1,.int .u8 x.c,.string (qd x.n),.bool x.b,.string (qd x.m),.bool x.d,.string (qd x.k),.slice q1 x.loc.length d1,.string t,.bool st],.agg #[.string (qd y.ep),.slice r2 y.rel.length c2,.int .u8 y.c,.string (qd y.n),.bool y.b,.string (qd y.m),.bool y.d,.string (qd y.k),.slice q2 y.loc.length d2,.string u,.bool su]] w fun e W'=>e=.returned (.int .i64 (ordP (hpub x) y))∧Below w.heap.size w W':=
  qsp x y r1 r2 q1 q2 c1 c2 d1 d2 t u st su w ra rb la lb (ordP (hpub x) y)
    (fun W h1 h2=>(qbkk x r1 q1 c1 d1 W h1 h2 (by have:=hx.len;omega) hn).mono fun e w' h=>by
      obtain⟨v',rfl,ho,hb⟩:=h;obtain⟨a,k,rfl,_⟩:=qqh ho;exact⟨a,k,rfl,qtf ho,hb⟩)
    (fun a k W h1 h2 h3=>qrs (hpub x) y a r2 none q2 k c2 0 d2 W h1 h2 ⟨none,0,rfl,.inl rfl⟩ h3 hx.pub.1 hy.small hx.pub.2 hy.fit)
theorem SB_any (x y:PepL) (r1 r2 q1 q2:Option Addr) (c1 c2 d1 d2:Nat) (t u:QY) (st su:Bool) (w:World) (ra:qx w (.slice r1 x.rel.length c1) x.rel) (rb:qx w (.slice r2 y.rel.length c2) y.rel) (la:qx w (.slice q1 x.loc.length d1) x.loc) (lb:qx w (.slice q2 y.loc.length d2) y.loc) (hx:VerOK x) (hy:VerOK y) :
  Calls Tryz.prog 177 #[.agg #[.string (qd x.ep),.slice r1 x.rel.length c1,.int .u8 x.c,.string (qd x.n),.bool x.b,.string (qd x.m),.bool x.d,.string (qd x.k),.slice q1 x.loc.length d1,.string t,.bool st],.agg #[.string (qd y.ep),.slice r2 y.rel.length c2,.int .u8 y.c,.string (qd y.n),.bool y.b,.string (qd y.m),.bool y.d,.string (qd y.k),.slice q2 y.loc.length d2,.string u,.bool su]] w fun e W'=>e=.returned (.bool (qwt x y))∧Below w.heap.size w W':=
 qbck x y r1 r2 q1 q2 c1 c2 d1 d2 t u st su w ra rb la lb (ordP (qjb x) (qjb y))
  (fun W h1 h2=>qrs (qjb x) (qjb y) r1 r2 none none c1 c2 0 0 W h1 h2 ⟨none,0,rfl,.inl rfl⟩ ⟨none,0,rfl,.inl rfl⟩ hx.base.1 hy.base.1 hx.base.2 hy.base.2)
theorem qbmf (x y:PepL) (r1 r2 q1 q2:Option Addr) (c1 c2 d1 d2:Nat) (w:World) (ra:qx w (.slice r1 x.rel.length c1) x.rel) (rb:qx w (.slice r2 y.rel.length c2) y.rel) (la:qx w (.slice q1 x.loc.length d1) x.loc) (lb:qx w (.slice q2 y.loc.length d2) y.loc) (hx:VerOK x) (hy:VerOK y) :
  Calls Tryz.prog 176 #[.agg #[.string (qd x.ep),.slice r1 x.rel.length c1,.int .u8 x.c,.string (qd x.n),.bool x.b,.string (qd x.m),.bool x.d,.string (qd x.k),.slice q1 x.loc.length d1],.agg #[.string (qd y.ep),.slice r2 y.rel.length c2,.int .u8 y.c,.string (qd y.n),.bool y.b,.string (qd y.m),.bool y.d,.string (qd y.k),.slice q2 y.loc.length d2]] w fun e W'=>e=.returned (.int .i64 (ordP x y))∧Below w.heap.size w W':=
 qrs x y r1 r2 q1 q2 c1 c2 d1 d2 w ra rb la lb hx.small hy.small hx.fit hy.fit
theorem BG_any (x:PepL) (ep:QB) (rs:List QB) (r1 q1 r2:Option Addr) (c1 d1 c2:Nat) (v2 v3 v4 v5 v6 v7 v8:Value) (w:World) (ra:qx w (.slice r1 x.rel.length c1) x.rel) (rb:qx w (.slice r2 rs.length c2) rs) (hx:VerOK x) (hl:rs.length≤65) :
  Calls Tryz.prog 172 #[.agg #[.string (qd x.ep),.slice r1 x.rel.length c1,.int .u8 x.c,.string (qd x.n),.bool x.b,.string (qd x.m),.bool x.d,.string (qd x.k),.slice q1 x.loc.length d1],.agg #[.string (qd ep),.slice r2 rs.length c2,v2,v3,v4,v5,v6,v7,v8]] w fun e w'=>e=.returned (.bool (begB x.ep x.rel ep rs))∧Below w.heap.size w w':=by
 obtain⟨g,o,rfl,_⟩:=ra.some (List.length_pos_iff.2 hx.fit.f2);exact qbml x ep rs g o c1 d1 c2 q1 r2 v2 v3 v4 v5 v6 v7 v8 w ra hx.fit.f2 rb (by have:=hx.len;omega) (by omega)
theorem EQ_any (x y:PepL) (r1 r2 q1 q2:Option Addr) (c1 c2 d1 d2:Nat) (t u:QY) (st su:Bool) (w:World) (ra:qx w (.slice r1 x.rel.length c1) x.rel) (rb:qx w (.slice r2 y.rel.length c2) y.rel) (la:qx w (.slice q1 x.loc.length d1) x.loc) (lb:qx w (.slice q2 y.loc.length d2) y.loc) (hx:VerOK x) (hy:VerOK y) (hn:r1=none→c1=0) :
  Calls Tryz.prog 152 #[.agg #[.string (qd x.ep),.slice r1 x.rel.length c1,.int .u8 x.c,.string (qd x.n),.bool x.b,.string (qd x.m),.bool x.d,.string (qd x.k),.slice q1 x.loc.length d1,.string t,.bool st],.agg #[.string (qd y.ep),.slice r2 y.rel.length c2,.int .u8 y.c,.string (qd y.n),.bool y.b,.string (qd y.m),.bool y.d,.string (qd y.k),.slice q2 y.loc.length d2,.string u,.bool su]] w fun e W'=>e=.returned (.bool (eqP x y su))∧Below w.heap.size w W':=
 qbrk x y r1 r2 q1 q2 c1 c2 d1 d2 t u st su w ra rb la lb (begB x.ep x.rel y.ep y.rel) (ordP (hpub x) y) (ordP x y)
  (fun W h1 h2 h3 h4=>BG_any x y.ep y.rel r1 q1 r2 c1 d1 c2 _ _ _ _ _ _ _ W h1 h2 hx hy.len)
  (fun W h1 h2 h3 h4=>qzv x y r1 r2 q1 q2 c1 c2 d1 d2 t u st su W h1 h2 h3 h4 hx hy hn)
  (fun W h1 h2 h3 h4=>qbmf x y r1 r2 q1 q2 c1 c2 d1 d2 W h1 h2 h3 h4 hx hy)
theorem qbrr (k:Nat) (hk:k<8) (x y:PepL) (r1 r2 q1 q2:Option Addr) (c1 c2 d1 d2:Nat) (t u:QY) (st su:Bool) (w:World) (ra:qx w (.slice r1 x.rel.length c1) x.rel) (rb:qx w (.slice r2 y.rel.length c2) y.rel) (la:qx w (.slice q1 x.loc.length d1) x.loc) (lb:qx w (.slice q2 y.loc.length d2) y.loc) (hx:VerOK x) (hn:r1=none→c1=0) (hy:k≠7→VerOK y) (hc2:k=0→y.rel.length≤c2) (h2:k=0→2≤y.rel.length) (ht:t.size≤maxLen) (hu:u.size≤maxLen) :
  Calls Tryz.prog (hoF k) #[.agg #[.string (qd x.ep),.slice r1 x.rel.length c1,.int .u8 x.c,.string (qd x.n),.bool x.b,.string (qd x.m),.bool x.d,.string (qd x.k),.slice q1 x.loc.length d1,.string t,.bool st],.agg #[.string (qd y.ep),.slice r2 y.rel.length c2,.int .u8 y.c,.string (qd y.n),.bool y.b,.string (qd y.m),.bool y.d,.string (qd y.k),.slice q2 y.loc.length d2,.string u,.bool su]] w fun e W'=>e=.returned (.bool (qfp k x t.data.toList y u.data.toList su))∧Below w.heap.size w W':=by
 match k,hk with
 | 0, _=>
  have hy:=hy (by decide)
  have hc2:=hc2 rfl;have h2:=h2 rfl;obtain⟨b2,o2,rfl,_⟩:=rb.some (by omega)
  obtain⟨n,hn1⟩:∃ n,y.rel.length=n+1:=⟨y.rel.length-1,by omega⟩
  have hdl:y.rel.dropLast.length=n:=by rw[List.length_dropLast];omega
  refine qtg x y r1 q1 q2 b2 o2 c1 c2 d1 d2 t u st su w ra rb la lb n hn1 (by omega) (by have:=hy.len;omega) (decide (0≤ordP (hpub x) y)) (begB x.ep x.rel y.ep y.rel.dropLast) ?_ ?_
  ·exact fun W h1 h2 h3 h4=>qbhs x y r1 _ q1 q2 c1 c2 d1 d2 t u st su W h1 h2 h3 h4 (ordP (hpub x) y) (fun W h1 h2 h3 h4=>qzv x y r1 _ q1 q2 c1 c2 d1 d2 t u st su W h1 h2 h3 h4 hx hy hn)
  ·intro W h1 h2 h3 h4;have hT:qx W (.slice (some ⟨b2,o2,none⟩) n c2) y.rel.dropLast:=by
    obtain⟨a,cap,e,h0|⟨b,off,e2,hlt,hc⟩⟩:=h2
    ·rw[h0]at hn1;cases hn1
    ·cases e;cases e2;refine⟨_,c2,by rw[hdl],.inr ⟨b2,o2,rfl,hlt,fun i hi=>?_⟩⟩
     rw[List.getElem_dropLast];exact hc i (by omega)
   rw[←hdl]at hT ⊢;exact BG_any x y.ep y.rel.dropLast r1 q1 _ c1 d1 c2 _ _ _ _ _ _ _ W h1 hT hx (by have:=hy.len;omega)
 | 1,_=>exact EQ_any x y r1 r2 q1 q2 c1 c2 d1 d2 t u st su w ra rb la lb hx (hy (by decide)) hn
 | 2,_=>exact qbhc x y r1 r2 q1 q2 c1 c2 d1 d2 t u st su w ra rb la lb (eqP x y su) (fun W h1 h2 h3 h4=>EQ_any x y r1 r2 q1 q2 c1 c2 d1 d2 t u st su W h1 h2 h3 h4 hx (hy (by decide)) hn)
 | 3,_=>exact upTo_any x y r1 r2 q1 q2 c1 c2 d1 d2 t u st su w ra rb la lb (ordP (hpub x) y) (fun W h1 h2 h3 h4=>qzv x y r1 r2 q1 q2 c1 c2 d1 d2 t u st su W h1 h2 h3 h4 hx (hy (by decide)) hn)
 | 4,_=>exact qbhs x y r1 r2 q1 q2 c1 c2 d1 d2 t u st su w ra rb la lb (ordP (hpub x) y) (fun W h1 h2 h3 h4=>qzv x y r1 r2 q1 q2 c1 c2 d1 d2 t u st su W h1 h2 h3 h4 hx (hy (by decide)) hn)
 | 5,_=>exact less_any x y r1 r2 q1 q2 c1 c2 d1 d2 t u st su w ra rb la lb (qwt x y) (ordP x y) (fun W h1 h2 h3 h4=>SB_any x y r1 r2 q1 q2 c1 c2 d1 d2 t u st su W h1 h2 h3 h4 hx (hy (by decide))) (fun W h1 h2 h3 h4=>qbmf x y r1 r2 q1 q2 c1 c2 d1 d2 W h1 h2 h3 h4 hx (hy (by decide)))
 | 6,_=>exact more_any x y r1 r2 q1 q2 c1 c2 d1 d2 t u st su w ra rb la lb (qwt x y) (ordP x y) (fun W h1 h2 h3 h4=>SB_any x y r1 r2 q1 q2 c1 c2 d1 d2 t u st su W h1 h2 h3 h4 hx (hy (by decide))) (fun W h1 h2 h3 h4=>qbmf x y r1 r2 q1 q2 c1 c2 d1 d2 W h1 h2 h3 h4 hx (hy (by decide)))
 | 7,_=>exact qbbq x y r1 r2 q1 q2 c1 c2 d1 d2 t u st su w ra rb la lb ht hu
end Go.Proofs.YtabmfdedbpmfmaaGreat
