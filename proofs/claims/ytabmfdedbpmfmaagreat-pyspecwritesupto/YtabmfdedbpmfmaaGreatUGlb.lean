/- Walks: the word at a place. -/
import Derived.Test.YtabmfdedbpmfmaaGreatUGf
import Derived.Laws.AppendOwn
import Derived.Deep.Cut
namespace Go.Proofs.YtabmfdedbpmfmaaGreat
open Go.RowKit Go.Shelf
open World renaming alloc_heap_new → qbsr
set_option linter.unusedVariables false
set_option maxHeartbeats 1000000
set_option maxRecDepth 100000
theorem qcd {W:World} {B:Nat} {t:TypeId} {a0 a1 a2 a3 a4 a5 a6 a7 a8:Value} (h:W.heap[B]? = some (.cells #[a0,a1,a2,a3,a4,a5,a6,a7,a8] t (0,0))) :
  W.cell? ⟨B,0,none⟩=some a0∧W.cell? ⟨B,1,none⟩=some a1∧W.cell? ⟨B,2,none⟩=some a2∧W.cell? ⟨B,3,none⟩=some a3∧W.cell? ⟨B,4,none⟩=some a4∧W.cell? ⟨B,5,none⟩=some a5∧W.cell? ⟨B,6,none⟩=some a6∧W.cell? ⟨B,7,none⟩=some a7∧W.cell? ⟨B,8,none⟩=some a8∧W.frozen? ⟨B,0,none⟩=false∧W.frozen? ⟨B,1,none⟩=false∧W.frozen? ⟨B,2,none⟩=false∧W.frozen? ⟨B,3,none⟩=false∧W.frozen? ⟨B,4,none⟩=false∧W.frozen? ⟨B,5,none⟩=false∧W.frozen? ⟨B,6,none⟩=false∧W.frozen? ⟨B,7,none⟩=false∧W.frozen? ⟨B,8,none⟩=false:=
 ⟨qc 0 h rfl,qc 1 h rfl,qc 2 h rfl,qc 3 h rfl,qc 4 h rfl,qc 5 h rfl,qc 6 h rfl,qc 7 h rfl,qc 8 h rfl,qf 0 h,qf 1 h,qf 2 h,qf 3 h,qf 4 h,qf 5 h,qf 6 h,qf 7 h,qf 8 h⟩
theorem qcq {α : Type} (l:List α):((l.length:Int)==0)=l.isEmpty:=by
 cases l with
 | nil=>rfl
 | cons a l=>simp;omega
theorem qgw (x:PepL) (r1 q1:Option Addr) (c1 d1:Nat) (w:World) :
  Calls Tryz.prog 170 #[.agg #[.string (qd x.ep),.slice r1 x.rel.length c1,.int .u8 x.c,.string (qd x.n),.bool x.b,.string (qd x.m),.bool x.d,.string (qd x.k),.slice q1 x.loc.length d1]] w fun e w'=>e=.returned (.bool (pubB x))∧Below w.heap.size w w':=by
 have h0:=qcq x.loc;unfold pubB;generalize x.loc.isEmpty=B at *;have r:=qcd (qbsr w (.cells #[.string (qd x.ep),.slice r1 x.rel.length c1,.int .u8 x.c,.string (qd x.n),.bool x.b,.string (qd x.m),.bool x.d,.string (qd x.k),.slice q1 x.loc.length d1] 44));have hb:Below w.heap.size w (w.alloc (.cells #[.string (qd x.ep),.slice r1 x.rel.length c1,.int .u8 x.c,.string (qd x.n),.bool x.b,.string (qd x.m),.bool x.d,.string (qd x.k),.slice q1 x.loc.length d1] 44)):=(Below.refl _ w).alloc (Nat.le_refl _) _;obtain⟨s0,s1,s2,s3,s4,s5,s6,s7,s8,_⟩:=r;go_enter Tryz.func170,Tryz.ntmps170
 (go_wp2_with fail);go_ret
 exact⟨rfl,hb⟩
theorem qbjx (x:PepL) (r1 q1:Option Addr) (c1 d1:Nat) (w:World) :
  Calls Tryz.prog 174 #[.agg #[.string (qd x.ep),.slice r1 x.rel.length c1,.int .u8 x.c,.string (qd x.n),.bool x.b,.string (qd x.m),.bool x.d,.string (qd x.k),.slice q1 x.loc.length d1]] w fun e w'=>e=.returned (.bool (qgb x))∧Below w.heap.size w w':=by
 have P1:=qb (fun W=>qgw x r1 q1 c1 d1 W);have r:=qcd (qbsr w (.cells #[.string (qd x.ep),.slice r1 x.rel.length c1,.int .u8 x.c,.string (qd x.n),.bool x.b,.string (qd x.m),.bool x.d,.string (qd x.k),.slice q1 x.loc.length d1] 44));have hb:Below w.heap.size w (w.alloc (.cells #[.string (qd x.ep),.slice r1 x.rel.length c1,.int .u8 x.c,.string (qd x.n),.bool x.b,.string (qd x.m),.bool x.d,.string (qd x.k),.slice q1 x.loc.length d1] 44)):=(Below.refl _ w).alloc (Nat.le_refl _) _;obtain⟨V,hV⟩:∃ V,w.alloc (.cells #[.string (qd x.ep),.slice r1 x.rel.length c1,.int .u8 x.c,.string (qd x.n),.bool x.b,.string (qd x.m),.bool x.d,.string (qd x.k),.slice q1 x.loc.length d1] 44)=V:=⟨_,rfl⟩;have n0:=qbsr w (.cells #[.string (qd x.ep),.slice r1 x.rel.length c1,.int .u8 x.c,.string (qd x.n),.bool x.b,.string (qd x.m),.bool x.d,.string (qd x.k),.slice q1 x.loc.length d1] 44);rw[hV]at r hb n0;have hsz:w.heap.size<V.heap.size:=by rw[←hV];simp
 obtain⟨s0,s1,s2,s3,s4,s5,s6,s7,s8,_⟩:=r;have N0:=qb n0;clear n0;have hBB:qgb x=(pubB x&&(x.c==0)&&!x.b&&!x.d):=rfl;rw[hBB];clear hBB;generalize pubB x=B at *;go_enter Tryz.func174,Tryz.ntmps174
 (go_wp2_with fail);refine(P1.out _).mono ?_;rintro e w2 ⟨rfl,b2⟩;have n2:=(b2.block _ hsz).trans N0.out;have hb2:Below w.heap.size w w2:=hb.trans (b2.mono hb.size);clear s0 s1 s2 s3 s4 s5 s6 s7 s8 b2 hV hb;obtain⟨s0,s1,s2,s3,s4,s5,s6,s7,s8,_⟩:=qcd n2;clear n2;cases B
 ·(go_wp2_with fail);go_ret
  exact⟨by simp,hb2⟩
 ·cases hc:(x.c==0)
  ·(go_wp2_with fail);go_ret
   exact⟨by rw[hc];simp,hb2⟩
  ·cases hxb:x.b
   ·rw [hxb]at s4;cases hxd:x.d
    ·rw[hxd]at s6;(go_wp2_with fail);go_ret
     exact⟨by rw[hc];simp[hxb,hxd],hb2⟩
    ·rw[hxd]at s6;(go_wp2_with fail);go_ret
     exact⟨by rw[hc];simp[hxb,hxd],hb2⟩
   ·rw[hxb]at s4;(go_wp2_with fail);go_ret
    exact⟨by rw[hc];simp[hxb],hb2⟩
theorem qbdn (x:PepL) (r1 q1:Option Addr) (c1 d1:Nat) (w:World) :
  Calls Tryz.prog 169 #[.agg #[.string (qd x.ep),.slice r1 x.rel.length c1,.int .u8 x.c,.string (qd x.n),.bool x.b,.string (qd x.m),.bool x.d,.string (qd x.k),.slice q1 x.loc.length d1]] w fun e w'=>e=.returned (.bool (pubB x&&decide (1<x.rel.length)))∧Below w.heap.size w w':=by
 have P1:=qb (fun W=>qgw x r1 q1 c1 d1 W);have r:=qcd (qbsr w (.cells #[.string (qd x.ep),.slice r1 x.rel.length c1,.int .u8 x.c,.string (qd x.n),.bool x.b,.string (qd x.m),.bool x.d,.string (qd x.k),.slice q1 x.loc.length d1] 44));have hb:Below w.heap.size w (w.alloc (.cells #[.string (qd x.ep),.slice r1 x.rel.length c1,.int .u8 x.c,.string (qd x.n),.bool x.b,.string (qd x.m),.bool x.d,.string (qd x.k),.slice q1 x.loc.length d1] 44)):=(Below.refl _ w).alloc (Nat.le_refl _) _;obtain⟨V,hV⟩:∃ V,w.alloc (.cells #[.string (qd x.ep),.slice r1 x.rel.length c1,.int .u8 x.c,.string (qd x.n),.bool x.b,.string (qd x.m),.bool x.d,.string (qd x.k),.slice q1 x.loc.length d1] 44)=V:=⟨_,rfl⟩;have n0:=qbsr w (.cells #[.string (qd x.ep),.slice r1 x.rel.length c1,.int .u8 x.c,.string (qd x.n),.bool x.b,.string (qd x.m),.bool x.d,.string (qd x.k),.slice q1 x.loc.length d1] 44);rw[hV]at r hb n0;have hsz:w.heap.size<V.heap.size:=by rw[←hV];simp
 obtain⟨s0,s1,s2,s3,s4,s5,s6,s7,s8,_⟩:=r;have N0:=qb n0;clear n0;generalize pubB x=B at *;go_enter Tryz.func169,Tryz.ntmps169
 (go_wp2_with fail);refine(P1.out _).mono ?_;rintro e w2 ⟨rfl,b2⟩;have n2:=(b2.block _ hsz).trans N0.out;have hb2:Below w.heap.size w w2:=hb.trans (b2.mono hb.size);clear s0 s1 s2 s3 s4 s5 s6 s7 s8 b2 hV hb;obtain⟨s0,s1,s2,s3,s4,s5,s6,s7,s8,_⟩:=qcd n2;clear n2;cases B
 ·(go_wp2_with fail);go_ret
  exact⟨by simp,hb2⟩
 ·(go_wp2_with fail);go_ret
  exact⟨by simp;omega,hb2⟩
theorem qsp {may:PepL→Bool} {u:QB} {e:Int} {p:Nat} (h:qbp may u=.bad e p):e≠0:=by
 unfold qbp at h;cases ho:okP u
 ·rw[ho,if_neg (by simp)]at h
  cases h;have:=qdw u ho;simpa using this
 ·rw[ho,if_pos rfl]at h;split at h
  ·cases h
  ·cases h;decide
theorem qbbx {k:Nat} {u:QB} {e:Int} {p:Nat} (h:wdR k u=.bad e p):e≠0:=by
 unfold wdR at h;split at h
 ·exact qsp h
 ·split at h
  ·split at h
   ·cases hq:qbp qgb (u.take (u.length-2))with
    | bad e2 p2=>rw[hq]at h;cases h;exact qsp hq
    | ok x t st=>rw[hq]at h;cases h
   ·exact qsp h
  ·split at h
   ·unfold qln at h;split at h
    ·cases h;decide
    ·cases h
   ·exact qsp h
theorem rwL_ne {l:QB} {k b z:Nat} {e:Int} {p:Nat} (h:rwL l k b=(.bad e p,z)):e≠0:=by
 unfold rwL at h;split at h
 ·cases h;unfold misL;split<;>decide
 ·split at h
  ·rename_i hq;cases h;exact qbbx hq
  ·cases h
theorem rwL_le {l:QB} {k b z:Nat} {x:PepL} {t:QB} {st:Bool} (hb:b≤l.length) (h:rwL l k b=(.ok x t st,z)):b≤z∧z≤l.length:=by
 have hn:=qmk (l.drop b);rw[List.length_drop]at hn;unfold rwL at h;split at h
 ·cases h
 ·split at h
  ·cases h
  ·cases h;omega
theorem clP_ok {l:QB} {a:Nat} (ha:a≤l.length) (h:(clP l a).er=0):a≤(clP l a).e∧(clP l a).e≤l.length:=by
 have hm:=qhv (l.drop a) 8 (by omega)
 rw[List.length_drop]at hm;unfold clP at h ⊢;split
 ·rename_i h8;rw[if_pos h8]at h;dsimp only at h;unfold misL at h;split at h
  ·cases h
  ·cases h
 ·rename_i h8;rw[if_neg h8]at h;have hs:=qhs l (a+(sgn (opGo (l.drop a) 8).1).length) (by omega)
  cases hr:rwL l (opGo (l.drop a) 8).1 (skL l (a+(sgn (opGo (l.drop a) 8).1).length))with
  | mk r z=>
   rw[hr]at h;cases r with
   | bad e p=>exact absurd h (rwL_ne hr)
   | ok x t st=>
    have h1:=rwL_le hs.2 hr;have h2:=qhs l z h1.2;dsimp only;omega
def rowC (l:QB):Nat→Nat→List Cl
 | 0,_=>[]
 | n+1,a=>if a≤l.length then clP l (skL l a)::(if (clP l (skL l a)).er=0 then rowC l n ((clP l (skL l a)).e+1) else []) else []
theorem qbhv {l:QB} {a:Nat} (h:l.length<a):∀ n,rowC l n a=[]
 | 0=>rfl
 | n+1=>by unfold rowC;rw[if_neg (by omega)]
theorem rowC_bad {l:QB} {n a:Nat} (h:a≤l.length) (he:(clP l (skL l a)).er≠0):rowC l (n+1) a=[clP l (skL l a)]:=by
 unfold rowC;rw[if_pos h,if_neg he]
theorem rowC_go {l:QB} {n a:Nat} (h:a≤l.length) (he:(clP l (skL l a)).er=0):rowC l (n+1) a=clP l (skL l a)::rowC l n ((clP l (skL l a)).e+1):=by
 rw[rowC,if_pos h,if_pos he]
def qxz (st:Bool):QB:=if st then [46,42] else []
def qxp (c:Cl):Nat×PepL×QB×Bool:=(c.k,c.x,c.t,c.st)
open _root_.Array renaming getElem?_eq_some_iff → qbsp
open Go renaming World → QW, Value → QV
def qfc (A:Nat→Prop) (W W':QW):Prop:=
 W.heap.size≤W'.heap.size∧∀ (b:Nat) (cs:Array QV) (t:TypeId) (m:Nat×Nat),A b→W.heap[b]? = some (.cells cs t m)→W'.heap[b]? = some (.cells cs t m)
variable {A A':Nat→Prop}
theorem qbjb {W W':QW} {b o:Nat} {u:QV} (h:W.cell? ⟨b,o,none⟩=some u) (hk:qfc A W W') (hA:A b):W'.cell? ⟨b,o,none⟩=some u:=by
 unfold World.cell? at h ⊢;cases hb:W.heap[b]? with
 | none=>simp only[hb]at h;cases h
 | some ob=>
  cases ob with
  | cells cs t m=>
   simp only[hb]at h;simp only[hk.2 b cs t m hA hb];exact h
  | _=>simp only[hb]at h;cases h
theorem qbn {W W':QW} (h:Below W.heap.size W W'):qfc A W W':=⟨h.size,fun b cs t m _ hh=>(h.block b (qbsp.1 hh).1).trans hh⟩
theorem qfc.trans {X Y Z:QW} (h:qfc A X Y) (k:qfc A Y Z):qfc A X Z:=⟨Nat.le_trans h.1 k.1,fun b cs t m hb hh=>k.2 b cs t m hb (h.2 b cs t m hb hh)⟩
theorem qfc.at_ {W W':QW} {B:Nat} {cs:Array QV} {t:TypeId} {m:Nat×Nat} (hk:qfc A W W') (hA:A B) (h:W.heap[B]? = some (.cells cs t m)):W'.heap[B]? = some (.cells cs t m):=hk.2 _ _ _ _ hA h
theorem set_size (W:QW) (p:Addr) (v:QV):(W.setCell p v).heap.size=W.heap.size:=Array.size_modify
theorem qkq (W:QW) (B o:Nat) (v:QV) (h:∀ b,A b→b≠B):qfc A W (W.setCell ⟨B,o,none⟩ v):=⟨by rw[set_size];exact Nat.le_refl _,fun b cs t m hb hh=>(Below.heap_setCell _ _ _ b (h b hb)).trans hh⟩
theorem qzc {B0:Nat} {W W':QW} {row:Option Nat} (hg:W.grownBy W' row) (hr:∀ r,row=some r→B0≤r∧∃ o:Obj,W.heap[r]? = some o∧o.isCells=false):qfc A W W':=by
 refine⟨hg.size,fun b cs t m _ hh=>(hg.block b (qbsp.1 hh).1 (fun e=>?_)).trans hh⟩;obtain⟨_,o,ho,hc⟩:=hr b e.symm;rw[hh]at ho;cases ho;cases hc
theorem qrt {W W':QW} {r:Option Nat} (hg:W.grownBy W' r) (h:∀ b,A b→r≠some b):qfc A W W':=
 ⟨hg.size,fun b cs t m hb hh=>(hg.block b (qbsp.1 hh).1 (fun e=>h b hb e.symm)).trans hh⟩
def Aw (A:Nat→Prop) (u:QV):Prop:=∀ p n c,u=.slice (some p) n c→(n=0∨A p.block)∧n≤c
theorem aw_txt {W:QW} {u:QV} {ts:List QB} (h:qz W u ts) (hc:Aw A u):ts=[]∨∃ cap b off,u=.slice (some ⟨b,off,none⟩) ts.length cap∧b<W.heap.size∧A b∧∀ i (h:i<ts.length),W.cell? ⟨b,off+i,none⟩=some (.string (qd ts[i])):=by
 obtain⟨a,cap,hv,h0|⟨b,off,ha,hlt,hcl⟩⟩:=h
 ·exact .inl h0
 ·rcases(hc _ _ _ (by rw[hv,ha])).1 with h|h
  ·exact .inl (List.length_eq_zero_iff.1 h)
  ·exact .inr ⟨cap,b,off,by rw[hv,ha],hlt,h,hcl⟩
theorem qxf {W W':QW} {u:QV} {ts:List QB} (h:qz W u ts) (hc:Aw A u) (hk:qfc A W W'):qz W' u ts:=by
 rcases aw_txt h hc with rfl|⟨cap,b,off,rfl,hlt,hA,hcl⟩
 ·obtain⟨a,cap,hv,_⟩:=h;exact⟨a,cap,hv,.inl rfl⟩
 ·exact⟨_,cap,rfl,.inr ⟨b,off,rfl,Nat.lt_of_lt_of_le hlt hk.1,fun i hi=>qbjb (hcl i hi) hk hA⟩⟩
theorem aw_to {W:QW} {u:QV} {ts:List QB} (h:qz W u ts) (hc:Aw A u) (hA:∀ b,A b→b<W.heap.size→A' b):Aw A' u:=by
 rcases aw_txt h hc with rfl|⟨cap,b,off,rfl,hlt,hb,hcl⟩
 ·obtain⟨a,cap,hv,_⟩:=h;intro p n c e;have h2:=(hc p n c e).2;rw[hv]at e;cases e;exact⟨.inl rfl,h2⟩
 ·intro p n c e;have h2:=(hc p n c e).2;cases e;exact⟨.inr (hA b hb hlt),h2⟩
theorem qbfl {n:Nat} {u:QV} (h:qbr n u) (hA:∀ b,n≤b→A b):Aw A u:=fun p k c e=>⟨.inr (hA _ (h p k c e).1),(h p k c e).2⟩
theorem qdx {W W':QW} {base:Nat} {e:TypeId} {size:Nat} {v:QV} {n:Nat} {xs:List QV} (h:W.ownsRow base e size v n xs) (hk:qfc A W W') (hA:∀ g,v.ownBlock=some g→A g):W'.ownsRow base e size v n xs:=by
 refine⟨h.1,?_⟩;rcases h.2 with h2|⟨g,cap,cur,hv,hg,hh,r⟩
 ·exact .inl h2
 ·exact .inr ⟨g,cap,cur,hv,hg,hk.2 g _ _ _ (hA g (by rw[hv];rfl)) hh,r⟩
theorem qnc {W:QW} {base:Nat} {e:TypeId} {size:Nat} {v:QV} {n:Nat} {xs:List QV} (h:W.ownsRow base e size v n xs):∀ g,v.ownBlock=some g→base≤g∧g<W.heap.size:=by
 intro g hg;rcases h.2 with ⟨rfl,_⟩|⟨g',cap,cur,rfl,hb,hh,r⟩
 ·cases hg
 ·simp only[Value.ownBlock,Option.some.injEq]at hg;subst hg;exact⟨hb,(qbsp.1 hh).1⟩
theorem qct {W:QW} {base:Nat} {e:TypeId} {size:Nat} {v:QV} {n:Nat} {xs:List QV} (h:W.ownsRow base e size v n xs) :
  ∃ a c,v=.slice a n c∧(n=0∨∃ g,a=some ⟨g,0,none⟩∧g<W.heap.size∧∀ j u,xs[j]? = some u→W.cell? ⟨g,j,none⟩=some u):=by
 rcases h.2 with ⟨rfl,h0⟩|⟨g,cap,cur,rfl,hb,hh,_,_,_,ht⟩
 ·exact⟨none,0,by rw[h0],.inl h0⟩
 ·refine⟨_,cap,rfl,.inr ⟨g,rfl,(qbsp.1 hh).1,fun j u hj=>?_⟩⟩;rw[←ht]at hj;rw[List.getElem?_take]at hj;split at hj
  ·exact qc j hh (by simpa using hj)
  ·cases hj
end Go.Proofs.YtabmfdedbpmfmaaGreat
namespace Go.Proofs.YtabmfdedbpmfmaaGreat
open Go.RowKit Go.Shelf
set_option linter.unusedVariables false
structure R1 (w W:World) (v:Array Value):Prop where
 ver:W.heap[w.heap.size]? = some (.cells v 59 (0,0))
 bel:Below w.heap.size w W
theorem R1.lt {w W:World} {v:Array Value} (h:R1 w W v):w.heap.size<W.heap.size:=(Array.getElem?_eq_some_iff.1 h.ver).1
theorem R1.below {w W W':World} {v:Array Value} (h:R1 w W v) (hb:Below W.heap.size W W'):R1 w W' v:=⟨(hb.block _ h.lt).trans h.ver,h.bel.trans (hb.mono (Nat.le_of_lt h.lt))⟩
theorem R1.start (w:World):R1 w (w.alloc (.cells #[.string ⟨#[]⟩,.slice none 0 0,.int .u8 0,.string ⟨#[]⟩,.bool false,.string ⟨#[]⟩,.bool false,.string ⟨#[]⟩,.slice none 0 0,.string ⟨#[]⟩,.bool false] 59)) #[.string ⟨#[]⟩,.slice none 0 0,.int .u8 0,.string ⟨#[]⟩,.bool false,.string ⟨#[]⟩,.bool false,.string ⟨#[]⟩,.slice none 0 0,.string ⟨#[]⟩,.bool false]:=⟨World.alloc_heap_new w _,(Below.refl _ w).alloc (Nat.le_refl _) _⟩
theorem R1.put11 {w W:World} {z0 z1 z2 z3 z4 z5 z6 z7 z8 z9 z10:Value} (h:R1 w W #[z0,z1,z2,z3,z4,z5,z6,z7,z8,z9,z10]) (a0 a1 a2 a3 a4 a5 a6 a7 a8 a9 a10:Value):∃ W',W'=(((((((((((W.setCell ⟨w.heap.size,0,none⟩ a0).setCell ⟨w.heap.size,1,none⟩ a1).setCell ⟨w.heap.size,2,none⟩ a2).setCell ⟨w.heap.size,3,none⟩ a3).setCell ⟨w.heap.size,4,none⟩ a4).setCell ⟨w.heap.size,5,none⟩ a5).setCell ⟨w.heap.size,6,none⟩ a6).setCell ⟨w.heap.size,7,none⟩ a7).setCell ⟨w.heap.size,8,none⟩ a8).setCell ⟨w.heap.size,9,none⟩ a9).setCell ⟨w.heap.size,10,none⟩ a10)∧R1 w W' #[a0,a1,a2,a3,a4,a5,a6,a7,a8,a9,a10]∧∀ (u:Value) (ts:List QB),qz W u ts→qbr (w.heap.size+1) u→qz W' u ts:=by
 refine⟨putL W w.heap.size 0 [a0,a1,a2,a3,a4,a5,a6,a7,a8,a9,a10],rfl,⟨?_,?_⟩,fun u ts h1 h2=>qdt h1 h2 (fun j h3 h4=>qnv _ _ _ _ _ h4 (by omega)) (qrl _ _ _ _)⟩
 ·have k:=qcl [a0,a1,a2,a3,a4,a5,a6,a7,a8,a9,a10] W w.heap.size 0 _ _ h.ver
  rwa [fill11]at k
 ·exact h.bel.trans ((qcc _ W w.heap.size 0).below (Nat.le_refl _) h.bel.size)
def rwOf (N b n:Nat) (R:Wd):Wd×Nat:=if n=0 then (.bad (misL N b) 0,b) else match R with
 | .bad e p=>(.bad e 0,b+p)
 | .ok x t st=>(.ok x t st,b+n)
def qvd (r:Wd×Nat) (w:World) (e:Ending) (w':World):Prop:=
 Below w.heap.size w w'∧match r with
 | (.bad er _,z)=>er≠0∧e=.returned (.tuple #[.agg (zerV false),.int .i64 (z:Int),.int .i64 er])
 | (.ok x t st,z)=>∃ vr vl,e=.returned (.tuple #[.agg (verV x vr vl (qd t) st),.int .i64 (z:Int),.int .i64 0])∧qz w' vr x.rel∧qz w' vl x.loc∧qbr w.heap.size vr∧qbr w.heap.size vl
theorem qcb {R:Ending→World→Prop} (tmps:Array Value) (W:World) (B:Nat) (e n m k t:QY) (vr vl:Value) (c:Int) (b d z:Bool) (p er:Int) (op:∃ a i c,vr=.slice a i c) (ob:∃ a i c,vl=.slice a i c)
  (h2:tmps.getD 6 undef=.pointer (some ⟨B,0,none⟩)) (h3:tmps.getD 7 undef=.int .i64 p) (h4:tmps.getD 8 undef=.int .i64 er) (e1:W.heap[B]? = some (.cells #[.string e,vr,.int .u8 c,.string n,.bool b,.string m,.bool d,.string k,vl,.string t,.bool z] 59 (0,0)))
  (hR:R (.returned (.tuple #[.agg #[.string e,vr,.int .u8 c,.string n,.bool b,.string m,.bool d,.string k,vl,.string t,.bool z],.int .i64 p,.int .i64 er])) W) :
  bodyPost Tryz.prog Tryz.f116 R .ret { tmps:=tmps,defers:=[] } W:=by
 obtain⟨a1,i1,c1,rfl⟩:=op;obtain⟨a2,i2,c2,rfl⟩:=ob;obtain⟨r0,r1,r2,r3,r4,r5,r6,r7,r8,r9,r10,_⟩:=qh e1;rw[Array.getD_eq_getD_getElem?]at h2 h3 h4;refine⟨rfl,_,?_,hR⟩;simp[results,Tryz.results116,go_sem,h2,h3,h4,r0,r1,r2,r3,r4,r5,r6,r7,r8,r9,r10]
 try rfl
set_option maxHeartbeats 8000000
set_option maxRecDepth 100000
theorem qzt (s:QY) (b:Nat) (R:Wd) (w:World) (hs:s.size≤256) (hb:b≤s.size)
  (hR:∀ W,Calls Tryz.prog 159 #[.string (s.extract b (b+wdN (s.data.toList.drop b)))] W (qds R W)) (hp:∀ e p,R=.bad e p→p≤1000) :
  Calls Tryz.prog 116 #[.string s,.int .i64 (b:Int),.func (.func 159) #[] #[]] w (qvd (rwOf s.size b (wdN (s.data.toList.drop b)) R) w):=by
 have MF:=qb (fun W=>qhj s b W);have IS:=qb (fun c W=>qmb c 6 W);have HRR:=qb hR;have HP:=qb hp;have hn:=qmk (s.data.toList.drop b);rw[List.length_drop,qg]at hn;generalize hG:rwOf s.size b (wdN (s.data.toList.drop b)) R=G;have HG:=qb hG;clear hG hR hp;have Q0:=R1.start w;go_enter Tryz.func116,Tryz.ntmps116
 (go_wp2_with fail);generalize w.alloc _=W0 at *;have Q0:=qb Q0;have hlt:w.heap.size<W0.heap.size:=Q0.out.lt;go_loopw [9] (fun y wr=>∃ i:Nat,b≤i∧i≤s.size∧y=.int .i64 i∧b+wdN (s.data.toList.drop b)=i+wdN (s.data.toList.drop i)∧wr=W0) (fun y _=>s.size-(intOf y).toNat)
 case atStart=>exact⟨b,by omega,hb,rfl,rfl,rfl⟩
 case round=>
  obtain⟨i,hbi,hi,rfl,hc,rfl⟩:=hrel
  by_cases hin:i<s.size
  ·have hin':(i:Int)<(s.size:Int):=by omega
   by_cases h1:(s[i].toNat:Int)=44
   ·have hcmp:((s[i].toNat:Int) != 44)=false:=by rw[h1];rfl
    have hE:wdN (s.data.toList.drop b)=i-b:=by rw[qch s i hin,wdN,if_pos (by simp only[Bool.or_eq_true,beq_iff_eq];left;apply UInt8.toNat_inj.1;show _=44;omega)]at hc;omega
    clear hc h1;have HE9:=qb hE;clear hE
    by_cases hz:i=b
    ·have HG2:Hid (G=(.bad (misL s.size b) 0,b)):=qb (by rw[←HG.out,HE9.out,hz,Nat.sub_self];rfl)
     have HML:Hid (misL s.size b≠0):=qb (by unfold misL;split<;>decide)
     generalize misL s.size b=ML at *;have hzz:((i:Int)==(b:Int))=true:=by simp;omega
     obtain⟨x0,x1,x2,x3,x4,x5,x6,x7,x8,x9,x10,y0,y1,y2,y3,y4,y5,y6,y7,y8,y9,y10⟩:=qh Q0.out.ver;obtain⟨W9,hW9,hRQ,hT9⟩:=Q0.out.put11 (.string ⟨#[]⟩) (.slice none 0 0) (.int .u8 0) (.string ⟨#[]⟩) (.bool false) (.string ⟨#[]⟩) (.bool false) (.string ⟨#[]⟩) (.slice none 0 0) (.string ⟨#[]⟩) (.bool false);have HW9:=qb hW9;have RQ:=qb hRQ;clear hRQ hT9 hW9 hz;(go_wp2_with fail);refine(MF.out _).mono ?_;rintro e w2 ⟨rfl,hw2⟩;rw[hw2];clear hw2 w2;(go_wp2_with fail);rw[←HW9.out];refine qcb _ _ w.heap.size _ _ _ _ _ _ _ _ _ _ _ _ _ ⟨_,_,_,rfl⟩ ⟨_,_,_,rfl⟩ rfl rfl rfl RQ.out.ver ?_;rw[HG2.out];exact⟨RQ.out.bel,HML.out,rfl⟩
    ·have hzz:((i:Int)==(b:Int))=false:=by simp;omega
     have hex:s.extract b (b+(i-b))=s.extract b i:=by rw[Nat.add_sub_cancel' hbi]
     have hR9:=HRR.out;rw[HE9.out,hex]at hR9;have hG9:=HG.out;rw[HE9.out]at hG9;unfold rwOf at hG9;rw[if_neg (by omega)]at hG9
     have HCR:=qb hR9;have HG9:=qb hG9;clear hR9 hG9 hex HRR;have hbi':(b:Int)≤(i:Int):=by omega
     have hi':(i:Int)≤(s.size:Int):=by omega
     cases R with
     | bad er p=>
      have hp1:=HP.out er p rfl;have HG2:Hid (G=(.bad er 0,b+p)):=qb HG9.out.symm;(go_wp2_with fail);refine(HCR.out _).mono ?_;rintro e w1 ⟨b1,hne,st,rfl⟩
      try unfold zerV
      have HNE:=qb hne;have n1:(er==0)=false:=by simpa using hne
      have hq:w.heap.size<w1.heap.size:=(Q0.out.below b1).lt;obtain⟨V,hV,nP,nF,bV,sV⟩:=ql w1 #[.string ⟨#[]⟩,.slice none 0 0,.int .u8 0,.string ⟨#[]⟩,.bool false,.string ⟨#[]⟩,.bool false,.string ⟨#[]⟩,.slice none 0 0,.string ⟨#[]⟩,.bool st] #[.int .i64 er,.int .i64 (p:Int)] 59 25;have HV:=qb hV;clear hV;have Q2:=(Q0.out.below b1).below bV;obtain⟨x0,x1,x2,x3,x4,x5,x6,x7,x8,x9,x10,y0,y1,y2,y3,y4,y5,y6,y7,y8,y9,y10⟩:=qh Q2.ver;obtain⟨u0,u1,_,_⟩:=qv nF;obtain⟨W9,hW9,hRQ,hT9⟩:=Q2.put11 (.string ⟨#[]⟩) (.slice none 0 0) (.int .u8 0) (.string ⟨#[]⟩) (.bool false) (.string ⟨#[]⟩) (.bool false) (.string ⟨#[]⟩) (.slice none 0 0) (.string ⟨#[]⟩) (.bool false);have HW9:=qb hW9;have RQ:=qb hRQ;clear hRQ hT9 hW9 Q2 b1 hne nP nF bV HCR;go_upto_region 7 with fail
      rw[HV.out];(go_wp2_with fail);go_region
      all_goals
       (go_wp2_with fail);rw[←HW9.out];refine qcb _ _ w.heap.size _ _ _ _ _ _ _ _ _ _ _ _ _ ⟨_,_,_,rfl⟩ ⟨_,_,_,rfl⟩ rfl rfl rfl RQ.out.ver ?_;rw[HG2.out];exact⟨RQ.out.bel.drew,HNE.out,rfl⟩
     | ok x t st=>
      have HG2:Hid (G=(.ok x t st,b+(i-b))):=qb HG9.out.symm;(go_wp2_with fail);refine(HCR.out _).mono ?_;rintro e w1 ⟨b1,vr,vl,rfl,t1,t2,fr1,fr2⟩;obtain⟨r1,c1,rfl,_⟩:=id t1;obtain⟨q1,d1,rfl,_⟩:=id t2
      try unfold verV
      have hq:w.heap.size<w1.heap.size:=(Q0.out.below b1).lt;obtain⟨V,hV,nP,nF,bV,sV⟩:=ql w1 #[.string (qd x.ep),.slice r1 x.rel.length c1,.int .u8 x.c,.string (qd x.n),.bool x.b,.string (qd x.m),.bool x.d,.string (qd x.k),.slice q1 x.loc.length d1,.string (qd t),.bool st] #[.int .i64 0,.int .i64 0] 59 25;have HV:=qb hV;clear hV;have Q2:=(Q0.out.below b1).below bV;obtain⟨x0,x1,x2,x3,x4,x5,x6,x7,x8,x9,x10,y0,y1,y2,y3,y4,y5,y6,y7,y8,y9,y10⟩:=qh Q2.ver;obtain⟨u0,u1,_,_⟩:=qv nF;obtain⟨s0,s1,s2,s3,s4,s5,s6,s7,s8,s9,s10,_⟩:=qh nP;obtain⟨W9,hW9,hRQ,hT9⟩:=Q2.put11 (.string (qd x.ep)) (.slice r1 x.rel.length c1) (.int .u8 x.c) (.string (qd x.n)) (.bool x.b) (.string (qd x.m)) (.bool x.d) (.string (qd x.k)) (.slice q1 x.loc.length d1) (.string (qd t)) (.bool st);have HW9:=qb hW9;have RQ:=qb hRQ;have TQ:=qb hT9;have T1:=qb (t1.below bV);have T2:=qb (t2.below bV);have F1:=qb (fr1.mono Q0.out.lt);have F2:=qb (fr2.mono Q0.out.lt);clear hRQ hT9 hW9 Q2 b1 nP nF bV HCR t1 t2 fr1 fr2;go_upto_region 7 with fail
      rw[HV.out];have hW9:=HW9.out.symm;(go_wp2_with fail);refine qcb _ _ w.heap.size _ _ _ _ _ _ _ _ _ _ _ _ _ ⟨_,_,_,rfl⟩ ⟨_,_,_,rfl⟩ rfl rfl rfl RQ.out.ver ?_;rw[HG2.out];exact⟨RQ.out.bel,_,_,by rw[Nat.add_sub_cancel' hbi];rfl,TQ.out _ _ T1.out F1.out,TQ.out _ _ T2.out F2.out,F1.out.mono (Nat.le_succ _),F2.out.mono (Nat.le_succ _)⟩
   ·have hcmp:((s[i].toNat:Int) != 44)=true:=by simp only[bne_iff_ne,ne_eq];exact h1
    have h44:(s[i]==44)=false:=by rw[beq_eq_false_iff_ne];intro e;exact h1 (by rw[e];rfl)
    cases h2:isC (s[i].toNat:Int) 6
    ·have HC:=qb (hc.trans (by rw[qch s i hin,wdN,if_neg (by rw[h44,h2];simp)]))
     have I6:=IS.out (s[i].toNat:Int);rw[h2]at I6;have I6:=qb I6;clear hc h1 h2 h44;go_wp2_with (go_at_call 86;refine(I6.out _).mono ?_;rintro e w9 ⟨rfl,rfl⟩)
     go_roundw
     case rel=>exact⟨i+1,by omega,by omega,by go_num,by have:=HC.out;omega,by trivial⟩
     case measure=>simp[intOf];omega
    ·have hE:wdN (s.data.toList.drop b)=i-b:=by rw[qch s i hin,wdN,if_pos (by rw[h2];simp)]at hc;omega
     have I6:=IS.out (s[i].toNat:Int);rw[h2]at I6;have I6:=qb I6;clear hc h1 h2 h44;have HE9:=qb hE;clear hE
     by_cases hz:i=b
     ·have HG2:Hid (G=(.bad (misL s.size b) 0,b)):=qb (by rw[←HG.out,HE9.out,hz,Nat.sub_self];rfl)
      have HML:Hid (misL s.size b≠0):=qb (by unfold misL;split<;>decide)
      generalize misL s.size b=ML at *;have hzz:((i:Int)==(b:Int))=true:=by simp;omega
      obtain⟨x0,x1,x2,x3,x4,x5,x6,x7,x8,x9,x10,y0,y1,y2,y3,y4,y5,y6,y7,y8,y9,y10⟩:=qh Q0.out.ver;obtain⟨W9,hW9,hRQ,hT9⟩:=Q0.out.put11 (.string ⟨#[]⟩) (.slice none 0 0) (.int .u8 0) (.string ⟨#[]⟩) (.bool false) (.string ⟨#[]⟩) (.bool false) (.string ⟨#[]⟩) (.slice none 0 0) (.string ⟨#[]⟩) (.bool false);have HW9:=qb hW9;have RQ:=qb hRQ;clear hRQ hT9 hW9 hz;go_wp2_with (go_at_call 86;refine(I6.out _).mono ?_;rintro e w9 ⟨rfl,rfl⟩)
      refine(MF.out _).mono ?_;rintro e w2 ⟨rfl,hw2⟩;rw[hw2];clear hw2 w2;(go_wp2_with fail);rw[←HW9.out];refine qcb _ _ w.heap.size _ _ _ _ _ _ _ _ _ _ _ _ _ ⟨_,_,_,rfl⟩ ⟨_,_,_,rfl⟩ rfl rfl rfl RQ.out.ver ?_;rw[HG2.out];exact⟨RQ.out.bel,HML.out,rfl⟩
     ·have hzz:((i:Int)==(b:Int))=false:=by simp;omega
      have hex:s.extract b (b+(i-b))=s.extract b i:=by rw[Nat.add_sub_cancel' hbi]
      have hR9:=HRR.out;rw[HE9.out,hex]at hR9;have hG9:=HG.out;rw[HE9.out]at hG9;unfold rwOf at hG9;rw[if_neg (by omega)]at hG9
      have HCR:=qb hR9;have HG9:=qb hG9;clear hR9 hG9 hex HRR;have hbi':(b:Int)≤(i:Int):=by omega
      have hi':(i:Int)≤(s.size:Int):=by omega
      cases R with
      | bad er p=>
       have hp1:=HP.out er p rfl;have HG2:Hid (G=(.bad er 0,b+p)):=qb HG9.out.symm;go_wp2_with (go_at_call 86;refine(I6.out _).mono ?_;rintro e w9 ⟨rfl,rfl⟩)
       refine(HCR.out _).mono ?_;rintro e w1 ⟨b1,hne,st,rfl⟩
       try unfold zerV
       have HNE:=qb hne;have n1:(er==0)=false:=by simpa using hne
       have hq:w.heap.size<w1.heap.size:=(Q0.out.below b1).lt;obtain⟨V,hV,nP,nF,bV,sV⟩:=ql w1 #[.string ⟨#[]⟩,.slice none 0 0,.int .u8 0,.string ⟨#[]⟩,.bool false,.string ⟨#[]⟩,.bool false,.string ⟨#[]⟩,.slice none 0 0,.string ⟨#[]⟩,.bool st] #[.int .i64 er,.int .i64 (p:Int)] 59 25;have HV:=qb hV;clear hV;have Q2:=(Q0.out.below b1).below bV;obtain⟨x0,x1,x2,x3,x4,x5,x6,x7,x8,x9,x10,y0,y1,y2,y3,y4,y5,y6,y7,y8,y9,y10⟩:=qh Q2.ver;obtain⟨u0,u1,_,_⟩:=qv nF;obtain⟨W9,hW9,hRQ,hT9⟩:=Q2.put11 (.string ⟨#[]⟩) (.slice none 0 0) (.int .u8 0) (.string ⟨#[]⟩) (.bool false) (.string ⟨#[]⟩) (.bool false) (.string ⟨#[]⟩) (.slice none 0 0) (.string ⟨#[]⟩) (.bool false);have HW9:=qb hW9;have RQ:=qb hRQ;clear hRQ hT9 hW9 Q2 b1 hne nP nF bV HCR;go_upto_region 7 with fail
       rw[HV.out];(go_wp2_with fail);go_region
       all_goals
        (go_wp2_with fail);rw[←HW9.out];refine qcb _ _ w.heap.size _ _ _ _ _ _ _ _ _ _ _ _ _ ⟨_,_,_,rfl⟩ ⟨_,_,_,rfl⟩ rfl rfl rfl RQ.out.ver ?_;rw[HG2.out];exact⟨RQ.out.bel.drew,HNE.out,rfl⟩
      | ok x t st=>
       have HG2:Hid (G=(.ok x t st,b+(i-b))):=qb HG9.out.symm;go_wp2_with (go_at_call 86;refine(I6.out _).mono ?_;rintro e w9 ⟨rfl,rfl⟩)
       refine(HCR.out _).mono ?_;rintro e w1 ⟨b1,vr,vl,rfl,t1,t2,fr1,fr2⟩;obtain⟨r1,c1,rfl,_⟩:=id t1;obtain⟨q1,d1,rfl,_⟩:=id t2
       try unfold verV
       have hq:w.heap.size<w1.heap.size:=(Q0.out.below b1).lt;obtain⟨V,hV,nP,nF,bV,sV⟩:=ql w1 #[.string (qd x.ep),.slice r1 x.rel.length c1,.int .u8 x.c,.string (qd x.n),.bool x.b,.string (qd x.m),.bool x.d,.string (qd x.k),.slice q1 x.loc.length d1,.string (qd t),.bool st] #[.int .i64 0,.int .i64 0] 59 25;have HV:=qb hV;clear hV;have Q2:=(Q0.out.below b1).below bV;obtain⟨x0,x1,x2,x3,x4,x5,x6,x7,x8,x9,x10,y0,y1,y2,y3,y4,y5,y6,y7,y8,y9,y10⟩:=qh Q2.ver;obtain⟨u0,u1,_,_⟩:=qv nF;obtain⟨s0,s1,s2,s3,s4,s5,s6,s7,s8,s9,s10,_⟩:=qh nP;obtain⟨W9,hW9,hRQ,hT9⟩:=Q2.put11 (.string (qd x.ep)) (.slice r1 x.rel.length c1) (.int .u8 x.c) (.string (qd x.n)) (.bool x.b) (.string (qd x.m)) (.bool x.d) (.string (qd x.k)) (.slice q1 x.loc.length d1) (.string (qd t)) (.bool st);have HW9:=qb hW9;have RQ:=qb hRQ;have TQ:=qb hT9;have T1:=qb (t1.below bV);have T2:=qb (t2.below bV);have F1:=qb (fr1.mono Q0.out.lt);have F2:=qb (fr2.mono Q0.out.lt);clear hRQ hT9 hW9 Q2 b1 nP nF bV HCR t1 t2 fr1 fr2;go_upto_region 7 with fail
       rw[HV.out];have hW9:=HW9.out.symm;(go_wp2_with fail);refine qcb _ _ w.heap.size _ _ _ _ _ _ _ _ _ _ _ _ _ ⟨_,_,_,rfl⟩ ⟨_,_,_,rfl⟩ rfl rfl rfl RQ.out.ver ?_;rw[HG2.out];exact⟨RQ.out.bel,_,_,by rw[Nat.add_sub_cancel' hbi];rfl,TQ.out _ _ T1.out F1.out,TQ.out _ _ T2.out F2.out,F1.out.mono (Nat.le_succ _),F2.out.mono (Nat.le_succ _)⟩
  ·have hin':¬ (i:Int)<(s.size:Int):=by omega
   have hE:wdN (s.data.toList.drop b)=i-b:=by rw[qfd s i (by omega),wdN]at hc;omega
   clear hc;have HE9:=qb hE;clear hE
   by_cases hz:i=b
   ·have HG2:Hid (G=(.bad (misL s.size b) 0,b)):=qb (by rw[←HG.out,HE9.out,hz,Nat.sub_self];rfl)
    have HML:Hid (misL s.size b≠0):=qb (by unfold misL;split<;>decide)
    generalize misL s.size b=ML at *;have hzz:((i:Int)==(b:Int))=true:=by simp;omega
    obtain⟨x0,x1,x2,x3,x4,x5,x6,x7,x8,x9,x10,y0,y1,y2,y3,y4,y5,y6,y7,y8,y9,y10⟩:=qh Q0.out.ver;obtain⟨W9,hW9,hRQ,hT9⟩:=Q0.out.put11 (.string ⟨#[]⟩) (.slice none 0 0) (.int .u8 0) (.string ⟨#[]⟩) (.bool false) (.string ⟨#[]⟩) (.bool false) (.string ⟨#[]⟩) (.slice none 0 0) (.string ⟨#[]⟩) (.bool false);have HW9:=qb hW9;have RQ:=qb hRQ;clear hRQ hT9 hW9 hz;(go_wp2_with fail);refine(MF.out _).mono ?_;rintro e w2 ⟨rfl,hw2⟩;rw[hw2];clear hw2 w2;(go_wp2_with fail);rw[←HW9.out];refine qcb _ _ w.heap.size _ _ _ _ _ _ _ _ _ _ _ _ _ ⟨_,_,_,rfl⟩ ⟨_,_,_,rfl⟩ rfl rfl rfl RQ.out.ver ?_;rw[HG2.out];exact⟨RQ.out.bel,HML.out,rfl⟩
   ·have hzz:((i:Int)==(b:Int))=false:=by simp;omega
    have hex:s.extract b (b+(i-b))=s.extract b i:=by rw[Nat.add_sub_cancel' hbi]
    have hR9:=HRR.out;rw[HE9.out,hex]at hR9;have hG9:=HG.out;rw[HE9.out]at hG9;unfold rwOf at hG9;rw[if_neg (by omega)]at hG9
    have HCR:=qb hR9;have HG9:=qb hG9;clear hR9 hG9 hex HRR;have hbi':(b:Int)≤(i:Int):=by omega
    have hi':(i:Int)≤(s.size:Int):=by omega
    cases R with
    | bad er p=>
     have hp1:=HP.out er p rfl;have HG2:Hid (G=(.bad er 0,b+p)):=qb HG9.out.symm;(go_wp2_with fail);refine(HCR.out _).mono ?_;rintro e w1 ⟨b1,hne,st,rfl⟩
     try unfold zerV
     have HNE:=qb hne;have n1:(er==0)=false:=by simpa using hne
     have hq:w.heap.size<w1.heap.size:=(Q0.out.below b1).lt;obtain⟨V,hV,nP,nF,bV,sV⟩:=ql w1 #[.string ⟨#[]⟩,.slice none 0 0,.int .u8 0,.string ⟨#[]⟩,.bool false,.string ⟨#[]⟩,.bool false,.string ⟨#[]⟩,.slice none 0 0,.string ⟨#[]⟩,.bool st] #[.int .i64 er,.int .i64 (p:Int)] 59 25;have HV:=qb hV;clear hV;have Q2:=(Q0.out.below b1).below bV;obtain⟨x0,x1,x2,x3,x4,x5,x6,x7,x8,x9,x10,y0,y1,y2,y3,y4,y5,y6,y7,y8,y9,y10⟩:=qh Q2.ver;obtain⟨u0,u1,_,_⟩:=qv nF;obtain⟨W9,hW9,hRQ,hT9⟩:=Q2.put11 (.string ⟨#[]⟩) (.slice none 0 0) (.int .u8 0) (.string ⟨#[]⟩) (.bool false) (.string ⟨#[]⟩) (.bool false) (.string ⟨#[]⟩) (.slice none 0 0) (.string ⟨#[]⟩) (.bool false);have HW9:=qb hW9;have RQ:=qb hRQ;clear hRQ hT9 hW9 Q2 b1 hne nP nF bV HCR;go_upto_region 7 with fail
     rw[HV.out];(go_wp2_with fail);go_region
     all_goals
      (go_wp2_with fail);rw[←HW9.out];refine qcb _ _ w.heap.size _ _ _ _ _ _ _ _ _ _ _ _ _ ⟨_,_,_,rfl⟩ ⟨_,_,_,rfl⟩ rfl rfl rfl RQ.out.ver ?_;rw[HG2.out];exact⟨RQ.out.bel.drew,HNE.out,rfl⟩
    | ok x t st=>
     have HG2:Hid (G=(.ok x t st,b+(i-b))):=qb HG9.out.symm;(go_wp2_with fail);refine(HCR.out _).mono ?_;rintro e w1 ⟨b1,vr,vl,rfl,t1,t2,fr1,fr2⟩;obtain⟨r1,c1,rfl,_⟩:=id t1;obtain⟨q1,d1,rfl,_⟩:=id t2
     try unfold verV
     have hq:w.heap.size<w1.heap.size:=(Q0.out.below b1).lt;obtain⟨V,hV,nP,nF,bV,sV⟩:=ql w1 #[.string (qd x.ep),.slice r1 x.rel.length c1,.int .u8 x.c,.string (qd x.n),.bool x.b,.string (qd x.m),.bool x.d,.string (qd x.k),.slice q1 x.loc.length d1,.string (qd t),.bool st] #[.int .i64 0,.int .i64 0] 59 25;have HV:=qb hV;clear hV;have Q2:=(Q0.out.below b1).below bV;obtain⟨x0,x1,x2,x3,x4,x5,x6,x7,x8,x9,x10,y0,y1,y2,y3,y4,y5,y6,y7,y8,y9,y10⟩:=qh Q2.ver;obtain⟨u0,u1,_,_⟩:=qv nF;obtain⟨s0,s1,s2,s3,s4,s5,s6,s7,s8,s9,s10,_⟩:=qh nP;obtain⟨W9,hW9,hRQ,hT9⟩:=Q2.put11 (.string (qd x.ep)) (.slice r1 x.rel.length c1) (.int .u8 x.c) (.string (qd x.n)) (.bool x.b) (.string (qd x.m)) (.bool x.d) (.string (qd x.k)) (.slice q1 x.loc.length d1) (.string (qd t)) (.bool st);have HW9:=qb hW9;have RQ:=qb hRQ;have TQ:=qb hT9;have T1:=qb (t1.below bV);have T2:=qb (t2.below bV);have F1:=qb (fr1.mono Q0.out.lt);have F2:=qb (fr2.mono Q0.out.lt);clear hRQ hT9 hW9 Q2 b1 nP nF bV HCR t1 t2 fr1 fr2;go_upto_region 7 with fail
     rw[HV.out];have hW9:=HW9.out.symm;(go_wp2_with fail);refine qcb _ _ w.heap.size _ _ _ _ _ _ _ _ _ _ _ _ _ ⟨_,_,_,rfl⟩ ⟨_,_,_,rfl⟩ rfl rfl rfl RQ.out.ver ?_;rw[HG2.out];exact⟨RQ.out.bel,_,_,by rw[Nat.add_sub_cancel' hbi];rfl,TQ.out _ _ T1.out F1.out,TQ.out _ _ T2.out F2.out,F1.out.mono (Nat.le_succ _),F2.out.mono (Nat.le_succ _)⟩
set_option maxHeartbeats 8000000
set_option maxRecDepth 100000
theorem qzw (s:QY) (b:Nat) (R:Wd) (w:World) (hs:s.size≤256) (hb:b≤s.size)
  (hR:∀ W,Calls Tryz.prog 149 #[.string (s.extract b (b+wdN (s.data.toList.drop b)))] W (qds R W)) (hp:∀ e p,R=.bad e p→p≤1000) :
  Calls Tryz.prog 116 #[.string s,.int .i64 (b:Int),.func (.func 149) #[] #[]] w (qvd (rwOf s.size b (wdN (s.data.toList.drop b)) R) w):=by
 have MF:=qb (fun W=>qhj s b W);have IS:=qb (fun c W=>qmb c 6 W);have HRR:=qb hR;have HP:=qb hp;have hn:=qmk (s.data.toList.drop b);rw[List.length_drop,qg]at hn;generalize hG:rwOf s.size b (wdN (s.data.toList.drop b)) R=G;have HG:=qb hG;clear hG hR hp;have Q0:=R1.start w;go_enter Tryz.func116,Tryz.ntmps116
 (go_wp2_with fail);generalize w.alloc _=W0 at *;have Q0:=qb Q0;have hlt:w.heap.size<W0.heap.size:=Q0.out.lt;go_loopw [9] (fun y wr=>∃ i:Nat,b≤i∧i≤s.size∧y=.int .i64 i∧b+wdN (s.data.toList.drop b)=i+wdN (s.data.toList.drop i)∧wr=W0) (fun y _=>s.size-(intOf y).toNat)
 case atStart=>exact⟨b,by omega,hb,rfl,rfl,rfl⟩
 case round=>
  obtain⟨i,hbi,hi,rfl,hc,rfl⟩:=hrel
  by_cases hin:i<s.size
  ·have hin':(i:Int)<(s.size:Int):=by omega
   by_cases h1:(s[i].toNat:Int)=44
   ·have hcmp:((s[i].toNat:Int) != 44)=false:=by rw[h1];rfl
    have hE:wdN (s.data.toList.drop b)=i-b:=by rw[qch s i hin,wdN,if_pos (by simp only[Bool.or_eq_true,beq_iff_eq];left;apply UInt8.toNat_inj.1;show _=44;omega)]at hc;omega
    clear hc h1;have HE9:=qb hE;clear hE
    by_cases hz:i=b
    ·have HG2:Hid (G=(.bad (misL s.size b) 0,b)):=qb (by rw[←HG.out,HE9.out,hz,Nat.sub_self];rfl)
     have HML:Hid (misL s.size b≠0):=qb (by unfold misL;split<;>decide)
     generalize misL s.size b=ML at *;have hzz:((i:Int)==(b:Int))=true:=by simp;omega
     obtain⟨x0,x1,x2,x3,x4,x5,x6,x7,x8,x9,x10,y0,y1,y2,y3,y4,y5,y6,y7,y8,y9,y10⟩:=qh Q0.out.ver;obtain⟨W9,hW9,hRQ,hT9⟩:=Q0.out.put11 (.string ⟨#[]⟩) (.slice none 0 0) (.int .u8 0) (.string ⟨#[]⟩) (.bool false) (.string ⟨#[]⟩) (.bool false) (.string ⟨#[]⟩) (.slice none 0 0) (.string ⟨#[]⟩) (.bool false);have HW9:=qb hW9;have RQ:=qb hRQ;clear hRQ hT9 hW9 hz;(go_wp2_with fail);refine(MF.out _).mono ?_;rintro e w2 ⟨rfl,hw2⟩;rw[hw2];clear hw2 w2;(go_wp2_with fail);rw[←HW9.out];refine qcb _ _ w.heap.size _ _ _ _ _ _ _ _ _ _ _ _ _ ⟨_,_,_,rfl⟩ ⟨_,_,_,rfl⟩ rfl rfl rfl RQ.out.ver ?_;rw[HG2.out];exact⟨RQ.out.bel,HML.out,rfl⟩
    ·have hzz:((i:Int)==(b:Int))=false:=by simp;omega
     have hex:s.extract b (b+(i-b))=s.extract b i:=by rw[Nat.add_sub_cancel' hbi]
     have hR9:=HRR.out;rw[HE9.out,hex]at hR9;have hG9:=HG.out;rw[HE9.out]at hG9;unfold rwOf at hG9;rw[if_neg (by omega)]at hG9
     have HCR:=qb hR9;have HG9:=qb hG9;clear hR9 hG9 hex HRR;have hbi':(b:Int)≤(i:Int):=by omega
     have hi':(i:Int)≤(s.size:Int):=by omega
     cases R with
     | bad er p=>
      have hp1:=HP.out er p rfl;have HG2:Hid (G=(.bad er 0,b+p)):=qb HG9.out.symm;(go_wp2_with fail);refine(HCR.out _).mono ?_;rintro e w1 ⟨b1,hne,st,rfl⟩
      try unfold zerV
      have HNE:=qb hne;have n1:(er==0)=false:=by simpa using hne
      have hq:w.heap.size<w1.heap.size:=(Q0.out.below b1).lt;obtain⟨V,hV,nP,nF,bV,sV⟩:=ql w1 #[.string ⟨#[]⟩,.slice none 0 0,.int .u8 0,.string ⟨#[]⟩,.bool false,.string ⟨#[]⟩,.bool false,.string ⟨#[]⟩,.slice none 0 0,.string ⟨#[]⟩,.bool st] #[.int .i64 er,.int .i64 (p:Int)] 59 25;have HV:=qb hV;clear hV;have Q2:=(Q0.out.below b1).below bV;obtain⟨x0,x1,x2,x3,x4,x5,x6,x7,x8,x9,x10,y0,y1,y2,y3,y4,y5,y6,y7,y8,y9,y10⟩:=qh Q2.ver;obtain⟨u0,u1,_,_⟩:=qv nF;obtain⟨W9,hW9,hRQ,hT9⟩:=Q2.put11 (.string ⟨#[]⟩) (.slice none 0 0) (.int .u8 0) (.string ⟨#[]⟩) (.bool false) (.string ⟨#[]⟩) (.bool false) (.string ⟨#[]⟩) (.slice none 0 0) (.string ⟨#[]⟩) (.bool false);have HW9:=qb hW9;have RQ:=qb hRQ;clear hRQ hT9 hW9 Q2 b1 hne nP nF bV HCR;go_upto_region 7 with fail
      rw[HV.out];(go_wp2_with fail);go_region
      all_goals
       (go_wp2_with fail);rw[←HW9.out];refine qcb _ _ w.heap.size _ _ _ _ _ _ _ _ _ _ _ _ _ ⟨_,_,_,rfl⟩ ⟨_,_,_,rfl⟩ rfl rfl rfl RQ.out.ver ?_;rw[HG2.out];exact⟨RQ.out.bel.drew,HNE.out,rfl⟩
     | ok x t st=>
      have HG2:Hid (G=(.ok x t st,b+(i-b))):=qb HG9.out.symm;(go_wp2_with fail);refine(HCR.out _).mono ?_;rintro e w1 ⟨b1,vr,vl,rfl,t1,t2,fr1,fr2⟩;obtain⟨r1,c1,rfl,_⟩:=id t1;obtain⟨q1,d1,rfl,_⟩:=id t2
      try unfold verV
      have hq:w.heap.size<w1.heap.size:=(Q0.out.below b1).lt;obtain⟨V,hV,nP,nF,bV,sV⟩:=ql w1 #[.string (qd x.ep),.slice r1 x.rel.length c1,.int .u8 x.c,.string (qd x.n),.bool x.b,.string (qd x.m),.bool x.d,.string (qd x.k),.slice q1 x.loc.length d1,.string (qd t),.bool st] #[.int .i64 0,.int .i64 0] 59 25;have HV:=qb hV;clear hV;have Q2:=(Q0.out.below b1).below bV;obtain⟨x0,x1,x2,x3,x4,x5,x6,x7,x8,x9,x10,y0,y1,y2,y3,y4,y5,y6,y7,y8,y9,y10⟩:=qh Q2.ver;obtain⟨u0,u1,_,_⟩:=qv nF;obtain⟨s0,s1,s2,s3,s4,s5,s6,s7,s8,s9,s10,_⟩:=qh nP;obtain⟨W9,hW9,hRQ,hT9⟩:=Q2.put11 (.string (qd x.ep)) (.slice r1 x.rel.length c1) (.int .u8 x.c) (.string (qd x.n)) (.bool x.b) (.string (qd x.m)) (.bool x.d) (.string (qd x.k)) (.slice q1 x.loc.length d1) (.string (qd t)) (.bool st);have HW9:=qb hW9;have RQ:=qb hRQ;have TQ:=qb hT9;have T1:=qb (t1.below bV);have T2:=qb (t2.below bV);have F1:=qb (fr1.mono Q0.out.lt);have F2:=qb (fr2.mono Q0.out.lt);clear hRQ hT9 hW9 Q2 b1 nP nF bV HCR t1 t2 fr1 fr2;go_upto_region 7 with fail
      rw[HV.out];have hW9:=HW9.out.symm;(go_wp2_with fail);refine qcb _ _ w.heap.size _ _ _ _ _ _ _ _ _ _ _ _ _ ⟨_,_,_,rfl⟩ ⟨_,_,_,rfl⟩ rfl rfl rfl RQ.out.ver ?_;rw[HG2.out];exact⟨RQ.out.bel,_,_,by rw[Nat.add_sub_cancel' hbi];rfl,TQ.out _ _ T1.out F1.out,TQ.out _ _ T2.out F2.out,F1.out.mono (Nat.le_succ _),F2.out.mono (Nat.le_succ _)⟩
   ·have hcmp:((s[i].toNat:Int) != 44)=true:=by simp only[bne_iff_ne,ne_eq];exact h1
    have h44:(s[i]==44)=false:=by rw[beq_eq_false_iff_ne];intro e;exact h1 (by rw[e];rfl)
    cases h2:isC (s[i].toNat:Int) 6
    ·have HC:=qb (hc.trans (by rw[qch s i hin,wdN,if_neg (by rw[h44,h2];simp)]))
     have I6:=IS.out (s[i].toNat:Int);rw[h2]at I6;have I6:=qb I6;clear hc h1 h2 h44;go_wp2_with (go_at_call 86;refine(I6.out _).mono ?_;rintro e w9 ⟨rfl,rfl⟩)
     go_roundw
     case rel=>exact⟨i+1,by omega,by omega,by go_num,by have:=HC.out;omega,by trivial⟩
     case measure=>simp[intOf];omega
    ·have hE:wdN (s.data.toList.drop b)=i-b:=by rw[qch s i hin,wdN,if_pos (by rw[h2];simp)]at hc;omega
     have I6:=IS.out (s[i].toNat:Int);rw[h2]at I6;have I6:=qb I6;clear hc h1 h2 h44;have HE9:=qb hE;clear hE
     by_cases hz:i=b
     ·have HG2:Hid (G=(.bad (misL s.size b) 0,b)):=qb (by rw[←HG.out,HE9.out,hz,Nat.sub_self];rfl)
      have HML:Hid (misL s.size b≠0):=qb (by unfold misL;split<;>decide)
      generalize misL s.size b=ML at *;have hzz:((i:Int)==(b:Int))=true:=by simp;omega
      obtain⟨x0,x1,x2,x3,x4,x5,x6,x7,x8,x9,x10,y0,y1,y2,y3,y4,y5,y6,y7,y8,y9,y10⟩:=qh Q0.out.ver;obtain⟨W9,hW9,hRQ,hT9⟩:=Q0.out.put11 (.string ⟨#[]⟩) (.slice none 0 0) (.int .u8 0) (.string ⟨#[]⟩) (.bool false) (.string ⟨#[]⟩) (.bool false) (.string ⟨#[]⟩) (.slice none 0 0) (.string ⟨#[]⟩) (.bool false);have HW9:=qb hW9;have RQ:=qb hRQ;clear hRQ hT9 hW9 hz;go_wp2_with (go_at_call 86;refine(I6.out _).mono ?_;rintro e w9 ⟨rfl,rfl⟩)
      refine(MF.out _).mono ?_;rintro e w2 ⟨rfl,hw2⟩;rw[hw2];clear hw2 w2;(go_wp2_with fail);rw[←HW9.out];refine qcb _ _ w.heap.size _ _ _ _ _ _ _ _ _ _ _ _ _ ⟨_,_,_,rfl⟩ ⟨_,_,_,rfl⟩ rfl rfl rfl RQ.out.ver ?_;rw[HG2.out];exact⟨RQ.out.bel,HML.out,rfl⟩
     ·have hzz:((i:Int)==(b:Int))=false:=by simp;omega
      have hex:s.extract b (b+(i-b))=s.extract b i:=by rw[Nat.add_sub_cancel' hbi]
      have hR9:=HRR.out;rw[HE9.out,hex]at hR9;have hG9:=HG.out;rw[HE9.out]at hG9;unfold rwOf at hG9;rw[if_neg (by omega)]at hG9
      have HCR:=qb hR9;have HG9:=qb hG9;clear hR9 hG9 hex HRR;have hbi':(b:Int)≤(i:Int):=by omega
      have hi':(i:Int)≤(s.size:Int):=by omega
      cases R with
      | bad er p=>
       have hp1:=HP.out er p rfl;have HG2:Hid (G=(.bad er 0,b+p)):=qb HG9.out.symm;go_wp2_with (go_at_call 86;refine(I6.out _).mono ?_;rintro e w9 ⟨rfl,rfl⟩)
       refine(HCR.out _).mono ?_;rintro e w1 ⟨b1,hne,st,rfl⟩
       try unfold zerV
       have HNE:=qb hne;have n1:(er==0)=false:=by simpa using hne
       have hq:w.heap.size<w1.heap.size:=(Q0.out.below b1).lt;obtain⟨V,hV,nP,nF,bV,sV⟩:=ql w1 #[.string ⟨#[]⟩,.slice none 0 0,.int .u8 0,.string ⟨#[]⟩,.bool false,.string ⟨#[]⟩,.bool false,.string ⟨#[]⟩,.slice none 0 0,.string ⟨#[]⟩,.bool st] #[.int .i64 er,.int .i64 (p:Int)] 59 25;have HV:=qb hV;clear hV;have Q2:=(Q0.out.below b1).below bV;obtain⟨x0,x1,x2,x3,x4,x5,x6,x7,x8,x9,x10,y0,y1,y2,y3,y4,y5,y6,y7,y8,y9,y10⟩:=qh Q2.ver;obtain⟨u0,u1,_,_⟩:=qv nF;obtain⟨W9,hW9,hRQ,hT9⟩:=Q2.put11 (.string ⟨#[]⟩) (.slice none 0 0) (.int .u8 0) (.string ⟨#[]⟩) (.bool false) (.string ⟨#[]⟩) (.bool false) (.string ⟨#[]⟩) (.slice none 0 0) (.string ⟨#[]⟩) (.bool false);have HW9:=qb hW9;have RQ:=qb hRQ;clear hRQ hT9 hW9 Q2 b1 hne nP nF bV HCR;go_upto_region 7 with fail
       rw[HV.out];(go_wp2_with fail);go_region
       all_goals
        (go_wp2_with fail);rw[←HW9.out];refine qcb _ _ w.heap.size _ _ _ _ _ _ _ _ _ _ _ _ _ ⟨_,_,_,rfl⟩ ⟨_,_,_,rfl⟩ rfl rfl rfl RQ.out.ver ?_;rw[HG2.out];exact⟨RQ.out.bel.drew,HNE.out,rfl⟩
      | ok x t st=>
       have HG2:Hid (G=(.ok x t st,b+(i-b))):=qb HG9.out.symm;go_wp2_with (go_at_call 86;refine(I6.out _).mono ?_;rintro e w9 ⟨rfl,rfl⟩)
       refine(HCR.out _).mono ?_;rintro e w1 ⟨b1,vr,vl,rfl,t1,t2,fr1,fr2⟩;obtain⟨r1,c1,rfl,_⟩:=id t1;obtain⟨q1,d1,rfl,_⟩:=id t2
       try unfold verV
       have hq:w.heap.size<w1.heap.size:=(Q0.out.below b1).lt;obtain⟨V,hV,nP,nF,bV,sV⟩:=ql w1 #[.string (qd x.ep),.slice r1 x.rel.length c1,.int .u8 x.c,.string (qd x.n),.bool x.b,.string (qd x.m),.bool x.d,.string (qd x.k),.slice q1 x.loc.length d1,.string (qd t),.bool st] #[.int .i64 0,.int .i64 0] 59 25;have HV:=qb hV;clear hV;have Q2:=(Q0.out.below b1).below bV;obtain⟨x0,x1,x2,x3,x4,x5,x6,x7,x8,x9,x10,y0,y1,y2,y3,y4,y5,y6,y7,y8,y9,y10⟩:=qh Q2.ver;obtain⟨u0,u1,_,_⟩:=qv nF;obtain⟨s0,s1,s2,s3,s4,s5,s6,s7,s8,s9,s10,_⟩:=qh nP;obtain⟨W9,hW9,hRQ,hT9⟩:=Q2.put11 (.string (qd x.ep)) (.slice r1 x.rel.length c1) (.int .u8 x.c) (.string (qd x.n)) (.bool x.b) (.string (qd x.m)) (.bool x.d) (.string (qd x.k)) (.slice q1 x.loc.length d1) (.string (qd t)) (.bool st);have HW9:=qb hW9;have RQ:=qb hRQ;have TQ:=qb hT9;have T1:=qb (t1.below bV);have T2:=qb (t2.below bV);have F1:=qb (fr1.mono Q0.out.lt);have F2:=qb (fr2.mono Q0.out.lt);clear hRQ hT9 hW9 Q2 b1 nP nF bV HCR t1 t2 fr1 fr2;go_upto_region 7 with fail
       rw[HV.out];have hW9:=HW9.out.symm;(go_wp2_with fail);refine qcb _ _ w.heap.size _ _ _ _ _ _ _ _ _ _ _ _ _ ⟨_,_,_,rfl⟩ ⟨_,_,_,rfl⟩ rfl rfl rfl RQ.out.ver ?_;rw[HG2.out];exact⟨RQ.out.bel,_,_,by rw[Nat.add_sub_cancel' hbi];rfl,TQ.out _ _ T1.out F1.out,TQ.out _ _ T2.out F2.out,F1.out.mono (Nat.le_succ _),F2.out.mono (Nat.le_succ _)⟩
  ·have hin':¬ (i:Int)<(s.size:Int):=by omega
   have hE:wdN (s.data.toList.drop b)=i-b:=by rw[qfd s i (by omega),wdN]at hc;omega
   clear hc;have HE9:=qb hE;clear hE
   by_cases hz:i=b
   ·have HG2:Hid (G=(.bad (misL s.size b) 0,b)):=qb (by rw[←HG.out,HE9.out,hz,Nat.sub_self];rfl)
    have HML:Hid (misL s.size b≠0):=qb (by unfold misL;split<;>decide)
    generalize misL s.size b=ML at *;have hzz:((i:Int)==(b:Int))=true:=by simp;omega
    obtain⟨x0,x1,x2,x3,x4,x5,x6,x7,x8,x9,x10,y0,y1,y2,y3,y4,y5,y6,y7,y8,y9,y10⟩:=qh Q0.out.ver;obtain⟨W9,hW9,hRQ,hT9⟩:=Q0.out.put11 (.string ⟨#[]⟩) (.slice none 0 0) (.int .u8 0) (.string ⟨#[]⟩) (.bool false) (.string ⟨#[]⟩) (.bool false) (.string ⟨#[]⟩) (.slice none 0 0) (.string ⟨#[]⟩) (.bool false);have HW9:=qb hW9;have RQ:=qb hRQ;clear hRQ hT9 hW9 hz;(go_wp2_with fail);refine(MF.out _).mono ?_;rintro e w2 ⟨rfl,hw2⟩;rw[hw2];clear hw2 w2;(go_wp2_with fail);rw[←HW9.out];refine qcb _ _ w.heap.size _ _ _ _ _ _ _ _ _ _ _ _ _ ⟨_,_,_,rfl⟩ ⟨_,_,_,rfl⟩ rfl rfl rfl RQ.out.ver ?_;rw[HG2.out];exact⟨RQ.out.bel,HML.out,rfl⟩
   ·have hzz:((i:Int)==(b:Int))=false:=by simp;omega
    have hex:s.extract b (b+(i-b))=s.extract b i:=by rw[Nat.add_sub_cancel' hbi]
    have hR9:=HRR.out;rw[HE9.out,hex]at hR9;have hG9:=HG.out;rw[HE9.out]at hG9;unfold rwOf at hG9;rw[if_neg (by omega)]at hG9
    have HCR:=qb hR9;have HG9:=qb hG9;clear hR9 hG9 hex HRR;have hbi':(b:Int)≤(i:Int):=by omega
    have hi':(i:Int)≤(s.size:Int):=by omega
    cases R with
    | bad er p=>
     have hp1:=HP.out er p rfl;have HG2:Hid (G=(.bad er 0,b+p)):=qb HG9.out.symm;(go_wp2_with fail);refine(HCR.out _).mono ?_;rintro e w1 ⟨b1,hne,st,rfl⟩
     try unfold zerV
     have HNE:=qb hne;have n1:(er==0)=false:=by simpa using hne
     have hq:w.heap.size<w1.heap.size:=(Q0.out.below b1).lt;obtain⟨V,hV,nP,nF,bV,sV⟩:=ql w1 #[.string ⟨#[]⟩,.slice none 0 0,.int .u8 0,.string ⟨#[]⟩,.bool false,.string ⟨#[]⟩,.bool false,.string ⟨#[]⟩,.slice none 0 0,.string ⟨#[]⟩,.bool st] #[.int .i64 er,.int .i64 (p:Int)] 59 25;have HV:=qb hV;clear hV;have Q2:=(Q0.out.below b1).below bV;obtain⟨x0,x1,x2,x3,x4,x5,x6,x7,x8,x9,x10,y0,y1,y2,y3,y4,y5,y6,y7,y8,y9,y10⟩:=qh Q2.ver;obtain⟨u0,u1,_,_⟩:=qv nF;obtain⟨W9,hW9,hRQ,hT9⟩:=Q2.put11 (.string ⟨#[]⟩) (.slice none 0 0) (.int .u8 0) (.string ⟨#[]⟩) (.bool false) (.string ⟨#[]⟩) (.bool false) (.string ⟨#[]⟩) (.slice none 0 0) (.string ⟨#[]⟩) (.bool false);have HW9:=qb hW9;have RQ:=qb hRQ;clear hRQ hT9 hW9 Q2 b1 hne nP nF bV HCR;go_upto_region 7 with fail
     rw[HV.out];(go_wp2_with fail);go_region
     all_goals
      (go_wp2_with fail);rw[←HW9.out];refine qcb _ _ w.heap.size _ _ _ _ _ _ _ _ _ _ _ _ _ ⟨_,_,_,rfl⟩ ⟨_,_,_,rfl⟩ rfl rfl rfl RQ.out.ver ?_;rw[HG2.out];exact⟨RQ.out.bel.drew,HNE.out,rfl⟩
    | ok x t st=>
     have HG2:Hid (G=(.ok x t st,b+(i-b))):=qb HG9.out.symm;(go_wp2_with fail);refine(HCR.out _).mono ?_;rintro e w1 ⟨b1,vr,vl,rfl,t1,t2,fr1,fr2⟩;obtain⟨r1,c1,rfl,_⟩:=id t1;obtain⟨q1,d1,rfl,_⟩:=id t2
     try unfold verV
     have hq:w.heap.size<w1.heap.size:=(Q0.out.below b1).lt;obtain⟨V,hV,nP,nF,bV,sV⟩:=ql w1 #[.string (qd x.ep),.slice r1 x.rel.length c1,.int .u8 x.c,.string (qd x.n),.bool x.b,.string (qd x.m),.bool x.d,.string (qd x.k),.slice q1 x.loc.length d1,.string (qd t),.bool st] #[.int .i64 0,.int .i64 0] 59 25;have HV:=qb hV;clear hV;have Q2:=(Q0.out.below b1).below bV;obtain⟨x0,x1,x2,x3,x4,x5,x6,x7,x8,x9,x10,y0,y1,y2,y3,y4,y5,y6,y7,y8,y9,y10⟩:=qh Q2.ver;obtain⟨u0,u1,_,_⟩:=qv nF;obtain⟨s0,s1,s2,s3,s4,s5,s6,s7,s8,s9,s10,_⟩:=qh nP;obtain⟨W9,hW9,hRQ,hT9⟩:=Q2.put11 (.string (qd x.ep)) (.slice r1 x.rel.length c1) (.int .u8 x.c) (.string (qd x.n)) (.bool x.b) (.string (qd x.m)) (.bool x.d) (.string (qd x.k)) (.slice q1 x.loc.length d1) (.string (qd t)) (.bool st);have HW9:=qb hW9;have RQ:=qb hRQ;have TQ:=qb hT9;have T1:=qb (t1.below bV);have T2:=qb (t2.below bV);have F1:=qb (fr1.mono Q0.out.lt);have F2:=qb (fr2.mono Q0.out.lt);clear hRQ hT9 hW9 Q2 b1 nP nF bV HCR t1 t2 fr1 fr2;go_upto_region 7 with fail
     rw[HV.out];have hW9:=HW9.out.symm;(go_wp2_with fail);refine qcb _ _ w.heap.size _ _ _ _ _ _ _ _ _ _ _ _ _ ⟨_,_,_,rfl⟩ ⟨_,_,_,rfl⟩ rfl rfl rfl RQ.out.ver ?_;rw[HG2.out];exact⟨RQ.out.bel,_,_,by rw[Nat.add_sub_cancel' hbi];rfl,TQ.out _ _ T1.out F1.out,TQ.out _ _ T2.out F2.out,F1.out.mono (Nat.le_succ _),F2.out.mono (Nat.le_succ _)⟩
end Go.Proofs.YtabmfdedbpmfmaaGreat
