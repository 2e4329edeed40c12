/- Words at a place: what a reader leaves. -/
import Derived.Test.YtabmfdedbpmfmaaGreatVHf
import Derived.Laws.AppendOwn
namespace Go.Proofs.YtabmfdedbpmfmaaGreat
open Go.RowKit Go.Shelf
open List renaming length_append → qbtw
set_option linter.unusedVariables false
def qmf (st:Bool):QB:=if st then [46,42] else []
def wdC (c:Cl):QB:=c.t++qmf c.st
def wrC (c:Cl):QB:=sgn c.k++wdC c
def wrL:List Cl→QB
 | []=>[]
 | [c]=>wrC c
 | c::d::r=>wrC c++44::wrL (d::r)
structure WrOK (c:Cl):Prop where
 k8:c.k<8
 wd:wdR c.k (wdC c)=.ok c.x c.t c.st
 ne:wdC c≠[]
 nw:wdN (wdC c)=(wdC c).length
def qhq (c:Cl):Nat×PepL×QB×Bool:=(c.k,c.x,c.t,c.st)
theorem qbff:∀ l:QB,wdN (l.take (wdN l))=wdN l
 | []=>rfl
 | c::r=>by
  have ih:=qbff r;rw[wdN];split
  ·rfl
  ·rename_i h;rw[List.take_succ_cons,wdN,if_neg h,ih]
theorem qbnd:∀ (u r:QB),wdN u=u.length→(r=[]∨∃ t,r=44::t)→wdN (u++r)=u.length
 | [],r,_,h=>by
  rcases h with rfl|⟨t,rfl⟩
  ·rfl
  ·simp[wdN]
 | c::u,r,hu,h=>by
  rw[wdN]at hu;split at hu
  ·cases hu
  ·rename_i hc;rw[List.cons_append,wdN,if_neg hc,qbnd u r (by simpa using hu) h]
   rfl
theorem qgd {may:PepL→Bool} {u t:QB} {x:PepL} {st:Bool} (h:qbn may u=.ok x t st):t=u∧st=false∧okP u=true:=by
 unfold qbn at h;cases ho:okP u
 ·rw[ho,if_neg (by simp)]at h;cases h
 ·rw[ho,if_pos rfl]at h;split at h
  ·cases h;exact⟨rfl,rfl,rfl⟩
  ·cases h
theorem wd_text {k:Nat} {u t:QB} {x:PepL} {st:Bool} (h:wdR k u=.ok x t st):u=t++qmf st:=by
 unfold wdR at h;split at h
 ·obtain⟨rfl,rfl,_⟩:=qgd h;simp[qmf]
 ·split at h
  ·split at h
   ·rename_i he;cases hq:qbn qff (u.take (u.length-2))with
    | bad e2 p2=>rw[hq]at h;cases h
    | ok x2 t2 st2=>
     rw[hq]at h;cases h;obtain⟨rfl,_,_⟩:=qgd hq;unfold qcm at he;simp only[Bool.and_eq_true,decide_eq_true_eq,beq_iff_eq]at he;have:=List.take_append_drop (u.length-2) u;rw[he.2]at this;simpa[qmf] using this.symm
   ·obtain⟨rfl,rfl,_⟩:=qgd h;simp[qmf]
  ·split at h
   ·unfold qkr at h;split at h
    ·cases h
    ·cases h;simp[qmf]
   ·obtain⟨rfl,rfl,_⟩:=qgd h;simp[qmf]
theorem qml (r:QB):okP (61::r)=false:=by
 have hl:qk (61::r)=61::qk r:=rfl;have h1:vp1 (qk (61::r))=0:=by
  unfold vp1 qmj pfxB;rw[hl]
  rfl
 have h2:vp2 (qk (61::r))=0:=by
  unfold vp2 epoP;rw[h1,if_neg];rw[hl];simp[epoB,digB,cutB,qn,isC]
 have h3:vrel (qk (61::r))=[]:=by
  unfold vrel;rw[h2];exact qgq _ _ _ _ (by rw[hl];rfl)
 unfold okP verX;rw[h3];simp[misL];split<;>simp
theorem wd_first {k:Nat} (hk:k≠7) {d:UInt8} {r t:QB} {x:PepL} {st:Bool} (h:wdR k (d::r)=.ok x t st):d≠61:=by
 rintro rfl;unfold wdR at h;split at h
 ·have:=(qgd h).2.2;rw[qml]at this;cases this
 ·split at h
  ·split at h
   ·cases hq:qbn qff ((61::r).take ((61::r).length-2))with
    | bad e2 p2=>rw[hq]at h;cases h
    | ok x2 t2 st2=>
     have:=(qgd hq).2.2;cases hn:(61::r).length-2 with
     | zero=>rw[hn,List.take_zero]at this;revert this;decide +kernel
     | succ n=>rw[hn,List.take_succ_cons,qml]at this;cases this
   ·have:=(qgd h).2.2;rw[qml]at this;cases this
  ·first
   | (rw[if_neg hk]at h;have:=(qgd h).2.2;rw[qml]at this;cases this)
   | (have:=(qgd h).2.2;rw[qml]at this;cases this)
theorem op_first (k:Nat) (hk:k<8) (d:UInt8) (r:QB) (hd:k≠7→d≠61):(opGo (sgn k++d::r) 8).1=k:=by
 match k,hk,hd with
 | 0,_,hd=>have h:=hd (by decide);simp[opGo,qdf,comL,sgn]
 | 1,_,hd=>have h:=hd (by decide);simp[opGo,qdf,comL,sgn,h]
 | 2,_,hd=>have h:=hd (by decide);simp[opGo,qdf,comL,sgn]
 | 3,_,hd=>have h:=hd (by decide);simp[opGo,qdf,comL,sgn]
 | 4,_,hd=>have h:=hd (by decide);simp[opGo,qdf,comL,sgn]
 | 5,_,hd=>have h:=hd (by decide);simp[opGo,qdf,comL,sgn,h]
 | 6,_,hd=>have h:=hd (by decide);simp[opGo,qdf,comL,sgn,h]
 | 7,_,_=>simp[opGo,qdf,comL,sgn]
theorem qbpk (k:Nat) (hk:k<8):∃ c r,sgn k=c::r∧isC (c.toNat:Int) 6=false:=by
 match k,hk with
 | 0,_=>exact⟨_,_,rfl,by decide⟩
 | 1,_=>exact⟨_,_,rfl,by decide⟩
 | 2,_=>exact⟨_,_,rfl,by decide⟩
 | 3,_=>exact⟨_,_,rfl,by decide⟩
 | 4,_=>exact⟨_,_,rfl,by decide⟩
 | 5,_=>exact⟨_,_,rfl,by decide⟩
 | 6,_=>exact⟨_,_,rfl,by decide⟩
 | 7,_=>exact⟨_,_,rfl,by decide⟩
theorem qbcf {l:QB} {a:Nat} {c:UInt8} {r:QB} (h:l.drop a=c::r) (hc:isC (c.toNat:Int) 6=false):skL l a=a:=by
 unfold skL;rw[h,qn,if_neg (by simp[hc]),Nat.add_zero]
theorem sk_end {l:QB} {a:Nat} (h:l.drop a=[]):skL l a=a:=by
 unfold skL;rw[h]
 rfl
theorem cl_back {c:Cl} (hc:WrOK c) {l rest:QB} {a:Nat} (ha:l.drop a=wrC c++rest) (hr:rest=[]∨∃ t,rest=44::t) :
  qhq (clP l a)=qhq c∧(clP l a).er=0∧(clP l a).e=a+(wrC c).length:=by
 obtain ⟨d,u,hu⟩:∃ d u,wdC c=d::u:=by
  cases h:wdC c with
  | nil=>exact absurd h hc.ne
  | cons d u=>exact⟨d,u,rfl⟩
 have hd:c.k≠7→d≠61:=fun h7=>wd_first h7 (hu▸hc.wd);have hop:(opGo (l.drop a) 8).1=c.k:=by
  rw[ha,wrC,hu,List.append_assoc,List.cons_append];exact op_first c.k hc.k8 d _ hd
 have hdb:isC (d.toNat:Int) 6=false:=by
  have:=hc.nw;rw[hu,wdN]at this;split at this
  ·cases this
  ·rename_i h;simp only[Bool.or_eq_true,not_or,Bool.not_eq_true]at h;exact h.2
 have h1:l.drop (a+(sgn c.k).length)=wdC c++rest:=by
  rw[←List.drop_drop,ha,wrC,List.append_assoc,List.drop_left]
 have h2:skL l (a+(sgn c.k).length)=a+(sgn c.k).length:=qbcf (by rw[h1,hu];rfl) hdb
 have h3:wdN (l.drop (a+(sgn c.k).length))=(wdC c).length:=by rw[h1];exact qbnd _ _ hc.nw hr
 have h4:seg l (a+(sgn c.k).length) (a+(sgn c.k).length+(wdC c).length)=wdC c:=by
  rw[qlh,h1,List.take_left]
 have hz:(wdC c).length≠0:=by rw[hu];simp
 have h5:rwL l c.k (a+(sgn c.k).length)=(.ok c.x c.t c.st,a+(sgn c.k).length+(wdC c).length):=by
  unfold rwL;rw[h3,if_neg hz,h4,hc.wd]
 have h6:l.drop (a+(sgn c.k).length+(wdC c).length)=rest:=by rw[←List.drop_drop,h1,List.drop_left]
 have h7:skL l (a+(sgn c.k).length+(wdC c).length)=a+(sgn c.k).length+(wdC c).length:=by
  rcases hr with rfl|⟨t,rfl⟩
  ·exact sk_end h6
  ·exact qbcf h6 (by decide)
 have h8:¬ (a+(sgn c.k).length+(wdC c).length<l.length∧l[a+(sgn c.k).length+(wdC c).length]?≠some 44):=by
  rintro⟨h8,h9⟩;rcases hr with rfl|⟨t,rfl⟩
  ·have:=List.drop_eq_nil_iff.1 h6;omega
  ·apply h9;rw[←List.head?_drop,h6]
   rfl
 have hk:=hc.k8;unfold clP;rw[hop,if_neg (by omega),h2,h5]
 dsimp only;rw[h7,if_neg h8];exact⟨rfl,rfl,by rw[wrC,qbtw];omega⟩
theorem qks (c:Cl) (cs:List Cl):∃ rest,wrL (c::cs)=wrC c++rest∧(cs=[]→rest=[])∧(cs≠[]→rest=44::wrL cs):=by
 cases cs with
 | nil=>exact⟨[],by rw[List.append_nil];rfl,fun _=>rfl,fun h=>absurd rfl h⟩
 | cons d r=>exact⟨44::wrL (d::r),rfl,fun h=>by (cases h),fun _=>rfl⟩
theorem qrj {c:Cl} (hc:WrOK c):∃ d u,wrC c=d::u∧isC (d.toNat:Int) 6=false:=by
 obtain⟨d,r,h1,h2⟩:=qbpk c.k hc.k8;exact⟨d,r++wdC c,by rw[wrC,h1];rfl,h2⟩
theorem qbnp (l:QB):∀ (cs:List Cl) (n a:Nat) (acc:List Cl),cs≠[]→(∀ c∈cs,WrOK c)→l.drop a=wrL cs→cs.length≤n→acc.length+cs.length≤32 →
  ∃ ds,pyGo l n a acc=(0,0,acc++ds)∧ds.map qhq=cs.map qhq
 | [],_,_,_,h,_,_,_,_=>absurd rfl h
 | c::cs,0,_,_,_,_,_,h,_=>by simp at h
 | c::cs,n+1,a,acc,_,hok,ha,hn,hl=>by
  have hc:=hok c (by simp)
  obtain⟨rest,hw,hw1,hw2⟩:=qks c cs;obtain⟨d,u,hd,hdb⟩:=qrj hc;have hsk:skL l a=a:=qbcf (c:=d) (r:=u++rest) (by rw[ha,hw,hd];rfl) hdb
  have hr:rest=[]∨∃ t,rest=44::t:=by
   by_cases h:cs=[]
   ·exact .inl (hw1 h)
   ·exact .inr ⟨_,hw2 h⟩
  obtain⟨b1,b2,b3⟩:=cl_back hc (ha.trans hw) hr;have hlen:(l.drop a).length=(wrC c).length+rest.length:=by rw[ha,hw,qbtw]
  rw[List.length_drop]at hlen;have hpos:0<(wrC c).length:=by rw[hd];simp
  simp only[List.length_cons]at hn hl;unfold pyGo;rw[hsk,if_neg (by omega),if_neg (by rw[b2];simp),b3]
  by_cases h:cs=[]
  ·rw[if_neg (by rw[hw1 h]at hlen;simp at hlen;omega)]
   exact⟨[clP l a],rfl,by rw[h];simp[b1]⟩
  ·have hr2:=hw2 h;rw[if_pos (by rw[hr2]at hlen;simp at hlen;omega)]
   have h6:l.drop (a+(wrC c).length+1)=wrL cs:=by rw[←List.drop_drop,←List.drop_drop,ha,hw,List.drop_left,hr2];rfl
   obtain⟨ds,e1,e2⟩:=qbnp l cs n (a+(wrC c).length+1) (acc++[clP l a]) h (fun x hx=>hok x (by simp[hx])) h6 (by omega) (by simp;omega)
   exact⟨clP l a::ds,by rw[e1];simp,by simp[e2,b1]⟩
theorem py_back {cs:List Cl} (hok:∀ c∈cs,WrOK c) (hn:cs.length≤32) (hl:(wrL cs).length≤256):∃ ds,pyL (wrL cs)=(0,0,ds)∧ds.map qhq=cs.map qhq:=by
 unfold pyL;rw[if_neg (by omega)]
 cases cs with
 | nil=>exact⟨[],rfl,rfl⟩
 | cons c cs=>
  obtain⟨rest,hw,_,_⟩:=qks c cs;obtain⟨d,u,hd,hdb⟩:=qrj (hok c (by simp))
  rw[if_neg (by rw[hw,hd,List.cons_append,qn,if_neg (by simp[hdb])];simp)]
  obtain⟨ds,e1,e2⟩:=qbnp (wrL (c::cs)) (c::cs) 33 0 [] (by simp) hok (by rw[List.drop_zero]) (by omega) (by simpa using hn)
  exact⟨ds,by rw[e1];rfl,e2⟩
theorem cl_wr {l:QB} {a:Nat} (ha:a≤l.length) (h:(clP l a).er=0):WrOK (clP l a)∧(wrC (clP l a)).length≤(clP l a).e-a:=by
 have hm:=qhm (l.drop a) 8 (by omega)
 rw[List.length_drop]at hm;unfold clP at h ⊢;split
 ·rename_i h8;rw[if_pos h8]at h;dsimp only at h;unfold misL at h;split at h<;>cases h
 ·rename_i h8;rw[if_neg h8]at h;have hs:=qgj l (a+(sgn (opGo (l.drop a) 8).1).length) (by omega)
  cases hq:rwL l (opGo (l.drop a) 8).1 (skL l (a+(sgn (opGo (l.drop a) 8).1).length))with
  | mk w z=>
   cases w with
   | bad e p=>rw[hq]at h;exact absurd h (qbkn hq)
   | ok x t st=>
    rw[hq]at h;dsimp only at h ⊢;generalize hb:skL l (a+(sgn (opGo (l.drop a) 8).1).length)=b at *;unfold rwL at hq;split at hq
    ·cases hq
    ·rename_i hnz;have hseg:seg l b (b+wdN (l.drop b))=(l.drop b).take (wdN (l.drop b)):=qlh _ _ _;have hwl:=qlj (l.drop b);rw[List.length_drop]at hwl;split at hq
     ·cases hq
     ·rename_i hwd;cases hq;have ht:=wd_text hwd;have hz:=qgj l (b+wdN (l.drop b)) (by omega)
      have hlen:(seg l b (b+wdN (l.drop b))).length=wdN (l.drop b):=by rw[qpn _ _ _ (by omega)];omega
      have hw:wdC ⟨(opGo (l.drop a) 8).1,x,t,st,a,skL l (b+wdN (l.drop b)),if skL l (b+wdN (l.drop b))<l.length∧l[skL l (b+wdN (l.drop b))]?≠some 44 then 10 else 0⟩=seg l b (b+wdN (l.drop b)):=by rw[ht];rfl
      refine⟨⟨by dsimp only;omega,by rw[hw];exact hwd,by rw[hw];intro h0;rw[h0]at hlen;exact hnz hlen.symm,by rw[hw,hlen,hseg];exact qbff _⟩,?_⟩
      rw[wrC,hw,qbtw,hlen];dsimp only;omega
theorem wrL_len (c:Cl) (cs:List Cl):(wrL (c::cs)).length≤(wrC c).length+1+(wrL cs).length:=by
 obtain⟨rest,hw,h1,h2⟩:=qks c cs;rw[hw,qbtw]
 by_cases h:cs=[]
 ·rw[h1 h];simp;omega
 ·rw[h2 h];simp;omega
theorem go_wr (l:QB):∀ (n a:Nat) (acc:List Cl) (cs:List Cl) (p:Nat),a≤l.length→acc.length≤32→pyGo l n a acc=(0,p,cs) →
  ∃ ds,cs=acc++ds∧(∀ c∈ds,WrOK c)∧(wrL ds).length≤l.length-a∧cs.length≤32
 | 0,a,acc,cs,p,_,_,h=>by unfold pyGo at h;cases h
 | n + 1,a,acc,cs,p,ha,hacc,h=>by
  have hs:=qgj l a ha;unfold pyGo at h;split at h
  ·cases h
  ·rename_i hfull;split at h
   ·rename_i h1;rw[Prod.mk.injEq]at h;exact absurd h.1 h1
   ·rename_i her;have her':(clP l (skL l a)).er=0:=by simpa using her
    obtain ⟨hw,hlen⟩:=cl_wr hs.2 her';obtain⟨he1,he2⟩:=qblm hs.2 her';have hlt:skL l a<l.length:=by
     obtain⟨d,u,hd,_⟩:=qrj hw;have:0<(wrC (clP l (skL l a))).length:=by rw[hd];simp
     omega
    have h32:acc.length≠32:=fun h=>hfull ⟨h,hlt⟩;split at h
    ·rename_i hmore;obtain⟨ds,e1,e2,e3,e4⟩:=go_wr l n _ _ cs p (by omega) (by simp;omega) h
     refine⟨clP l (skL l a)::ds,by rw[e1];simp,fun c hc=>?_,?_,e4⟩
     ·rcases List.mem_cons.1 hc with rfl|hc
      ·exact hw
      ·exact e2 c hc
     ·have:=wrL_len (clP l (skL l a)) ds;omega
    ·cases h;refine⟨[clP l (skL l a)],rfl,fun c hc=>?_,?_,by simp;omega⟩
     ·rw[List.mem_singleton]at hc;subst hc;exact hw
     ·change(wrC _).length≤_;omega
theorem py_wr {l:QB} {p:Nat} {cs:List Cl} (h:pyL l=(0,p,cs)):(∀ c∈cs,WrOK c)∧cs.length≤32∧(wrL cs).length≤l.length∧l.length≤256:=by
 unfold pyL at h;split at h
 ·cases h
 ·rename_i h256;split at h
  ·cases h;exact⟨fun c hc=>(by cases hc),by simp,by simp[wrL],by omega⟩
  ·obtain⟨ds,e1,e2,e3,e4⟩:=go_wr l 33 0 [] cs p (Nat.zero_le _) (by simp) h
   rw[List.nil_append]at e1;subst e1;exact⟨e2,e4,by omega,by omega⟩
open _root_.Array renaming getElem?_eq_some_iff → qbth
open Go renaming World → QW, Value → QV
def qfd (A:Nat→Prop) (W W':QW):Prop:=
 W.heap.size≤W'.heap.size∧∀ (b:Nat) (cs:Array QV) (t:TypeId) (m:Nat×Nat),A b→W.heap[b]? = some (.cells cs t m)→W'.heap[b]? = some (.cells cs t m)
variable {A A':Nat→Prop}
theorem qbkv {W W':QW} {b o:Nat} {u:QV} (h:W.cell? ⟨b,o,none⟩=some u) (hk:qfd A W W') (hA:A b):W'.cell? ⟨b,o,none⟩=some u:=by
 unfold World.cell? at h ⊢;cases hb:W.heap[b]? with
 | none=>simp only[hb]at h;cases h
 | some ob=>
  cases ob with
  | cells cs t m=>
   simp only[hb]at h;simp only[hk.2 b cs t m hA hb];exact h
  | _=>simp only[hb]at h;cases h
theorem qbq {W W':QW} (h:Below W.heap.size W W'):qfd A W W':=⟨h.size,fun b cs t m _ hh=>(h.block b (qbth.1 hh).1).trans hh⟩
theorem qfd.trans {X Y Z:QW} (h:qfd A X Y) (k:qfd A Y Z):qfd A X Z:=⟨Nat.le_trans h.1 k.1,fun b cs t m hb hh=>k.2 b cs t m hb (h.2 b cs t m hb hh)⟩
theorem qfd.at_ {W W':QW} {B:Nat} {cs:Array QV} {t:TypeId} {m:Nat×Nat} (hk:qfd A W W') (hA:A B) (h:W.heap[B]? = some (.cells cs t m)):W'.heap[B]? = some (.cells cs t m):=hk.2 _ _ _ _ hA h
theorem set_size (W:QW) (p:Addr) (v:QV):(W.setCell p v).heap.size=W.heap.size:=Array.size_modify
theorem qld (W:QW) (B o:Nat) (v:QV) (h:∀ b,A b→b≠B):qfd A W (W.setCell ⟨B,o,none⟩ v):=⟨by rw[set_size];exact Nat.le_refl _,fun b cs t m hb hh=>(Below.heap_setCell _ _ _ b (h b hb)).trans hh⟩
theorem qxl {B0:Nat} {W W':QW} {row:Option Nat} (hg:W.grownBy W' row) (hr:∀ r,row=some r→B0≤r∧∃ o:Obj,W.heap[r]? = some o∧o.isCells=false):qfd A W W':=by
 refine⟨hg.size,fun b cs t m _ hh=>(hg.block b (qbth.1 hh).1 (fun e=>?_)).trans hh⟩;obtain⟨_,o,ho,hc⟩:=hr b e.symm;rw[hh]at ho;cases ho;cases hc
theorem qsk {W W':QW} {r:Option Nat} (hg:W.grownBy W' r) (h:∀ b,A b→r≠some b):qfd A W W':=
 ⟨hg.size,fun b cs t m hb hh=>(hg.block b (qbth.1 hh).1 (fun e=>h b hb e.symm)).trans hh⟩
def Aw (A:Nat→Prop) (u:QV):Prop:=∀ p n c,u=.slice (some p) n c→(n=0∨A p.block)∧n≤c
theorem aw_txt {W:QW} {u:QV} {ts:List QB} (h:qx W u ts) (hc:Aw A u):ts=[]∨∃ cap b off,u=.slice (some ⟨b,off,none⟩) ts.length cap∧b<W.heap.size∧A b∧∀ i (h:i<ts.length),W.cell? ⟨b,off+i,none⟩=some (.string (qd ts[i])):=by
 obtain⟨a,cap,hv,h0|⟨b,off,ha,hlt,hcl⟩⟩:=h
 ·exact .inl h0
 ·rcases(hc _ _ _ (by rw[hv,ha])).1 with h|h
  ·exact .inl (List.length_eq_zero_iff.1 h)
  ·exact .inr ⟨cap,b,off,by rw[hv,ha],hlt,h,hcl⟩
theorem qzn {W W':QW} {u:QV} {ts:List QB} (h:qx W u ts) (hc:Aw A u) (hk:qfd A W W'):qx W' u ts:=by
 rcases aw_txt h hc with rfl|⟨cap,b,off,rfl,hlt,hA,hcl⟩
 ·obtain⟨a,cap,hv,_⟩:=h;exact⟨a,cap,hv,.inl rfl⟩
 ·exact⟨_,cap,rfl,.inr ⟨b,off,rfl,Nat.lt_of_lt_of_le hlt hk.1,fun i hi=>qbkv (hcl i hi) hk hA⟩⟩
theorem aw_to {W:QW} {u:QV} {ts:List QB} (h:qx W u ts) (hc:Aw A u) (hA:∀ b,A b→b<W.heap.size→A' b):Aw A' u:=by
 rcases aw_txt h hc with rfl|⟨cap,b,off,rfl,hlt,hb,hcl⟩
 ·obtain⟨a,cap,hv,_⟩:=h;intro p n c e;have h2:=(hc p n c e).2;rw[hv]at e;cases e;exact⟨.inl rfl,h2⟩
 ·intro p n c e;have h2:=(hc p n c e).2;cases e;exact⟨.inr (hA b hb hlt),h2⟩
theorem qbdz {n:Nat} {u:QV} (h:qbs n u) (hA:∀ b,n≤b→A b):Aw A u:=fun p k c e=>⟨.inr (hA _ (h p k c e).1),(h p k c e).2⟩
theorem qfm {W W':QW} {base:Nat} {e:TypeId} {size:Nat} {v:QV} {n:Nat} {xs:List QV} (h:W.ownsRow base e size v n xs) (hk:qfd A W W') (hA:∀ g,v.ownBlock=some g→A g):W'.ownsRow base e size v n xs:=by
 refine⟨h.1,?_⟩;rcases h.2 with h2|⟨g,cap,cur,hv,hg,hh,r⟩
 ·exact .inl h2
 ·exact .inr ⟨g,cap,cur,hv,hg,hk.2 g _ _ _ (hA g (by rw[hv];rfl)) hh,r⟩
theorem qmv {W:QW} {base:Nat} {e:TypeId} {size:Nat} {v:QV} {n:Nat} {xs:List QV} (h:W.ownsRow base e size v n xs):∀ g,v.ownBlock=some g→base≤g∧g<W.heap.size:=by
 intro g hg;rcases h.2 with ⟨rfl,_⟩|⟨g',cap,cur,rfl,hb,hh,r⟩
 ·cases hg
 ·simp only[Value.ownBlock,Option.some.injEq]at hg;subst hg;exact⟨hb,(qbth.1 hh).1⟩
theorem qcl {W:QW} {base:Nat} {e:TypeId} {size:Nat} {v:QV} {n:Nat} {xs:List QV} (h:W.ownsRow base e size v n xs) :
  ∃ a c,v=.slice a n c∧(n=0∨∃ g,a=some ⟨g,0,none⟩∧g<W.heap.size∧∀ j u,xs[j]? = some u→W.cell? ⟨g,j,none⟩=some u):=by
 rcases h.2 with ⟨rfl,h0⟩|⟨g,cap,cur,rfl,hb,hh,_,_,_,ht⟩
 ·exact⟨none,0,by rw[h0],.inl h0⟩
 ·refine⟨_,cap,rfl,.inr ⟨g,rfl,(qbth.1 hh).1,fun j u hj=>?_⟩⟩;rw[←ht]at hj;rw[List.getElem?_take]at hj;split at hj
  ·exact qc j hh (by simpa using hj)
  ·cases hj
end Go.Proofs.YtabmfdedbpmfmaaGreat
namespace Go.Proofs.YtabmfdedbpmfmaaGreat
open Go.RowKit Go.Shelf
set_option linter.unusedVariables false
structure R1 (w W:World) (v:Array Value):Prop where
 ver:W.heap[w.heap.size]? = some (.cells v 59 (0,0))
 bel:Below w.heap.size w W
theorem R1.lt {w W:World} {v:Array Value} (h:R1 w W v):w.heap.size<W.heap.size:=(Array.getElem?_eq_some_iff.1 h.ver).1
theorem R1.below {w W W':World} {v:Array Value} (h:R1 w W v) (hb:Below W.heap.size W W'):R1 w W' v:=⟨(hb.block _ h.lt).trans h.ver,h.bel.trans (hb.mono (Nat.le_of_lt h.lt))⟩
theorem R1.start (w:World):R1 w (w.alloc (.cells #[.string ⟨#[]⟩,.slice none 0 0,.int .u8 0,.string ⟨#[]⟩,.bool false,.string ⟨#[]⟩,.bool false,.string ⟨#[]⟩,.slice none 0 0,.string ⟨#[]⟩,.bool false] 59)) #[.string ⟨#[]⟩,.slice none 0 0,.int .u8 0,.string ⟨#[]⟩,.bool false,.string ⟨#[]⟩,.bool false,.string ⟨#[]⟩,.slice none 0 0,.string ⟨#[]⟩,.bool false]:=⟨World.alloc_heap_new w _,(Below.refl _ w).alloc (Nat.le_refl _) _⟩
theorem R1.put11 {w W:World} {z0 z1 z2 z3 z4 z5 z6 z7 z8 z9 z10:Value} (h:R1 w W #[z0,z1,z2,z3,z4,z5,z6,z7,z8,z9,z10]) (a0 a1 a2 a3 a4 a5 a6 a7 a8 a9 a10:Value):∃ W',W'=(((((((((((W.setCell ⟨w.heap.size,0,none⟩ a0).setCell ⟨w.heap.size,1,none⟩ a1).setCell ⟨w.heap.size,2,none⟩ a2).setCell ⟨w.heap.size,3,none⟩ a3).setCell ⟨w.heap.size,4,none⟩ a4).setCell ⟨w.heap.size,5,none⟩ a5).setCell ⟨w.heap.size,6,none⟩ a6).setCell ⟨w.heap.size,7,none⟩ a7).setCell ⟨w.heap.size,8,none⟩ a8).setCell ⟨w.heap.size,9,none⟩ a9).setCell ⟨w.heap.size,10,none⟩ a10)∧R1 w W' #[a0,a1,a2,a3,a4,a5,a6,a7,a8,a9,a10]∧∀ (u:Value) (ts:List QB),qx W u ts→qbs (w.heap.size+1) u→qx W' u ts:=by
 refine⟨putL W w.heap.size 0 [a0,a1,a2,a3,a4,a5,a6,a7,a8,a9,a10],rfl,⟨?_,?_⟩,fun u ts h1 h2=>qdt h1 h2 (fun j h3 h4=>qpb _ _ _ _ _ h4 (by omega)) (qrf _ _ _ _)⟩
 ·have k:=qcn [a0,a1,a2,a3,a4,a5,a6,a7,a8,a9,a10] W w.heap.size 0 _ _ h.ver
  rwa [fill11]at k
 ·exact h.bel.trans ((qcg _ W w.heap.size 0).below (Nat.le_refl _) h.bel.size)
def rwOf (N b n:Nat) (R:Wd):Wd×Nat:=if n=0 then (.bad (misL N b) 0,b) else match R with
 | .bad e p=>(.bad e 0,b+p)
 | .ok x t st=>(.ok x t st,b+n)
def qwp (r:Wd×Nat) (w:World) (e:Ending) (w':World):Prop:=
 Below w.heap.size w w'∧match r with
 | (.bad er _,z)=>er≠0∧e=.returned (.tuple #[.agg (zerV false),.int .i64 (z:Int),.int .i64 er])
 | (.ok x t st,z)=>∃ vr vl,e=.returned (.tuple #[.agg (verV x vr vl (qd t) st),.int .i64 (z:Int),.int .i64 0])∧qx w' vr x.rel∧qx w' vl x.loc∧qbs w.heap.size vr∧qbs w.heap.size vl
theorem qcf {R:Ending→World→Prop} (tmps:Array Value) (W:World) (B:Nat) (e n m k t:QY) (vr vl:Value) (c:Int) (b d z:Bool) (p er:Int) (op:∃ a i c,vr=.slice a i c) (ob:∃ a i c,vl=.slice a i c)
  (h2:tmps.getD 6 undef=.pointer (some ⟨B,0,none⟩)) (h3:tmps.getD 7 undef=.int .i64 p) (h4:tmps.getD 8 undef=.int .i64 er) (e1:W.heap[B]? = some (.cells #[.string e,vr,.int .u8 c,.string n,.bool b,.string m,.bool d,.string k,vl,.string t,.bool z] 59 (0,0)))
  (hR:R (.returned (.tuple #[.agg #[.string e,vr,.int .u8 c,.string n,.bool b,.string m,.bool d,.string k,vl,.string t,.bool z],.int .i64 p,.int .i64 er])) W) :
  bodyPost Tryz.prog Tryz.f116 R .ret { tmps:=tmps,defers:=[] } W:=by
 obtain⟨a1,i1,c1,rfl⟩:=op;obtain⟨a2,i2,c2,rfl⟩:=ob;obtain⟨r0,r1,r2,r3,r4,r5,r6,r7,r8,r9,r10,_⟩:=qh e1;rw[Array.getD_eq_getD_getElem?]at h2 h3 h4;refine⟨rfl,_,?_,hR⟩;simp[results,Tryz.results116,go_sem,h2,h3,h4,r0,r1,r2,r3,r4,r5,r6,r7,r8,r9,r10]
 try rfl
end Go.Proofs.YtabmfdedbpmfmaaGreat
