/- Plain: clauses that are good end behind where they begin; th -/
import Derived.Test.YtabmfdedbpmfmaaGreatVPa
import Derived.Test.YtabmfdedbpmfmaaGreatVPr
import Derived.Test.YtabmfdedbpmfmaaGreatVPd
namespace Go.Proofs.YtabmfdedbpmfmaaGreat
open Go.RowKit Go.Shelf
set_option linter.unusedVariables false
inductive Wd where
 | bad (e:Int) (p:Nat)
 | ok (x:PepL) (t:QB) (st:Bool)
def pep0:PepL:=⟨[],[],0,[],false,[],false,[],[]⟩
def qbn (may:PepL→Bool) (u:QB):Wd:=
 if okP u then (if may (ql (qk u)) then .ok (ql (qk u)) u false else .bad 19 0) else .bad (errX u).1 (errX u).2
def pubB (x:PepL):Bool:=x.loc.isEmpty
def qff (x:PepL):Bool:=pubB x&&(x.c==0)&&!x.b&&!x.d
def qcm (u:QB):Bool:=decide (2≤u.length)&&(u.drop (u.length-2)==[46,42])
def qbmx (w:Wd):Wd:=match w with
 | .ok x t _=>.ok x t true
 | y=>y
def badN:QB→Nat
 | []=>0
 | c::r=>if decide (c<33)||decide (126<c) then 0 else badN r+1
def qkr (u:QB):Wd:=if badN u<u.length then .bad 10 (badN u) else .ok pep0 u false
def wdR (k:Nat) (u:QB):Wd:=
 if k=0 then qbn (fun x=>pubB x&&decide (1<x.rel.length)) u
 else if k=1∨k=2 then (if qcm u then qbmx (qbn qff (u.take (u.length-2))) else qbn (fun _=>true) u)
 else if k=7 then qkr u
 else qbn pubB u
structure Cl where
 k:Nat
 x:PepL
 t:QB
 st:Bool
 s:Nat
 e:Nat
 er:Int
def rwL (l:QB) (k b:Nat):Wd×Nat:=
 if wdN (l.drop b)=0 then (.bad (misL l.length b) 0,b) else
 match wdR k (seg l b (b+wdN (l.drop b)))with
 | .bad e p=>(.bad e 0,b+p)
 | .ok x t st=>(.ok x t st,b+wdN (l.drop b))
def clP (l:QB) (a:Nat):Cl:=
 if (opGo (l.drop a) 8).1=8 then ⟨8,pep0,[],false,a,a+(opGo (l.drop a) 8).2,misL l.length (a+(opGo (l.drop a) 8).2)⟩ else
 match rwL l (opGo (l.drop a) 8).1 (skL l (a+(sgn (opGo (l.drop a) 8).1).length))with
 | (.bad e _,z)=>⟨(opGo (l.drop a) 8).1,pep0,[],false,a,z,e⟩
 | (.ok x t st,z)=>⟨(opGo (l.drop a) 8).1,x,t,st,a,skL l z,if skL l z<l.length∧l[skL l z]?≠some 44 then 10 else 0⟩
def pyGo (l:QB):Nat→Nat→List Cl→Int×Nat×List Cl
 | 0,a,_=>(12,a,[])
 | n+1,a,acc=>
  if acc.length=32∧skL l a<l.length then (12,skL l a,[]) else
  if (clP l (skL l a)).er≠0 then ((clP l (skL l a)).er,(clP l (skL l a)).e,[]) else
  if (clP l (skL l a)).e<l.length then pyGo l n ((clP l (skL l a)).e+1) (acc++[clP l (skL l a)]) else (0,0,acc++[clP l (skL l a)])
def pyL (l:QB):Int×Nat×List Cl:=
 if 256<l.length then (12,256,[]) else if qn 6 l=l.length then (0,0,[]) else pyGo l 33 0 []
open _root_.Array renaming getD_eq_getD_getElem? → qbvc
open Go renaming World → QW, Value → QV
def putL (W:QW) (B:Nat):Nat→List QV→QW
 | _,[]=>W
 | o,v::vs=>putL (W.setCell ⟨B,o,none⟩ v) B (o+1) vs
def qfj:Array QV→Nat→List QV→Array QV
 | cs,_,[]=>cs
 | cs,o,v::vs=>qfj (cs.setIfInBounds o v) (o+1) vs
theorem qcg:∀ (vs:List QV) (W:QW) (B o:Nat),Turn B W (putL W B o vs)
 | [],W,B,o=>Turn.refl B W
 | v::vs,W,B,o=>(Turn.set B o W v).trans (qcg vs _ B (o+1))
theorem qcn:∀ (vs:List QV) (W:QW) (B o:Nat) (cs:Array QV) (t:TypeId),W.heap[B]? = some (.cells cs t (0,0))→(putL W B o vs).heap[B]? = some (.cells (qfj cs o vs) t (0,0))
 | [],W,B,o,cs,t,h=>h
 | v::vs,W,B,o,cs,t,h=>qcn vs _ B (o+1) _ t (qw o v h)
theorem qpb (vs:List QV) (W:QW) (B o j:Nat) (hj:j<W.heap.size) (hne:j≠B):(putL W B o vs).heap[j]? = W.heap[j]?:=(qcg vs W B o).block j hj hne
theorem qh {W:QW} {B:Nat} {t:TypeId} {a0 a1 a2 a3 a4 a5 a6 a7 a8 a9 a10:QV} (h:W.heap[B]? = some (.cells #[a0,a1,a2,a3,a4,a5,a6,a7,a8,a9,a10] t (0,0))) :
  W.cell? ⟨B,0,none⟩=some a0∧W.cell? ⟨B,1,none⟩=some a1∧W.cell? ⟨B,2,none⟩=some a2∧W.cell? ⟨B,3,none⟩=some a3∧W.cell? ⟨B,4,none⟩=some a4∧W.cell? ⟨B,5,none⟩=some a5∧W.cell? ⟨B,6,none⟩=some a6∧W.cell? ⟨B,7,none⟩=some a7∧W.cell? ⟨B,8,none⟩=some a8∧W.cell? ⟨B,9,none⟩=some a9∧W.cell? ⟨B,10,none⟩=some a10∧W.frozen? ⟨B,0,none⟩=false∧W.frozen? ⟨B,1,none⟩=false∧W.frozen? ⟨B,2,none⟩=false∧W.frozen? ⟨B,3,none⟩=false∧W.frozen? ⟨B,4,none⟩=false∧W.frozen? ⟨B,5,none⟩=false∧W.frozen? ⟨B,6,none⟩=false∧W.frozen? ⟨B,7,none⟩=false∧W.frozen? ⟨B,8,none⟩=false∧W.frozen? ⟨B,9,none⟩=false∧W.frozen? ⟨B,10,none⟩=false:=
 ⟨qc 0 h rfl,qc 1 h rfl,qc 2 h rfl,qc 3 h rfl,qc 4 h rfl,qc 5 h rfl,qc 6 h rfl,qc 7 h rfl,qc 8 h rfl,qc 9 h rfl,qc 10 h rfl,qf 0 h,qf 1 h,qf 2 h,qf 3 h,qf 4 h,qf 5 h,qf 6 h,qf 7 h,qf 8 h,qf 9 h,qf 10 h⟩
theorem qv {W:QW} {B:Nat} {t:TypeId} {a0 a1:QV} (h:W.heap[B]? = some (.cells #[a0,a1] t (0,0))) :
  W.cell? ⟨B,0,none⟩=some a0∧W.cell? ⟨B,1,none⟩=some a1∧W.frozen? ⟨B,0,none⟩=false∧W.frozen? ⟨B,1,none⟩=false:=
 ⟨qc 0 h rfl,qc 1 h rfl,qf 0 h,qf 1 h⟩
def qbs (n:Nat) (v:QV):Prop:=∀ a i c,v=.slice (some a) i c→n≤a.block∧i≤c
theorem qbs.old {n:Nat} {v:QV} (h:qbs n v):qbjb n v:=fun a i c e=>(h a i c e).1
theorem qbs.mono {n m:Nat} {v:QV} (h:qbs n v) (hm:m≤n):qbs m v:=fun a i c e=>⟨Nat.le_trans hm (h a i c e).1,(h a i c e).2⟩
theorem qpg {W:QW} {base:Nat} {v:QV} {k:Nat} {xs:List QV} (h:W.ownsRow base 9 1 v k xs):qbs base v:=fun a i c e=>⟨qrt h a i c e,qbnc h _ _ _ e⟩
theorem qdt {n:Nat} {W W':QW} {v:QV} {ts:List QB} (h:qx W v ts) (hf:qbs n v) (hk:∀ j,n≤j→j<W.heap.size→W'.heap[j]? = W.heap[j]?) (hs:W.heap.size≤W'.heap.size):qx W' v ts:=qbrg h hf.old hk hs
theorem qblj (s:QY) (w:QW) (h:okP s.data.toList=true) :
  Calls Tryz.prog 67 #[.string s] w fun e w'=>∃ vr vl,e=.returned (.tuple #[pepV (qd (ql (qk s.data.toList)).ep) vr (ql (qk s.data.toList)).c (qd (ql (qk s.data.toList)).n) (ql (qk s.data.toList)).b (qd (ql (qk s.data.toList)).m) (ql (qk s.data.toList)).d (qd (ql (qk s.data.toList)).k) vl,.agg #[.int .i64 0,.int .i64 0]]) ∧
   qx w' vr (ql (qk s.data.toList)).rel∧qx w' vl (ql (qk s.data.toList)).loc∧qbs w.heap.size vr∧qbs w.heap.size vl∧Below w.heap.size w w':=by
 unfold okP at h;simp only[Bool.and_eq_true,decide_eq_true_eq]at h;have hl:=h.1;rw[qg]at hl;refine(qrc s w (by unfold maxLen;omega)).mono ?_
 rintro e w' ⟨hb,hp⟩;rw[if_neg (by omega),if_pos h.2]at hp
 obtain⟨v,rfl,⟨vr,vl,rfl,h1,h2⟩⟩:=hp;exact⟨vr,vl,rfl,qhw h1,qhw h2,qpg h1,qpg h2,hb⟩
structure RB (w W:QW) (v f:Array QV):Prop where
 ver:W.heap[w.heap.size]? = some (.cells v 59 (0,0))
 flt:W.heap[w.heap.size+1]? = some (.cells f 25 (0,0))
 bel:Below w.heap.size w W
theorem RB.lt {w W:QW} {v f:Array QV} (h:RB w W v f):w.heap.size+1<W.heap.size:=(Array.getElem?_eq_some_iff.1 h.flt).1
theorem RB.below {w W W':QW} {v f:Array QV} (h:RB w W v f) (hb:Below W.heap.size W W'):RB w W' v f:=
 ⟨(hb.block _ (by have:=h.lt;omega)).trans h.ver,(hb.block _ h.lt).trans h.flt,h.bel.trans (hb.mono (by have:=h.lt;omega))⟩
theorem qm (W:QW) (c1 c2:Array QV) (t1 t2:TypeId):∃ V,(W.alloc (.cells c1 t1)).alloc (.cells c2 t2)=V∧V.heap[W.heap.size]? = some (.cells c1 t1 (0,0))∧V.heap[W.heap.size+1]? = some (.cells c2 t2 (0,0))∧Below W.heap.size W V∧V.heap.size=W.heap.size+2:=by
 refine⟨_,rfl,?_,?_,((Below.refl _ W).alloc (Nat.le_refl _) _).alloc (by simp) _,by simp⟩
 ·exact(Below.heap_alloc _ _ _ (by simp)).trans (World.alloc_heap_new W _)
 ·have:=World.alloc_heap_new (W.alloc (.cells c1 t1)) (.cells c2 t2)
  rwa [World.size_alloc]at this
theorem RB.start (w:QW):RB w ((w.alloc (.cells #[.string ⟨#[]⟩,.slice none 0 0,.int .u8 0,.string ⟨#[]⟩,.bool false,.string ⟨#[]⟩,.bool false,.string ⟨#[]⟩,.slice none 0 0,.string ⟨#[]⟩,.bool false] 59)).alloc (.cells #[.int .i64 0,.int .i64 0] 25)) #[.string ⟨#[]⟩,.slice none 0 0,.int .u8 0,.string ⟨#[]⟩,.bool false,.string ⟨#[]⟩,.bool false,.string ⟨#[]⟩,.slice none 0 0,.string ⟨#[]⟩,.bool false] #[.int .i64 0,.int .i64 0]:=by
 obtain⟨V,hV,h1,h2,h3,_⟩:=qm w #[.string ⟨#[]⟩,.slice none 0 0,.int .u8 0,.string ⟨#[]⟩,.bool false,.string ⟨#[]⟩,.bool false,.string ⟨#[]⟩,.slice none 0 0,.string ⟨#[]⟩,.bool false] #[.int .i64 0,.int .i64 0] 59 25;rw[hV];exact⟨h1,h2,h3⟩
theorem RB.put {w W:QW} {v f:Array QV} (h:RB w W v f) (vs fs:List QV):RB w (putL (putL W w.heap.size 0 vs) (w.heap.size+1) 0 fs) (qfj v 0 vs) (qfj f 0 fs):=by
 have h1:=qcn vs W w.heap.size 0 v 59 h.ver;have t1:=qcg vs W w.heap.size 0;have h2:=(t1.block _ h.lt (by omega)).trans h.flt
 have h3:=qcn fs (putL W w.heap.size 0 vs) (w.heap.size+1) 0 f 25 h2;have t2:=qcg fs (putL W w.heap.size 0 vs) (w.heap.size+1) 0;refine⟨(t2.block _ (Array.getElem?_eq_some_iff.1 h1).1 (by omega)).trans h1,h3,?_⟩
 exact h.bel.trans ((t1.below (Nat.le_refl _) h.bel.size).trans (t2.below (by omega) (Nat.le_trans h.bel.size t1.size)))
theorem RB.keep {w W:QW} {v f:Array QV} (h:RB w W v f) (vs fs:List QV) (j:Nat) (hj:j<W.heap.size) (hn:w.heap.size+2≤j):(putL (putL W w.heap.size 0 vs) (w.heap.size+1) 0 fs).heap[j]? = W.heap[j]?:=by
 rw[qpb fs _ _ _ _ (Nat.lt_of_lt_of_le hj (qcg vs W w.heap.size 0).size) (by omega),qpb vs _ _ _ _ hj (by omega)]
theorem qrf (vs:List QV) (W:QW) (B o:Nat):W.heap.size≤(putL W B o vs).heap.size:=(qcg vs W B o).size
theorem fill11 (z0 z1 z2 z3 z4 z5 z6 z7 z8 z9 z10 a0 a1 a2 a3 a4 a5 a6 a7 a8 a9 a10:QV):qfj #[z0,z1,z2,z3,z4,z5,z6,z7,z8,z9,z10] 0 [a0,a1,a2,a3,a4,a5,a6,a7,a8,a9,a10]=#[a0,a1,a2,a3,a4,a5,a6,a7,a8,a9,a10]:=by simp[qfj]
theorem fill2 (g0 g1 f0 f1:QV):qfj #[g0,g1] 0 [f0,f1]=#[f0,f1]:=by simp[qfj]
theorem RB.put11 {w W:QW} {z0 z1 z2 z3 z4 z5 z6 z7 z8 z9 z10 g0 g1:QV} (h:RB w W #[z0,z1,z2,z3,z4,z5,z6,z7,z8,z9,z10] #[g0,g1]) (a0 a1 a2 a3 a4 a5 a6 a7 a8 a9 a10 f0 f1:QV):RB w (putL (putL W w.heap.size 0 [a0,a1,a2,a3,a4,a5,a6,a7,a8,a9,a10]) (w.heap.size+1) 0 [f0,f1]) #[a0,a1,a2,a3,a4,a5,a6,a7,a8,a9,a10] #[f0,f1]:=by
 have k:=h.put [a0,a1,a2,a3,a4,a5,a6,a7,a8,a9,a10] [f0,f1]
 rwa [fill11,fill2]at k
theorem RB.txt {w W:QW} {v f:Array QV} (h:RB w W v f) (vs fs:List QV) {u:QV} {ts:List QB} (ht:qx W u ts) (hf:qbs (w.heap.size+2) u):qx (putL (putL W w.heap.size 0 vs) (w.heap.size+1) 0 fs) u ts:=
 qdt ht hf (fun j h1 h2=>h.keep vs fs j h2 h1) (Nat.le_trans (qrf vs _ _ _) (qrf fs _ _ _))
theorem RB.put13 {w W:QW} {z0 z1 z2 z3 z4 z5 z6 z7 z8 z9 z10 g0 g1:QV} (h:RB w W #[z0,z1,z2,z3,z4,z5,z6,z7,z8,z9,z10] #[g0,g1]) (a0 a1 a2 a3 a4 a5 a6 a7 a8 a9 a10 f0 f1:QV):∃ W',W'=(((((((((((((W.setCell ⟨w.heap.size,0,none⟩ a0).setCell ⟨w.heap.size,1,none⟩ a1).setCell ⟨w.heap.size,2,none⟩ a2).setCell ⟨w.heap.size,3,none⟩ a3).setCell ⟨w.heap.size,4,none⟩ a4).setCell ⟨w.heap.size,5,none⟩ a5).setCell ⟨w.heap.size,6,none⟩ a6).setCell ⟨w.heap.size,7,none⟩ a7).setCell ⟨w.heap.size,8,none⟩ a8).setCell ⟨w.heap.size,9,none⟩ a9).setCell ⟨w.heap.size,10,none⟩ a10).setCell ⟨w.heap.size+1,0,none⟩ f0).setCell ⟨w.heap.size+1,1,none⟩ f1)∧RB w W' #[a0,a1,a2,a3,a4,a5,a6,a7,a8,a9,a10] #[f0,f1]∧∀ (u:QV) (ts:List QB),qx W u ts→qbs (w.heap.size+2) u→qx W' u ts:=
 ⟨putL (putL W w.heap.size 0 [a0,a1,a2,a3,a4,a5,a6,a7,a8,a9,a10]) (w.heap.size+1) 0 [f0,f1],rfl,h.put11 a0 a1 a2 a3 a4 a5 a6 a7 a8 a9 a10 f0 f1,fun u ts h1 h2=>h.txt _ _ h1 h2⟩
def verV (x:PepL) (vr vl:QV) (t:QY) (st:Bool):Array QV:=#[.string (qd x.ep),vr,.int .u8 x.c,.string (qd x.n),.bool x.b,.string (qd x.m),.bool x.d,.string (qd x.k),vl,.string t,.bool st]
def zerV (st:Bool):Array QV:=#[.string ⟨#[]⟩,.slice none 0 0,.int .u8 0,.string ⟨#[]⟩,.bool false,.string ⟨#[]⟩,.bool false,.string ⟨#[]⟩,.slice none 0 0,.string ⟨#[]⟩,.bool st]
def qdv (r:Wd) (w:QW) (e:Ending) (w':QW):Prop:=
 Below w.heap.size w w'∧match r with
 | .bad er p=>er≠0∧∃ st,e=.returned (.tuple #[.agg (zerV st),.agg #[.int .i64 er,.int .i64 (p:Int)]])
 | .ok x t st=>∃ vr vl,e=.returned (.tuple #[.agg (verV x vr vl (qd t) st),.agg #[.int .i64 0,.int .i64 0]])∧qx w' vr x.rel∧qx w' vl x.loc∧qbs w.heap.size vr∧qbs w.heap.size vl
theorem fin36 {R:Ending→QW→Prop} (tmps:Array QV) (W:QW) (B C:Nat) (e n m k t:QY) (vr vl:QV) (c:Int) (b d z:Bool) (er p:Int) (op:∃ a i c,vr=.slice a i c) (ob:∃ a i c,vl=.slice a i c)
  (h2:tmps.getD 2 undef=.pointer (some ⟨B,0,none⟩)) (h3:tmps.getD 3 undef=.pointer (some ⟨C,0,none⟩)) (e1:W.heap[B]? = some (.cells #[.string e,vr,.int .u8 c,.string n,.bool b,.string m,.bool d,.string k,vl,.string t,.bool z] 59 (0,0))) (e2:W.heap[C]? = some (.cells #[.int .i64 er,.int .i64 p] 25 (0,0)))
  (hR:R (.returned (.tuple #[.agg #[.string e,vr,.int .u8 c,.string n,.bool b,.string m,.bool d,.string k,vl,.string t,.bool z],.agg #[.int .i64 er,.int .i64 p]])) W) :
  bodyPost Tryz.prog Tryz.f36 R .ret { tmps:=tmps,defers:=[] } W:=by
 obtain⟨a1,i1,c1,rfl⟩:=op;obtain⟨a2,i2,c2,rfl⟩:=ob;obtain⟨r0,r1,r2,r3,r4,r5,r6,r7,r8,r9,r10,_⟩:=qh e1;obtain⟨q0,q1,_⟩:=qv e2;rw[qbvc]at h2 h3;refine⟨rfl,_,?_,hR⟩;simp[results,Tryz.results36,go_sem,h2,h3,r0,r1,r2,r3,r4,r5,r6,r7,r8,r9,r10,q0,q1]
 try rfl
theorem fin154 {R:Ending→QW→Prop} (tmps:Array QV) (W:QW) (B C:Nat) (e n m k t:QY) (vr vl:QV) (c:Int) (b d z:Bool) (er p:Int) (op:∃ a i c,vr=.slice a i c) (ob:∃ a i c,vl=.slice a i c)
  (h2:tmps.getD 2 undef=.pointer (some ⟨B,0,none⟩)) (h3:tmps.getD 3 undef=.pointer (some ⟨C,0,none⟩)) (e1:W.heap[B]? = some (.cells #[.string e,vr,.int .u8 c,.string n,.bool b,.string m,.bool d,.string k,vl,.string t,.bool z] 59 (0,0))) (e2:W.heap[C]? = some (.cells #[.int .i64 er,.int .i64 p] 25 (0,0)))
  (hR:R (.returned (.tuple #[.agg #[.string e,vr,.int .u8 c,.string n,.bool b,.string m,.bool d,.string k,vl,.string t,.bool z],.agg #[.int .i64 er,.int .i64 p]])) W) :
  bodyPost Tryz.prog Tryz.f154 R .ret { tmps:=tmps,defers:=[] } W:=by
 obtain⟨a1,i1,c1,rfl⟩:=op;obtain⟨a2,i2,c2,rfl⟩:=ob;obtain⟨r0,r1,r2,r3,r4,r5,r6,r7,r8,r9,r10,_⟩:=qh e1;obtain⟨q0,q1,_⟩:=qv e2;rw[qbvc]at h2 h3;refine⟨rfl,_,?_,hR⟩;simp[results,Tryz.results154,go_sem,h2,h3,r0,r1,r2,r3,r4,r5,r6,r7,r8,r9,r10,q0,q1]
 try rfl
theorem fin149 {R:Ending→QW→Prop} (tmps:Array QV) (W:QW) (B C:Nat) (e n m k t:QY) (vr vl:QV) (c:Int) (b d z:Bool) (er p:Int) (op:∃ a i c,vr=.slice a i c) (ob:∃ a i c,vl=.slice a i c)
  (h2:tmps.getD 2 undef=.pointer (some ⟨B,0,none⟩)) (h3:tmps.getD 3 undef=.pointer (some ⟨C,0,none⟩)) (e1:W.heap[B]? = some (.cells #[.string e,vr,.int .u8 c,.string n,.bool b,.string m,.bool d,.string k,vl,.string t,.bool z] 59 (0,0))) (e2:W.heap[C]? = some (.cells #[.int .i64 er,.int .i64 p] 25 (0,0)))
  (hR:R (.returned (.tuple #[.agg #[.string e,vr,.int .u8 c,.string n,.bool b,.string m,.bool d,.string k,vl,.string t,.bool z],.agg #[.int .i64 er,.int .i64 p]])) W) :
  bodyPost Tryz.prog Tryz.f149 R .ret { tmps:=tmps,defers:=[] } W:=by
 obtain⟨a1,i1,c1,rfl⟩:=op;obtain⟨a2,i2,c2,rfl⟩:=ob;obtain⟨r0,r1,r2,r3,r4,r5,r6,r7,r8,r9,r10,_⟩:=qh e1;obtain⟨q0,q1,_⟩:=qv e2;rw[qbvc]at h2 h3;refine⟨rfl,_,?_,hR⟩;simp[results,Tryz.results149,go_sem,h2,h3,r0,r1,r2,r3,r4,r5,r6,r7,r8,r9,r10,q0,q1]
 try rfl
theorem qzx {R:Ending→QW→Prop} (tmps:Array QV) (W:QW) (B C:Nat) (e n m k t:QY) (vr vl:QV) (c:Int) (b d z:Bool) (er p:Int) (op:∃ a i c,vr=.slice a i c) (ob:∃ a i c,vl=.slice a i c)
  (h2:tmps.getD 2 undef=.pointer (some ⟨B,0,none⟩)) (h3:tmps.getD 3 undef=.pointer (some ⟨C,0,none⟩)) (e1:W.heap[B]? = some (.cells #[.string e,vr,.int .u8 c,.string n,.bool b,.string m,.bool d,.string k,vl,.string t,.bool z] 59 (0,0))) (e2:W.heap[C]? = some (.cells #[.int .i64 er,.int .i64 p] 25 (0,0)))
  (hR:R (.returned (.tuple #[.agg #[.string e,vr,.int .u8 c,.string n,.bool b,.string m,.bool d,.string k,vl,.string t,.bool z],.agg #[.int .i64 er,.int .i64 p]])) W) :
  bodyPost Tryz.prog Tryz.f151 R .ret { tmps:=tmps,defers:=[] } W:=by
 obtain⟨a1,i1,c1,rfl⟩:=op;obtain⟨a2,i2,c2,rfl⟩:=ob;obtain⟨r0,r1,r2,r3,r4,r5,r6,r7,r8,r9,r10,_⟩:=qh e1;obtain⟨q0,q1,_⟩:=qv e2;rw[qbvc]at h2 h3;refine⟨rfl,_,?_,hR⟩;simp[results,Tryz.results151,go_sem,h2,h3,r0,r1,r2,r3,r4,r5,r6,r7,r8,r9,r10,q0,q1]
 try rfl
theorem qbjx {R:Ending→QW→Prop} (tmps:Array QV) (W:QW) (B C:Nat) (e n m k t:QY) (vr vl:QV) (c:Int) (b d z:Bool) (er p:Int) (op:∃ a i c,vr=.slice a i c) (ob:∃ a i c,vl=.slice a i c)
  (h2:tmps.getD 2 undef=.pointer (some ⟨B,0,none⟩)) (h3:tmps.getD 3 undef=.pointer (some ⟨C,0,none⟩)) (e1:W.heap[B]? = some (.cells #[.string e,vr,.int .u8 c,.string n,.bool b,.string m,.bool d,.string k,vl,.string t,.bool z] 59 (0,0))) (e2:W.heap[C]? = some (.cells #[.int .i64 er,.int .i64 p] 25 (0,0)))
  (hR:R (.returned (.tuple #[.agg #[.string e,vr,.int .u8 c,.string n,.bool b,.string m,.bool d,.string k,vl,.string t,.bool z],.agg #[.int .i64 er,.int .i64 p]])) W) :
  bodyPost Tryz.prog Tryz.f159 R .ret { tmps:=tmps,defers:=[] } W:=by
 obtain⟨a1,i1,c1,rfl⟩:=op;obtain⟨a2,i2,c2,rfl⟩:=ob;obtain⟨r0,r1,r2,r3,r4,r5,r6,r7,r8,r9,r10,_⟩:=qh e1;obtain⟨q0,q1,_⟩:=qv e2;rw[qbvc]at h2 h3;refine⟨rfl,_,?_,hR⟩;simp[results,Tryz.results159,go_sem,h2,h3,r0,r1,r2,r3,r4,r5,r6,r7,r8,r9,r10,q0,q1]
 try rfl
theorem qln {R:Ending→QW→Prop} (tmps:Array QV) (W:QW) (B C:Nat) (e n m k t:QY) (vr vl:QV) (c:Int) (b d z:Bool) (er p:Int) (op:∃ a i c,vr=.slice a i c) (ob:∃ a i c,vl=.slice a i c)
  (h2:tmps.getD 4 undef=.pointer (some ⟨B,0,none⟩)) (h3:tmps.getD 5 undef=.pointer (some ⟨C,0,none⟩)) (e1:W.heap[B]? = some (.cells #[.string e,vr,.int .u8 c,.string n,.bool b,.string m,.bool d,.string k,vl,.string t,.bool z] 59 (0,0))) (e2:W.heap[C]? = some (.cells #[.int .i64 er,.int .i64 p] 25 (0,0)))
  (hR:R (.returned (.tuple #[.agg #[.string e,vr,.int .u8 c,.string n,.bool b,.string m,.bool d,.string k,vl,.string t,.bool z],.agg #[.int .i64 er,.int .i64 p]])) W) :
  bodyPost Tryz.prog Tryz.f168 R .ret { tmps:=tmps,defers:=[] } W:=by
 obtain⟨a1,i1,c1,rfl⟩:=op;obtain⟨a2,i2,c2,rfl⟩:=ob;obtain⟨r0,r1,r2,r3,r4,r5,r6,r7,r8,r9,r10,_⟩:=qh e1;obtain⟨q0,q1,_⟩:=qv e2;rw[qbvc]at h2 h3;refine⟨rfl,_,?_,hR⟩;simp[results,Tryz.results168,go_sem,h2,h3,r0,r1,r2,r3,r4,r5,r6,r7,r8,r9,r10,q0,q1]
 try rfl
open World renaming alloc_heap_new → qbtk
set_option maxHeartbeats 1000000
set_option maxRecDepth 100000
theorem qbw {W:World} {B:Nat} {t:TypeId} {a0 a1 a2 a3 a4 a5 a6 a7 a8:Value} (h:W.heap[B]? = some (.cells #[a0,a1,a2,a3,a4,a5,a6,a7,a8] t (0,0))) :
  W.cell? ⟨B,0,none⟩=some a0∧W.cell? ⟨B,1,none⟩=some a1∧W.cell? ⟨B,2,none⟩=some a2∧W.cell? ⟨B,3,none⟩=some a3∧W.cell? ⟨B,4,none⟩=some a4∧W.cell? ⟨B,5,none⟩=some a5∧W.cell? ⟨B,6,none⟩=some a6∧W.cell? ⟨B,7,none⟩=some a7∧W.cell? ⟨B,8,none⟩=some a8∧W.frozen? ⟨B,0,none⟩=false∧W.frozen? ⟨B,1,none⟩=false∧W.frozen? ⟨B,2,none⟩=false∧W.frozen? ⟨B,3,none⟩=false∧W.frozen? ⟨B,4,none⟩=false∧W.frozen? ⟨B,5,none⟩=false∧W.frozen? ⟨B,6,none⟩=false∧W.frozen? ⟨B,7,none⟩=false∧W.frozen? ⟨B,8,none⟩=false:=
 ⟨qc 0 h rfl,qc 1 h rfl,qc 2 h rfl,qc 3 h rfl,qc 4 h rfl,qc 5 h rfl,qc 6 h rfl,qc 7 h rfl,qc 8 h rfl,qf 0 h,qf 1 h,qf 2 h,qf 3 h,qf 4 h,qf 5 h,qf 6 h,qf 7 h,qf 8 h⟩
theorem qcs {α : Type} (l:List α):((l.length:Int)==0)=l.isEmpty:=by
 cases l with
 | nil=>rfl
 | cons a l=>simp;omega
theorem qhb (x:PepL) (r1 q1:Option Addr) (c1 d1:Nat) (w:World) :
  Calls Tryz.prog 170 #[.agg #[.string (qd x.ep),.slice r1 x.rel.length c1,.int .u8 x.c,.string (qd x.n),.bool x.b,.string (qd x.m),.bool x.d,.string (qd x.k),.slice q1 x.loc.length d1]] w fun e w'=>e=.returned (.bool (pubB x))∧Below w.heap.size w w':=by
 have h0:=qcs x.loc;unfold pubB;generalize x.loc.isEmpty=B at *;have r:=qbw (qbtk w (.cells #[.string (qd x.ep),.slice r1 x.rel.length c1,.int .u8 x.c,.string (qd x.n),.bool x.b,.string (qd x.m),.bool x.d,.string (qd x.k),.slice q1 x.loc.length d1] 44));have hb:Below w.heap.size w (w.alloc (.cells #[.string (qd x.ep),.slice r1 x.rel.length c1,.int .u8 x.c,.string (qd x.n),.bool x.b,.string (qd x.m),.bool x.d,.string (qd x.k),.slice q1 x.loc.length d1] 44)):=(Below.refl _ w).alloc (Nat.le_refl _) _;obtain⟨s0,s1,s2,s3,s4,s5,s6,s7,s8,_⟩:=r;go_enter Tryz.func170,Tryz.ntmps170
 (go_wp2_with fail);go_ret
 exact⟨rfl,hb⟩
theorem qbkx (x:PepL) (r1 q1:Option Addr) (c1 d1:Nat) (w:World) :
  Calls Tryz.prog 174 #[.agg #[.string (qd x.ep),.slice r1 x.rel.length c1,.int .u8 x.c,.string (qd x.n),.bool x.b,.string (qd x.m),.bool x.d,.string (qd x.k),.slice q1 x.loc.length d1]] w fun e w'=>e=.returned (.bool (qff x))∧Below w.heap.size w w':=by
 have P1:=qb (fun W=>qhb x r1 q1 c1 d1 W);have r:=qbw (qbtk w (.cells #[.string (qd x.ep),.slice r1 x.rel.length c1,.int .u8 x.c,.string (qd x.n),.bool x.b,.string (qd x.m),.bool x.d,.string (qd x.k),.slice q1 x.loc.length d1] 44));have hb:Below w.heap.size w (w.alloc (.cells #[.string (qd x.ep),.slice r1 x.rel.length c1,.int .u8 x.c,.string (qd x.n),.bool x.b,.string (qd x.m),.bool x.d,.string (qd x.k),.slice q1 x.loc.length d1] 44)):=(Below.refl _ w).alloc (Nat.le_refl _) _;obtain⟨V,hV⟩:∃ V,w.alloc (.cells #[.string (qd x.ep),.slice r1 x.rel.length c1,.int .u8 x.c,.string (qd x.n),.bool x.b,.string (qd x.m),.bool x.d,.string (qd x.k),.slice q1 x.loc.length d1] 44)=V:=⟨_,rfl⟩;have n0:=qbtk w (.cells #[.string (qd x.ep),.slice r1 x.rel.length c1,.int .u8 x.c,.string (qd x.n),.bool x.b,.string (qd x.m),.bool x.d,.string (qd x.k),.slice q1 x.loc.length d1] 44);rw[hV]at r hb n0;have hsz:w.heap.size<V.heap.size:=by rw[←hV];simp
 obtain⟨s0,s1,s2,s3,s4,s5,s6,s7,s8,_⟩:=r;have N0:=qb n0;clear n0;have hBB:qff x=(pubB x&&(x.c==0)&&!x.b&&!x.d):=rfl;rw[hBB];clear hBB;generalize pubB x=B at *;go_enter Tryz.func174,Tryz.ntmps174
 (go_wp2_with fail);refine(P1.out _).mono ?_;rintro e w2 ⟨rfl,b2⟩;have n2:=(b2.block _ hsz).trans N0.out;have hb2:Below w.heap.size w w2:=hb.trans (b2.mono hb.size);clear s0 s1 s2 s3 s4 s5 s6 s7 s8 b2 hV hb;obtain⟨s0,s1,s2,s3,s4,s5,s6,s7,s8,_⟩:=qbw n2;clear n2;cases B
 ·(go_wp2_with fail);go_ret
  exact⟨by simp,hb2⟩
 ·cases hc:(x.c==0)
  ·(go_wp2_with fail);go_ret
   exact⟨by rw[hc];simp,hb2⟩
  ·cases hxb:x.b
   ·rw [hxb]at s4;cases hxd:x.d
    ·rw[hxd]at s6;(go_wp2_with fail);go_ret
     exact⟨by rw[hc];simp[hxb,hxd],hb2⟩
    ·rw[hxd]at s6;(go_wp2_with fail);go_ret
     exact⟨by rw[hc];simp[hxb,hxd],hb2⟩
   ·rw[hxb]at s4;(go_wp2_with fail);go_ret
    exact⟨by rw[hc];simp[hxb],hb2⟩
theorem qbgq (x:PepL) (r1 q1:Option Addr) (c1 d1:Nat) (w:World) :
  Calls Tryz.prog 169 #[.agg #[.string (qd x.ep),.slice r1 x.rel.length c1,.int .u8 x.c,.string (qd x.n),.bool x.b,.string (qd x.m),.bool x.d,.string (qd x.k),.slice q1 x.loc.length d1]] w fun e w'=>e=.returned (.bool (pubB x&&decide (1<x.rel.length)))∧Below w.heap.size w w':=by
 have P1:=qb (fun W=>qhb x r1 q1 c1 d1 W);have r:=qbw (qbtk w (.cells #[.string (qd x.ep),.slice r1 x.rel.length c1,.int .u8 x.c,.string (qd x.n),.bool x.b,.string (qd x.m),.bool x.d,.string (qd x.k),.slice q1 x.loc.length d1] 44));have hb:Below w.heap.size w (w.alloc (.cells #[.string (qd x.ep),.slice r1 x.rel.length c1,.int .u8 x.c,.string (qd x.n),.bool x.b,.string (qd x.m),.bool x.d,.string (qd x.k),.slice q1 x.loc.length d1] 44)):=(Below.refl _ w).alloc (Nat.le_refl _) _;obtain⟨V,hV⟩:∃ V,w.alloc (.cells #[.string (qd x.ep),.slice r1 x.rel.length c1,.int .u8 x.c,.string (qd x.n),.bool x.b,.string (qd x.m),.bool x.d,.string (qd x.k),.slice q1 x.loc.length d1] 44)=V:=⟨_,rfl⟩;have n0:=qbtk w (.cells #[.string (qd x.ep),.slice r1 x.rel.length c1,.int .u8 x.c,.string (qd x.n),.bool x.b,.string (qd x.m),.bool x.d,.string (qd x.k),.slice q1 x.loc.length d1] 44);rw[hV]at r hb n0;have hsz:w.heap.size<V.heap.size:=by rw[←hV];simp
 obtain⟨s0,s1,s2,s3,s4,s5,s6,s7,s8,_⟩:=r;have N0:=qb n0;clear n0;generalize pubB x=B at *;go_enter Tryz.func169,Tryz.ntmps169
 (go_wp2_with fail);refine(P1.out _).mono ?_;rintro e w2 ⟨rfl,b2⟩;have n2:=(b2.block _ hsz).trans N0.out;have hb2:Below w.heap.size w w2:=hb.trans (b2.mono hb.size);clear s0 s1 s2 s3 s4 s5 s6 s7 s8 b2 hV hb;obtain⟨s0,s1,s2,s3,s4,s5,s6,s7,s8,_⟩:=qbw n2;clear n2;cases B
 ·(go_wp2_with fail);go_ret
  exact⟨by simp,hb2⟩
 ·(go_wp2_with fail);go_ret
  exact⟨by simp;omega,hb2⟩
theorem qsx {may:PepL→Bool} {u:QB} {e:Int} {p:Nat} (h:qbn may u=.bad e p):e≠0:=by
 unfold qbn at h;cases ho:okP u
 ·rw[ho,if_neg (by simp)]at h
  cases h;have:=qcx u ho;simpa using this
 ·rw[ho,if_pos rfl]at h;split at h
  ·cases h
  ·cases h;decide
theorem qzz {k:Nat} {u:QB} {e:Int} {p:Nat} (h:wdR k u=.bad e p):e≠0:=by
 unfold wdR at h;split at h
 ·exact qsx h
 ·split at h
  ·split at h
   ·cases hq:qbn qff (u.take (u.length-2))with
    | bad e2 p2=>rw[hq]at h;cases h;exact qsx hq
    | ok x t st=>rw[hq]at h;cases h
   ·exact qsx h
  ·split at h
   ·unfold qkr at h;split at h
    ·cases h;decide
    ·cases h
   ·exact qsx h
theorem qbkn {l:QB} {k b z:Nat} {e:Int} {p:Nat} (h:rwL l k b=(.bad e p,z)):e≠0:=by
 unfold rwL at h;split at h
 ·cases h;unfold misL;split<;>decide
 ·split at h
  ·rename_i hq;cases h;exact qzz hq
  ·cases h
theorem rwL_le {l:QB} {k b z:Nat} {x:PepL} {t:QB} {st:Bool} (hb:b≤l.length) (h:rwL l k b=(.ok x t st,z)):b≤z∧z≤l.length:=by
 have hn:=qlj (l.drop b);rw[List.length_drop]at hn;unfold rwL at h;split at h
 ·cases h
 ·split at h
  ·cases h
  ·cases h;omega
theorem qblm {l:QB} {a:Nat} (ha:a≤l.length) (h:(clP l a).er=0):a≤(clP l a).e∧(clP l a).e≤l.length:=by
 have hm:=qhm (l.drop a) 8 (by omega)
 rw[List.length_drop]at hm;unfold clP at h ⊢;split
 ·rename_i h8;rw[if_pos h8]at h;dsimp only at h;unfold misL at h;split at h
  ·cases h
  ·cases h
 ·rename_i h8;rw[if_neg h8]at h;have hs:=qgj l (a+(sgn (opGo (l.drop a) 8).1).length) (by omega)
  cases hr:rwL l (opGo (l.drop a) 8).1 (skL l (a+(sgn (opGo (l.drop a) 8).1).length))with
  | mk r z=>
   rw[hr]at h;cases r with
   | bad e p=>exact absurd h (qbkn hr)
   | ok x t st=>
    have h1:=rwL_le hs.2 hr;have h2:=qgj l z h1.2;dsimp only;omega
def rowC (l:QB):Nat→Nat→List Cl
 | 0,_=>[]
 | n+1,a=>if a≤l.length then clP l (skL l a)::(if (clP l (skL l a)).er=0 then rowC l n ((clP l (skL l a)).e+1) else []) else []
theorem qbgc {l:QB} {a:Nat} (h:l.length<a):∀ n,rowC l n a=[]
 | 0=>rfl
 | n+1=>by unfold rowC;rw[if_neg (by omega)]
theorem rowC_bad {l:QB} {n a:Nat} (h:a≤l.length) (he:(clP l (skL l a)).er≠0):rowC l (n+1) a=[clP l (skL l a)]:=by
 unfold rowC;rw[if_pos h,if_neg he]
theorem rowC_go {l:QB} {n a:Nat} (h:a≤l.length) (he:(clP l (skL l a)).er=0):rowC l (n+1) a=clP l (skL l a)::rowC l n ((clP l (skL l a)).e+1):=by
 rw[rowC,if_pos h,if_pos he]
end Go.Proofs.YtabmfdedbpmfmaaGreat
