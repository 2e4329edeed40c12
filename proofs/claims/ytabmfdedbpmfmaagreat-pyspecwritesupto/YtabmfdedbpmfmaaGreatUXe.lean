/- Plain laws: the document's reader reads what the program's r -/
import Derived.Test.YtabmfdedbpmfmaaGreatUXb
import Derived.Laws.AppendOwnNone
import Derived.Test.YtabmfdedbpmfmaaGreatUPj
import Derived.Test.YtabmfdedbpmfmaaGreatUPp
namespace Go.Proofs.YtabmfdedbpmfmaaGreat
open Go.RowKit Go.Shelf
open Calls renaming quiet_of_same → qbtb
set_option linter.unusedVariables false
set_option maxHeartbeats 2000000
set_option maxRecDepth 100000
theorem hasP_pfx (t x:QB):hasP t x=pfxB t x:=by
 unfold hasP
 by_cases h:x.length≤t.length
 ·rw[qbhf t x h];rw[Bool.eq_iff_iff];simp
 ·rw[qjt t x h];rw[beq_eq_false_iff_ne];intro e;have:=congrArg List.length e;simp at this;omega
theorem qblc (l:QB) (m:Nat) (h:m≤l.length) (x:QB):qdp l (m:Int) x=pfxB (l.drop m) x:=by
 unfold qdp;rw[hasP_pfx];simp[h]
theorem qxm (f:QY→Bool) (x:QB):∀ ws:List QB,(∀ y∈ws,f (qd y)=true→¬ x.length<y.length)→(ws.map qd).foldl (qkg f) (qd x,true)=(qd x,true)
 | [],_=>rfl
 | y::ws,h=>by
  rw[List.map_cons,List.foldl_cons,qkg,if_neg]
  ·exact qxm f x ws (fun z hz=>h z (List.mem_cons_of_mem _ hz))
  ·rintro⟨h1,h2⟩;have:=h y List.mem_cons_self h1;rcases h2 with h2|h2
   ·cases h2
   ·simp only[qn]at h2;exact this h2
theorem qtn (f:QY→Bool):∀ ws:List QB,ws.Pairwise (fun x y=>f (qd x)=true→f (qd y)=true→¬ x.length<y.length) →
  qqf f (ws.map qd)=match ws.find? (fun x=>f (qd x))with|some x=>(qd x,true)|none=>(ByteArray.empty,false)
 | [],_=>rfl
 | x::ws,h=>by
  rw[List.pairwise_cons]at h;unfold qqf;rw[List.map_cons,List.foldl_cons,List.find?_cons];cases hx:f (qd x)
  ·rw[qkg,if_neg (by rintro⟨h1,_⟩;rw[hx]at h1;cases h1)]
   exact qtn f ws h.2
  ·rw[qkg,if_pos ⟨hx,.inl rfl⟩];exact qxm f x ws (fun y hy hf=>h.1 y hy hx hf)
theorem pfx_both {t x y:QB} (hx:pfxB t x=true) (hy:pfxB t y=true) (hl:x.length<y.length):x.isPrefixOf y=true:=by
 unfold pfxB at hx hy;rw[List.isPrefixOf_iff_prefix]at *;exact List.prefix_of_prefix_length_le hx hy (by omega)
def qsc (ws:List QB):Prop:=ws.Pairwise fun x y=>x.length<y.length→x.isPrefixOf y=false
theorem qbqh:qsc qbq:=by unfold qsc qbq;decide
theorem qpb:qsc qdn:=by unfold qsc qdn;decide
theorem qbpk:qsc qbk:=by unfold qsc qbk;decide
theorem word_is (l:QB) (a:Nat) (ha:a≤l.length) (ws:List QB) (h:qsc ws) :
  qqf (fun x=>qdp l ((qbd l a:Nat):Int) x.data.toList) (ws.map qd)=match qbl l a ws with|some x=>(qd x,true)|none=>(ByteArray.empty,false):=by
 have hm:=(qgk l a ha).2.1;have e:(fun x:QY=>qdp l ((qbd l a:Nat):Int) x.data.toList)=fun x=>pfxB (l.drop (qbd l a)) x.data.toList:=funext fun x=>qblc l _ hm _;rw[e,qtn]
 ·unfold qbl;simp only[qj]
 ·refine h.imp ?_;intro x y hxy h1 h2 hl;simp only[qj]at h1 h2;have:=hxy hl;rw[pfx_both h1 h2 hl]at this;cases this
def qlh (s:QY) (a:Nat) (ws:List QB) (B:Nat) (e p:Int) (w:World) (r:Ending) (w':World):Prop:=
 match qbl s.data.toList a ws with
 | none=>r=.returned (.tuple #[.string ByteArray.empty,.bool false])∧DrAt w' B s a e p∧Turn B w w'
 | some x=>r=.returned (.tuple #[.string (qd x),.bool true])∧DrAt w' B s (qbd s.data.toList a+x.length) e p∧Turn B w w'
theorem qkj (B:Nat) (s:QY) (a A c:Nat) (e p:Int) (ws:List QB) (w:World) (h:DrAt w B s a e p) (ha:a≤s.size) (hs:s.size≤64) (hA:qhf w A ws) (hws:ws.length≤64) (hwl:∀ x∈ws,x.length≤64) (hap:qsc ws) :
  Calls Tryz.prog 56 #[.pointer (some ⟨B,0,none⟩),.slice (some ⟨A,0,none⟩) ws.length c] w (qlh s a ws B e p w):=by
 have M0:=qb (fun w h=>qlr B s a e p 0 w h ha (by omega) hs)
 simp only[Nat.add_zero]at M0;have H:=qb h;have hm:=qgk s.data.toList a (by rw[qg];exact ha)
 have HW:=word_is s.data.toList a (by rw[qg];exact ha) ws hap
 have WD:=fun W (hW:W.heap[A]? = w.heap[A]?)=>qbpn s ((qbd s.data.toList a:Nat):Int) (some ⟨A,0,none⟩) (ws.map qd) c W (by unfold maxLen;omega) (by rw[List.length_map];unfold maxLen;omega) (by
  by_cases h0:ws=[]
  ·left;rw[h0];rfl
  ·right;refine⟨A,0,rfl,fun i hi=>?_⟩;rw[List.length_map]at hi;have hc:qhf W A ws:=by unfold qhf;rw[hW];exact hA
   have:=hc.cell i hi;rw[Nat.zero_add,this];simp[List.getD,hi])
 rw [List.length_map]at WD;rw[HW]at WD;have hwx:∀ x,qbl s.data.toList a ws=some x→qbd s.data.toList a+x.length≤200:=fun x hx=>by
  have:=hwl x (List.mem_of_find?_eq_some hx);rw[qg]at hm;omega
 unfold qlh;have hmk:(qdg s.data.toList a=true∧qbd s.data.toList a=a+1)∨(qdg s.data.toList a=false∧qbd s.data.toList a=a):=by
  cases hb:qdg s.data.toList a
  ·exact .inr ⟨rfl,qbck hb⟩
  ·exact .inl ⟨rfl,qbcc hb⟩
 clear hA h HW hap hwl;cases hx:qbl s.data.toList a ws with
 | none=>
  rw[hx]at WD;have WD:=qb WD;clear hwx hx;rcases hmk with ⟨hb,hl⟩|⟨hb,hl⟩
  ·rw[hb]at M0;have e1:(a:Int)+1=((qbd s.data.toList a:Nat):Int):=by omega
   have w1:IntKind.i64.wrap ((qbd s.data.toList a:Nat):Int)=((qbd s.data.toList a:Nat):Int):=by rw[IntKind.wrap_i64,qg]at *;omega
   clear hl hb hm;generalize ((qbd s.data.toList a:Nat):Int)=m at *;go_enter Tryz.func56,Tryz.ntmps56
   (go_wp2_with fail);refine(M0.out _ H.out).mono ?_;rintro r w1 ⟨rfl,n1,hw1⟩;have H1:DrAt w1 B s a e p:=by rw[hw1];exact H.out.drewN _
   have T1:Turn B w w1:=by rw[hw1];exact Turn.drewN _ _ _
   have A1:w1.heap[A]? = w.heap[A]?:=by rw[hw1,qbw]
   have WD1:=qb (fun n=>WD.out (w1.drewN n) (by rw[qbw];exact A1))
   clear hw1;obtain⟨c0,c1,c2,c3,f1,f2,f3⟩:=H1.seen;(go_wp2_with fail);go_quiet (first|(go_at_call 84;exact qbtb (WD1.out _))|fail)
   (go_wp2_with fail);go_ret2
   exact⟨rfl,H1.drewN _,T1.trans (Turn.drewN _ _ _)⟩
  ·rw[hb]at M0;have e1:((qbd s.data.toList a:Nat):Int)=(a:Int):=by omega
   rw[e1]at WD;clear hl hb hm e1;go_enter Tryz.func56,Tryz.ntmps56
   (go_wp2_with fail);refine(M0.out _ H.out).mono ?_;rintro r w1 ⟨rfl,n1,hw1⟩;have H1:DrAt w1 B s a e p:=by rw[hw1];exact H.out.drewN _
   have T1:Turn B w w1:=by rw[hw1];exact Turn.drewN _ _ _
   have A1:w1.heap[A]? = w.heap[A]?:=by rw[hw1,qbw]
   have WD1:=qb (fun n=>WD.out (w1.drewN n) (by rw[qbw];exact A1))
   clear hw1;obtain⟨c0,c1,c2,c3,f1,f2,f3⟩:=H1.seen;(go_wp2_with fail);go_quiet (first|(go_at_call 84;exact qbtb (WD1.out _))|fail)
   (go_wp2_with fail);go_ret2
   exact⟨rfl,H1.drewN _,T1.trans (Turn.drewN _ _ _)⟩
 | some x=>
  rw[hx]at WD;have WD:=qb WD;have hx2:=hwx x hx;have hxs:(qd x).size=x.length:=qn x;clear hwx hx;dsimp only;obtain⟨j,hj⟩:∃ j,j=qbd s.data.toList a+x.length:=⟨_,rfl⟩;rw[←hj];rcases hmk with ⟨hb,hl⟩|⟨hb,hl⟩
  ·rw[hb]at M0;rw[hl]at hj WD;have e1:((a+1:Nat):Int)=(a:Int)+1:=by omega
   rw[e1]at WD;have w1:IntKind.i64.wrap ((a:Int)+1)=(a:Int)+1:=by rw[IntKind.wrap_i64];omega
   have e2:(a:Int)+1+(x.length:Int)=(j:Int):=by omega
   have w2:IntKind.i64.wrap (j:Int)=(j:Int):=by rw[IntKind.wrap_i64];omega
   clear hl hb hm e1 hj hx2;go_enter Tryz.func56,Tryz.ntmps56
   (go_wp2_with fail);refine(M0.out _ H.out).mono ?_;rintro r w1 ⟨rfl,n1,hw1⟩;have H1:DrAt w1 B s a e p:=by rw[hw1];exact H.out.drewN _
   have T1:Turn B w w1:=by rw[hw1];exact Turn.drewN _ _ _
   have A1:w1.heap[A]? = w.heap[A]?:=by rw[hw1,qbw]
   have WD1:=qb (fun n=>WD.out (w1.drewN n) (by rw[qbw];exact A1))
   clear hw1;obtain⟨c0,c1,c2,c3,f1,f2,f3⟩:=H1.seen;(go_wp2_with fail);go_quiet (first|(go_at_call 84;exact qbtb (WD1.out _))|fail)
   (go_wp2_with fail);go_ret2
   exact⟨rfl,(H1.drewN _).place _,T1.trans ((Turn.drewN _ _ _).trans (Turn.set _ _ _ _))⟩
  ·rw[hb]at M0;rw[hl]at hj WD;have e2:(a:Int)+(x.length:Int)=(j:Int):=by omega
   have w2:IntKind.i64.wrap (j:Int)=(j:Int):=by rw[IntKind.wrap_i64];omega
   clear hl hb hm hj hx2;go_enter Tryz.func56,Tryz.ntmps56
   (go_wp2_with fail);refine(M0.out _ H.out).mono ?_;rintro r w1 ⟨rfl,n1,hw1⟩;have H1:DrAt w1 B s a e p:=by rw[hw1];exact H.out.drewN _
   have T1:Turn B w w1:=by rw[hw1];exact Turn.drewN _ _ _
   have A1:w1.heap[A]? = w.heap[A]?:=by rw[hw1,qbw]
   have WD1:=qb (fun n=>WD.out (w1.drewN n) (by rw[qbw];exact A1))
   clear hw1;obtain⟨c0,c1,c2,c3,f1,f2,f3⟩:=H1.seen;(go_wp2_with fail);go_quiet (first|(go_at_call 84;exact qbtb (WD1.out _))|fail)
   (go_wp2_with fail);go_ret2
   exact⟨rfl,(H1.drewN _).place _,T1.trans ((Turn.drewN _ _ _).trans (Turn.set _ _ _ _))⟩
open Nat renaming le_refl → qbst
open Go renaming World → QW
set_option maxHeartbeats 8000000
set_option maxRecDepth 100000
def txsV (S:List QB):List Value:=S.map fun t=>.string (qd t)
theorem qmn (S:List QB):(txsV S).length=S.length:=List.length_map _
theorem qpl (S R:List QB):txsV (S++R)=txsV S++txsV R:=List.map_append
theorem txsV_one (R:List QB):∀ u∈txsV R,u.oneCell'=true:=by
 intro u hu;obtain⟨t,_,rfl⟩:=List.mem_map.1 hu
 rfl
theorem inf9:∃ i,Tryz.prog.info? 9=some i∧i.zero=some (.string ⟨#[]⟩)∧i.bytes=16∧i.size=1:=by
 cases h:Tryz.prog.info? 9 with
 | none=>exact absurd (show(Tryz.prog.info? 9).isSome=true by kernel_rfl) (by rw[h];simp)
 | some i=>
  refine⟨i,rfl,?_,?_,?_⟩
  ·have:(Tryz.prog.info? 9).bind (fun i=>i.zero)=some (.string ⟨#[]⟩):=by kernel_rfl
   rwa [h]at this
  ·have:(Tryz.prog.info? 9).map (fun i=>i.bytes)=some 16:=by kernel_rfl
   rw[h]at this;simpa using this
  ·have:(Tryz.prog.info? 9).map (fun i=>i.size)=some 1:=by kernel_rfl
   rw[h]at this;simpa using this
theorem qgs {W:QW} {B n:Nat} {v:Value} {xs:List Value} (h:W.ownsRow B 9 1 v n xs):∃ ao cv,v=.slice ao n cv:=by
 rcases h.2 with ⟨h,h0⟩|⟨g,cap,cur,h1,_⟩
 ·exact⟨none,0,by rw[h,h0]⟩
 ·exact⟨_,_,h1⟩
theorem qgq (ao:Option Addr) (n cv:Nat):(Value.slice ao n cv).ownBlock=ao.map (·.block):=by cases ao<;>rfl
theorem qkp (w:QW) (e:TypeId) (x:QB):∀ j u,(txsV [x])[j]? = some u→(w.alloc (.cells #[.string (qd x)] e)).cell? ((⟨w.heap.size,0,none⟩:Addr).add j)=some u:=by
 intro j u hj;have h:=fun j=>World.cell?_alloc_mark w #[.string (qd x)] e (0,0) j
 match j,hj with
 | 0,hj=>simp[txsV]at hj;subst hj;exact h 0
theorem qkz {W:QW} {B n cv:Nat} {ao:Option Addr} {xs:List Value} (h:W.ownsRow B 9 1 (.slice ao n cv) n xs):∀ k,ao.map (·.block)=some k→B≤k∧k<W.heap.size:=fun k hk=>h.lt k (by rw[qgq];exact hk)
theorem qms {w:QW} {ops:Array Oper} {rest:List Oper} {o:Oper} {a:Act} {Q:Exit→Act→QW→Prop} (hgd:o.guard=none) (s x:Operand)
  (ho:o.op=.call { callee:=.builtin .append,args:=#[s,x],argTypes:=#[37,37] })
  (B:Nat) (ao:Option Addr) (n cv:Nat) (S:List QB) (hs:a.eval s=.slice ao n cv) (hown:w.ownsRow B 9 1 (.slice ao n cv) n (txsV S))
  (bo:Option Addr) (m c:Nat) (R:List QB) (hx:a.eval x=.slice bo m c) (hR:R.length=m)
  (hnone:bo=none→m=0∧c=0) (hc:∀ ad,bo=some ad→∀ j u,(txsV R)[j]? = some u→w.cell? (ad.add j)=some u) (hb:n+m≤4194304) (hB:B≤w.heap.size)
  (h:∀ ao' cv' w',w'.ownsRow B 9 1 (.slice ao' (n+m) cv') (n+m) (txsV (S++R))→w.grownBy w' (ao.map (·.block))→wpList Tryz.prog ops Q rest (a.put o.dst (.slice ao' (n+m) cv')) w') :
  wpList Tryz.prog ops Q (o::rest) a w:=by
 obtain⟨i0,hi,hz0,hz2,hz1⟩:=inf9;cases bo with
 | none=>
  obtain⟨rfl,rfl⟩:=hnone rfl;obtain rfl:R=[]:=List.length_eq_zero_iff.1 hR;refine wpList_append_own_none hgd s x 37 ho B 9 i0 1 Tryz.underlying37 hi _ n _ hs hown hx ?_;have:=h ao cv w (by simpa using hown) (World.grownBy.refl _ _)
  simpa using this
 | some ad=>
  refine wpList_append_own _ hgd s x 37 ho B 9 i0 (.string ⟨#[]⟩) 1 16 Tryz.underlying37 hi hz0 hz1 hz2 rfl (by decide) _ n _ hs hown ad m c (txsV R) hx (by rw[qmn,hR];omega) (hc ad rfl) (txsV_one R) (by unfold maxLen;omega) (by omega) hB ?_
  intro v' w' h1 h2 _;obtain⟨ao',cv',rfl⟩:=qgs h1;rw[qgq]at h2;exact h ao' cv' w' (by rw[qpl];exact h1) h2
theorem qtx (l:QB) (xs:List (Nat×Nat)):vals l xs=txsV (rowL l xs):=by simp[vals,txsV,rowL]
theorem DrAt.grown {W W':QW} {B n:Nat} {s:QY} {a:Nat} {e p:Int} {ao:Option Addr} {cv base:Nat} {xs:List Value} (h:DrAt W B s a e p) (hg:W.grownBy W' (ao.map (·.block))) (ho:W.ownsRow base 9 1 (.slice ao n cv) n xs) (hB:B<base):DrAt W' B s a e p:=
 (hg.block B h.lt (fun e'=>by have:=(qkz ho B e'.symm).1;omega)).trans h
theorem Turn.grownR {W W' w:QW} {B n cv base:Nat} {ao:Option Addr} {xs:List Value} (h:Turn B w W) (hg:W.grownBy W' (ao.map (·.block))) (ho:W.ownsRow base 9 1 (.slice ao n cv) n xs) (hb:w.heap.size≤base):Turn B w W':=
 qpc h hg (fun k hk=>by have:=(qkz ho k hk).1;omega)
def qbkd (W:QW) (B:Nat):Nat:=(intOf ((W.cell? ⟨B,1,none⟩).getD (.int .i64 0))).toNat
theorem DrAt.dplace {W:QW} {B:Nat} {s:QY} {a:Nat} {e p:Int} (h:DrAt W B s a e p):qbkd W B=a:=by
 unfold Go.Proofs.YtabmfdedbpmfmaaGreat.qbkd;rw[(h.seen).2.1];simp[intOf]
theorem qxv (c:UInt8):([45,95,46]:QB).contains c=qfv c:=by
 unfold qfv;simp only[List.contains_cons,List.contains_nil,Bool.or_false];rw[Bool.or_assoc]
theorem qxb {l:QB} {e:Nat} (h:qdg l e=true):∃ c,l[e]? = some c∧([45,95,46]:QB).contains c=true:=by
 unfold qdg at h;cases hl:l[e]? with
 | none=>rw[hl]at h;simp at h
 | some c=>rw[hl]at h;exact⟨c,rfl,by rw[qxv];simpa using h⟩
theorem mark_no {l:QB} {e:Nat} (h:qdg l e=false):∀ c,l[e]? = some c→([45,95,46]:QB).contains c=false:=by
 intro c hc;unfold qdg at h;rw[hc]at h;rw[qxv];simpa using h
theorem qnf {l:QB} {k e:Nat} (he:k+qp 5 (l.drop k)=e) (hn:e≠k) (h:qdg l e=false∨(qdg l e=true∧clsB l (e+1) 5=false)):qbf l 5 [45,95,46] k=[(k,e)]:=by
 rcases h with h|⟨h1,h2⟩
 ·exact qkh l 5 _ k e he hn (mark_no h)
 ·obtain⟨c,hc,hs⟩:=qxb h1;rw[qhg l 5 _ k e he hn c hc hs,qhk l 5 _ (e+1) ((qgz l (e+1) 5).2 h2)]
theorem qzp {l:QB} {k e:Nat} (he:k+qp 5 (l.drop k)=e) (hn:e≠k) (h1:qdg l e=true):qbf l 5 [45,95,46] k=(k,e)::qbf l 5 [45,95,46] (e+1):=by
 obtain⟨c,hc,hs⟩:=qxb h1;exact qhg l 5 _ k e he hn c hc hs
def LPost (s:QY) (b B:Nat) (p:Int) (w:QW) (r:Ending) (w':QW):Prop:=
 ∃ v,r=.returned v∧w'.ownsRow w.heap.size 9 1 v (qbf s.data.toList 5 [45,95,46] b).length (vals s.data.toList (qbf s.data.toList 5 [45,95,46] b)) ∧
  DrAt w' B s (qfm b (qbf s.data.toList 5 [45,95,46] b)) (if (qbf s.data.toList 5 [45,95,46] b).length=0 then misL s.size b else 0) (if (qbf s.data.toList 5 [45,95,46] b).length=0 then (b:Int) else p)∧Turn B w w'
theorem qbpr {s:QY} {b B:Nat} {p:Int} {w w':QW} (h:qbf s.data.toList 5 [45,95,46] b=[]) (h1:DrAt w' B s b (misL s.size b) (b:Int)) (h2:Turn B w w'):LPost s b B p w (.returned (.slice none 0 0)) w':=by
 refine⟨_,rfl,?_⟩;rw[h];exact⟨World.ownsRow_nil _ _ _ _,h1,h2⟩
theorem qpj {s:QY} {b B n:Nat} {p:Int} {w w':QW} {v:Value} {xs:List (Nat×Nat)} {x:Nat×Nat} {S:List QB} (h:qbf s.data.toList 5 [45,95,46] b=xs++[x]) (hS:rowL s.data.toList (xs++[x])=S) (hn:n=xs.length+1) (ho:w'.ownsRow w.heap.size 9 1 v n (txsV S)) (h1:DrAt w' B s x.2 0 p) (h2:Turn B w w'):LPost s b B p w (.returned v) w':=by
 refine⟨v,rfl,?_⟩;rw[h,if_neg (by simp),if_neg (by simp),qjw,qtx,hS]
 refine⟨?_,h1,h2⟩;rw[show(xs++[x]).length=n by simp[hn]]
 exact ho
theorem qbkp (B:Nat) (s:QY) (a b:Nat) (hab:b=a+1) (p:Int) (w:QW) (h:DrAt w B s a 0 p) (ha:a<s.size) (hs:s.size≤64) :
  Calls Tryz.prog 59 #[.pointer (some ⟨B,0,none⟩)] w (LPost s b B p w):=by
 obtain ⟨c0,c1,c2,c3,f1,f2,f3⟩:=h.seen;have hBl:=h.lt;have H:=qb h;clear h;have hlen:(qbf s.data.toList 5 [45,95,46] b).length≤64:=by
  have:=qjm s.data.toList 5 [45,95,46] _ b rfl;rw[qg]at this;omega
 have hwr:IntKind.i64.wrap (b:Int)=(b:Int):=by rw[IntKind.wrap_i64];omega
 have hab':(a:Int)+1=(b:Int):=by omega
 have hbs:b≤s.size:=by omega
 clear hab;have HLE:Hid (∀ k done,done++qbf s.data.toList 5 [45,95,46] k=qbf s.data.toList 5 [45,95,46] b→done.length≤64):=fun k done h=>by
  have:=congrArg List.length h;rw[List.length_append]at this;omega
 clear hlen;go_enter Tryz.func59,Tryz.ntmps59
 (go_wp2_with fail);clear c0 c1 c2 c3 f1 f2 f3;go_loopw [3] (fun v wr=>∃ (k:Nat) (done:List (Nat×Nat)) (ao:Option Addr) (cv:Nat),v=.slice ao done.length cv∧b≤k∧k≤s.size∧DrAt wr B s k 0 p∧Turn B w wr∧Hid (wr.ownsRow w.heap.size 9 1 (.slice ao done.length cv) done.length (vals s.data.toList done))∧Hid (done++qbf s.data.toList 5 [45,95,46] k=qbf s.data.toList 5 [45,95,46] b)∧Hid ((done=[]∧k=b)∨clsB s.data.toList k 5=true)) (fun _ wr=>s.size-qbkd wr B)
 case atStart=>
  exact⟨b,[],none,0,rfl,qbst _,hbs,H.out.place b,Turn.set _ _ _ _,World.ownsRow_nil _ _ _ _,rfl,.inl ⟨rfl,rfl⟩⟩
 case round=>
  obtain⟨k,done,ao,cv,rfl,hak,hk,R,TU,HO,HL,HD⟩:=hrel;have hme:=R.dplace;have hdl:=HLE.out k done HL.out;have hr:=qdr 5 s k hk;have HR:=qdl s k 5 hk;obtain⟨E,hE⟩:∃ E,k+qp 5 (s.data.toList.drop k)=E:=⟨_,rfl⟩;rw[hE]at hr;have hRI:runI s.data.toList (k:Int) 5=(E:Int):=by rw[HR,←hE];simp
  have R1:=qb (fun W=>qhc s (k:Int) 5 W (by unfold maxLen;omega))
  rw[hRI]at R1;clear hRI HR;obtain⟨c0,c1,c2,c3,f1,f2,f3⟩:=R.seen
  by_cases hz:E=k
  ·have hrun:qp 5 (s.data.toList.drop k)=0:=by omega
   have hd0:done=[]∧k=b:=by
    rcases HD.out with h|h
    ·exact h
    ·rw[(qgz _ _ _).1 hrun]at h;cases h
   obtain⟨rfl,hkb⟩:=hd0;have hbk:=hkb.symm;clear hkb;subst hbk;have HN:Hid (qbf s.data.toList 5 [45,95,46] b=[]):=qhk _ _ _ _ hrun;have FL:=qb (fun w h=>qrb B s b p w h hk hs);have hzE:=hz.symm;clear hz;subst hzE;have hb:((b:Int)==(b:Int))=true:=by simp
   clear HL HD HLE HO;(go_wp2_with fail);go_quiet (first|(go_at_call 52;exact qbtb (R1.out _))|fail)
   generalize hn1:wr.drewN nq=w1 at *;have H1:DrAt w1 B s b 0 p:=by rw[←hn1];exact R.drewN _
   have T1:Turn B w w1:=by rw[←hn1];exact TU.trans (Turn.drewN _ _ _)
   clear hn1 c0 c1 c2 c3 f1 f2 f3;obtain⟨c0,c1,c2,c3,f1,f2,f3⟩:=H1.seen;(go_wp2_with fail);refine(FL.out _ H1).mono ?_;rintro r w2 ⟨rfl,h2,t2⟩;(go_wp2_with fail);go_ret
   exact qbpr HN.out h2 (T1.trans t2)
  ·have hb:((E:Int)==(k:Int))=false:=by simp;omega
   have i0:(0:Int)≤(k:Int):=Int.natCast_nonneg _;have i1:(k:Int)≤(E:Int):=by omega
   have i2:(E:Int)≤(s.size:Int):=by omega
   have hsg:(s.extract k E).size=E-k:=by rw[qfx,qn,qsv _ _ _ (by rw[qg];omega)]
   have R2:=fun W=>qhc (s.extract k E) 0 1 W (by unfold maxLen;omega)
   rw[show runI (s.extract k E).data.toList 0 1=((qp 1 (seg s.data.toList k E):Nat):Int) by have:=qdl (s.extract k E) 0 1 (Nat.zero_le _);rw[qdf]at this ⊢;simpa using this]at R2
   have TM:=fun w=>qjl (s.extract k E) w (by unfold maxLen;omega)
   rw[qdf]at TM;have hsl:(seg s.data.toList k E).length=E-k:=qsv _ _ _ (by rw[qg];omega)
   have hdg:digB (seg s.data.toList k E)=decide (qp 1 (seg s.data.toList k E)=E-k):=by
    unfold digB;have hne:(seg s.data.toList k E).isEmpty=false:=by
     rw[Bool.eq_false_iff];intro h;rw[List.isEmpty_iff]at h;rw[h]at hsl;simp at hsl;omega
    rw[hne,hsl,Bool.eq_iff_iff];simp
   have HPL:Hid (qbt (seg s.data.toList k E)=if digB (seg s.data.toList k E) then qr (seg s.data.toList k E) else seg s.data.toList k E):=rfl;have HSE:Hid (qd (seg s.data.toList k E)=s.extract k E):=by show _=_;rw[qfx]
   have HRL:Hid (rowL s.data.toList (done++[(k,E)])=rowL s.data.toList done++[qbt (seg s.data.toList k E)]):=by simp[rowL,Hid]
   have HRW:=qb (qtx s.data.toList);have hrl:(rowL s.data.toList done).length=done.length:=by simp[rowL]
   have HEE:=qb hE;have HNE:Hid (E≠k):=hz;have hkE:k<E:=by omega
   have M0:=qb (fun w h=>qlr B s E 0 p 0 w h hr (by omega) hs)
   have I1:=qb (fun w h=>qfg B s E 0 p 1 5 w h hr (by omega) hs)
   simp only[Nat.add_zero]at M0;have R2:=qb R2;have TM:=qb TM;clear hE hz HD;generalize hsgm:seg s.data.toList k E=g at *;clear hsgm;cases hdb:digB g
   ·have HPT:Hid (qd (qbt g)=s.extract k E):=by show _=_;rw[HPL.out,hdb];exact HSE.out
    rw [hdb]at hdg;have hdg2:(((qp 1 g:Nat):Int)==((s.extract k E).size:Int))=false:=by
     rw[hsg];have:=of_decide_eq_false hdg.symm;rw[beq_eq_false_iff_ne];omega
    clear hdg hdb HPL HSE;generalize ((qp 1 g:Nat):Int)=rq at *;cases hm:qdg s.data.toList E
    ·rw [hm]at M0;have HLA:Hid (qbf s.data.toList 5 [45,95,46] k=[(k,E)]):=qnf HEE.out HNE.out (.inl hm);clear hm I1 HLE;(go_wp2_with fail);go_quiet (first|(go_at_call 52;exact qbtb (R1.out _))|fail)
     generalize hn1:wr.drewN nq=w1 at *;have H1:DrAt w1 B s k 0 p:=by rw[←hn1];exact R.drewN _
     have T1:Turn B w w1:=by rw[←hn1];exact TU.trans (Turn.drewN _ _ _)
     have O1:Hid (w1.ownsRow w.heap.size 9 1 (.slice ao done.length cv) done.length (txsV (rowL s.data.toList done))):=by rw[←hn1,←HRW.out];exact qbc HO.out (Turn.drewN _ _ _) hBl
     clear hn1 c0 c1 c2 c3 f1 f2 f3;obtain⟨c0,c1,c2,c3,f1,f2,f3⟩:=H1.seen;(go_wp2_with fail);go_quiet (fail)
     generalize hn2:w1.drewN nq=w2 at *;have H2:DrAt w2 B s k 0 p:=by rw[←hn2];exact H1.drewN _
     have T2:Turn B w w2:=by rw[←hn2];exact T1.trans (Turn.drewN _ _ _)
     have O2:Hid (w2.ownsRow w.heap.size 9 1 (.slice ao done.length cv) done.length (txsV (rowL s.data.toList done))):=by rw[←hn2];exact qbc O1.out (Turn.drewN _ _ _) hBl
     clear hn2 c0 c1 c2 c3 f1 f2 f3 H1 T1 O1;generalize hP:s.extract k E=P at *;clear hP;(go_wp2_with fail);refine(R2.out _).mono ?_;rintro r w' ⟨rfl,hw'⟩;rw[hw'];clear hw' w';rw[←HPT.out]at hdg2 ⊢;have hsz2:w.heap.size≤w2.heap.size:=T2.size;go_wp2_with (first
      | (at_builtin;refine qms rfl (.tmp 47) (.tmp 49) rfl w.heap.size ao done.length cv (rowL s.data.toList done) rfl (O2.out.alloc _) (some ⟨w2.heap.size,0,none⟩) 1 1 [qbt g] rfl rfl (fun h=>by cases h) (fun ad h=>by cases h;exact qkp _ _ _) (by omega) (by simp;omega) ?_;intro ao3 cv3 w3 own3 grow3;have H3:DrAt w3 B s k 0 p:=DrAt.grown (H2.below ((Below.refl _ w2).alloc (qbst _) _)) grow3 (O2.out.alloc _) hBl;have T3:Turn B w w3:=Turn.grownR (T2.alloc _) grow3 (O2.out.alloc _) (qbst _);obtain⟨c0,c1,c2,c3,f1,f2,f3⟩:=H3.seen)
      | fail)
     have H4:=H3.place E;have T4:Turn B w _:=T3.trans (Turn.set B 1 w3 (.int .i64 (E:Int)));have O4:=qbc own3 (Turn.set B 1 w3 (.int .i64 (E:Int))) hBl;generalize w3.setCell ⟨B,1,none⟩ (.int .i64 (E:Int))=w4 at *;clear c0 c1 c2 c3 f1 f2 f3 H3 T3 own3 grow3;refine(M0.out _ H4).mono ?_;rintro r w5 ⟨rfl,n5,hw5⟩;have H5:DrAt w5 B s E 0 p:=by rw[hw5];exact H4.drewN _
     have T5:Turn B w w5:=by rw[hw5];exact T4.trans (Turn.drewN _ _ _)
     have O5:=qbc O4 (Turn.drewN B w4 n5) hBl;rw[←hw5]at O5;clear hw5 H4 T4 O4;(go_wp2_with fail);go_ret
     exact qpj (by rw[←HL.out,HLA.out]) HRL.out rfl O5 H5 T5
    ·rw [hm]at M0;cases hc:clsB s.data.toList (E+1) 5
     ·rw [hc]at I1;have HLA:Hid (qbf s.data.toList 5 [45,95,46] k=[(k,E)]):=qnf HEE.out HNE.out (.inr ⟨hm,hc⟩);clear hm hc HLE;(go_wp2_with fail);go_quiet (first|(go_at_call 52;exact qbtb (R1.out _))|fail)
      generalize hn1:wr.drewN nq=w1 at *;have H1:DrAt w1 B s k 0 p:=by rw[←hn1];exact R.drewN _
      have T1:Turn B w w1:=by rw[←hn1];exact TU.trans (Turn.drewN _ _ _)
      have O1:Hid (w1.ownsRow w.heap.size 9 1 (.slice ao done.length cv) done.length (txsV (rowL s.data.toList done))):=by rw[←hn1,←HRW.out];exact qbc HO.out (Turn.drewN _ _ _) hBl
      clear hn1 c0 c1 c2 c3 f1 f2 f3;obtain⟨c0,c1,c2,c3,f1,f2,f3⟩:=H1.seen;(go_wp2_with fail);go_quiet (fail)
      generalize hn2:w1.drewN nq=w2 at *;have H2:DrAt w2 B s k 0 p:=by rw[←hn2];exact H1.drewN _
      have T2:Turn B w w2:=by rw[←hn2];exact T1.trans (Turn.drewN _ _ _)
      have O2:Hid (w2.ownsRow w.heap.size 9 1 (.slice ao done.length cv) done.length (txsV (rowL s.data.toList done))):=by rw[←hn2];exact qbc O1.out (Turn.drewN _ _ _) hBl
      clear hn2 c0 c1 c2 c3 f1 f2 f3 H1 T1 O1;generalize hP:s.extract k E=P at *;clear hP;(go_wp2_with fail);refine(R2.out _).mono ?_;rintro r w' ⟨rfl,hw'⟩;rw[hw'];clear hw' w';rw[←HPT.out]at hdg2 ⊢;have hsz2:w.heap.size≤w2.heap.size:=T2.size;go_wp2_with (first
       | (at_builtin;refine qms rfl (.tmp 47) (.tmp 49) rfl w.heap.size ao done.length cv (rowL s.data.toList done) rfl (O2.out.alloc _) (some ⟨w2.heap.size,0,none⟩) 1 1 [qbt g] rfl rfl (fun h=>by cases h) (fun ad h=>by cases h;exact qkp _ _ _) (by omega) (by simp;omega) ?_;intro ao3 cv3 w3 own3 grow3;have H3:DrAt w3 B s k 0 p:=DrAt.grown (H2.below ((Below.refl _ w2).alloc (qbst _) _)) grow3 (O2.out.alloc _) hBl;have T3:Turn B w w3:=Turn.grownR (T2.alloc _) grow3 (O2.out.alloc _) (qbst _);obtain⟨c0,c1,c2,c3,f1,f2,f3⟩:=H3.seen)
       | fail)
      have H4:=H3.place E;have T4:Turn B w _:=T3.trans (Turn.set B 1 w3 (.int .i64 (E:Int)));have O4:=qbc own3 (Turn.set B 1 w3 (.int .i64 (E:Int))) hBl;generalize w3.setCell ⟨B,1,none⟩ (.int .i64 (E:Int))=w4 at *;clear c0 c1 c2 c3 f1 f2 f3 H3 T3 own3 grow3;refine(M0.out _ H4).mono ?_;rintro r w5 ⟨rfl,n5,hw5⟩;have H5:DrAt w5 B s E 0 p:=by rw[hw5];exact H4.drewN _
      have T5:Turn B w w5:=by rw[hw5];exact T4.trans (Turn.drewN _ _ _)
      have O5:=qbc O4 (Turn.drewN B w4 n5) hBl;rw[←hw5]at O5;clear hw5 H4 T4 O4;(go_wp2_with fail);refine(I1.out _ H5).mono ?_;rintro r w6 ⟨rfl,n6,hw6⟩;have H6:DrAt w6 B s E 0 p:=by rw[hw6];exact H5.drewN _
      have T6:Turn B w w6:=by rw[hw6];exact T5.trans (Turn.drewN _ _ _)
      have O6:=qbc O5 (Turn.drewN B w5 n6) hBl;rw[←hw6]at O6;clear hw6 H5 T5 O5;(go_wp2_with fail);go_ret
      exact qpj (by rw[←HL.out,HLA.out]) HRL.out rfl O6 H6 T6
     ·rw [hc]at I1;have hE1:E+1<s.size:=by
       by_cases hl:E+1<s.size
       ·exact hl
       ·rw[qlv s _ _ hl]at hc;cases hc
      have HMR:Hid (qbf s.data.toList 5 [45,95,46] k=(k,E)::qbf s.data.toList 5 [45,95,46] (E+1)):=qzp HEE.out HNE.out hm;have HCL:=qb hc;clear hm hc HLE;(go_wp2_with fail);go_quiet (first|(go_at_call 52;exact qbtb (R1.out _))|fail)
      generalize hn1:wr.drewN nq=w1 at *;have H1:DrAt w1 B s k 0 p:=by rw[←hn1];exact R.drewN _
      have T1:Turn B w w1:=by rw[←hn1];exact TU.trans (Turn.drewN _ _ _)
      have O1:Hid (w1.ownsRow w.heap.size 9 1 (.slice ao done.length cv) done.length (txsV (rowL s.data.toList done))):=by rw[←hn1,←HRW.out];exact qbc HO.out (Turn.drewN _ _ _) hBl
      clear hn1 c0 c1 c2 c3 f1 f2 f3;obtain⟨c0,c1,c2,c3,f1,f2,f3⟩:=H1.seen;(go_wp2_with fail);go_quiet (fail)
      generalize hn2:w1.drewN nq=w2 at *;have H2:DrAt w2 B s k 0 p:=by rw[←hn2];exact H1.drewN _
      have T2:Turn B w w2:=by rw[←hn2];exact T1.trans (Turn.drewN _ _ _)
      have O2:Hid (w2.ownsRow w.heap.size 9 1 (.slice ao done.length cv) done.length (txsV (rowL s.data.toList done))):=by rw[←hn2];exact qbc O1.out (Turn.drewN _ _ _) hBl
      clear hn2 c0 c1 c2 c3 f1 f2 f3 H1 T1 O1;generalize hP:s.extract k E=P at *;clear hP;(go_wp2_with fail);refine(R2.out _).mono ?_;rintro r w' ⟨rfl,hw'⟩;rw[hw'];clear hw' w';rw[←HPT.out]at hdg2 ⊢;have hsz2:w.heap.size≤w2.heap.size:=T2.size;go_wp2_with (first
       | (at_builtin;refine qms rfl (.tmp 47) (.tmp 49) rfl w.heap.size ao done.length cv (rowL s.data.toList done) rfl (O2.out.alloc _) (some ⟨w2.heap.size,0,none⟩) 1 1 [qbt g] rfl rfl (fun h=>by cases h) (fun ad h=>by cases h;exact qkp _ _ _) (by omega) (by simp;omega) ?_;intro ao3 cv3 w3 own3 grow3;have H3:DrAt w3 B s k 0 p:=DrAt.grown (H2.below ((Below.refl _ w2).alloc (qbst _) _)) grow3 (O2.out.alloc _) hBl;have T3:Turn B w w3:=Turn.grownR (T2.alloc _) grow3 (O2.out.alloc _) (qbst _);obtain⟨c0,c1,c2,c3,f1,f2,f3⟩:=H3.seen)
       | fail)
      have H4:=H3.place E;have T4:Turn B w _:=T3.trans (Turn.set B 1 w3 (.int .i64 (E:Int)));have O4:=qbc own3 (Turn.set B 1 w3 (.int .i64 (E:Int))) hBl;generalize w3.setCell ⟨B,1,none⟩ (.int .i64 (E:Int))=w4 at *;clear c0 c1 c2 c3 f1 f2 f3 H3 T3 own3 grow3;refine(M0.out _ H4).mono ?_;rintro r w5 ⟨rfl,n5,hw5⟩;have H5:DrAt w5 B s E 0 p:=by rw[hw5];exact H4.drewN _
      have T5:Turn B w w5:=by rw[hw5];exact T4.trans (Turn.drewN _ _ _)
      have O5:=qbc O4 (Turn.drewN B w4 n5) hBl;rw[←hw5]at O5;clear hw5 H4 T4 O4;(go_wp2_with fail);refine(I1.out _ H5).mono ?_;rintro r w6 ⟨rfl,n6,hw6⟩;have H6:DrAt w6 B s E 0 p:=by rw[hw6];exact H5.drewN _
      have T6:Turn B w w6:=by rw[hw6];exact T5.trans (Turn.drewN _ _ _)
      have O6:=qbc O5 (Turn.drewN B w5 n6) hBl;rw[←hw6]at O6;clear hw6 H5 T5 O5;obtain⟨c0,c1,c2,c3,f1,f2,f3⟩:=H6.seen;have hwE:IntKind.i64.wrap ((E:Int)+1)=(E:Int)+1:=by rw[IntKind.wrap_i64];omega
      (go_wp2_with fail);go_roundw
      case rel=>
       refine⟨E+1,done++[(k,E)],ao3,cv3,by simp,by omega,by omega,H6.step,T6.trans (Turn.set _ _ _ _),?_,?_,.inr HCL.out⟩
       ·have:=qbc O6 (Turn.set B 1 w6 (.int .i64 ((E:Int)+1))) hBl;show World.ownsRow _ _ _ _ _ _ _;rw[HRW.out,HRL.out];simpa using this
       ·show _=_;rw[List.append_assoc,←HL.out,HMR.out];rfl
      case measure=>
       rw[H6.step.dplace,hme];omega
   ·have HPT:Hid (qd (qbt g)=qd (qr g)):=by show _=_;rw[HPL.out,hdb];rfl
    rw [hdb]at hdg;have hdg2:(((qp 1 g:Nat):Int)==((s.extract k E).size:Int))=true:=by
     rw[hsg];have:=of_decide_eq_true hdg.symm;rw[this];simp
    clear hdg hdb HPL HSE;generalize ((qp 1 g:Nat):Int)=rq at *;cases hm:qdg s.data.toList E
    ·rw [hm]at M0;have HLA:Hid (qbf s.data.toList 5 [45,95,46] k=[(k,E)]):=qnf HEE.out HNE.out (.inl hm);clear hm I1 HLE;(go_wp2_with fail);go_quiet (first|(go_at_call 52;exact qbtb (R1.out _))|fail)
     generalize hn1:wr.drewN nq=w1 at *;have H1:DrAt w1 B s k 0 p:=by rw[←hn1];exact R.drewN _
     have T1:Turn B w w1:=by rw[←hn1];exact TU.trans (Turn.drewN _ _ _)
     have O1:Hid (w1.ownsRow w.heap.size 9 1 (.slice ao done.length cv) done.length (txsV (rowL s.data.toList done))):=by rw[←hn1,←HRW.out];exact qbc HO.out (Turn.drewN _ _ _) hBl
     clear hn1 c0 c1 c2 c3 f1 f2 f3;obtain⟨c0,c1,c2,c3,f1,f2,f3⟩:=H1.seen;(go_wp2_with fail);go_quiet (fail)
     generalize hn2:w1.drewN nq=w2 at *;have H2:DrAt w2 B s k 0 p:=by rw[←hn2];exact H1.drewN _
     have T2:Turn B w w2:=by rw[←hn2];exact T1.trans (Turn.drewN _ _ _)
     have O2:Hid (w2.ownsRow w.heap.size 9 1 (.slice ao done.length cv) done.length (txsV (rowL s.data.toList done))):=by rw[←hn2];exact qbc O1.out (Turn.drewN _ _ _) hBl
     clear hn2 c0 c1 c2 c3 f1 f2 f3 H1 T1 O1;generalize hP:s.extract k E=P at *;clear hP;(go_wp2_with fail);refine(R2.out _).mono ?_;rintro r w' ⟨rfl,hw'⟩;rw[hw'];clear hw' w';(go_wp2_with fail);refine(TM.out _).mono ?_;rintro r w' ⟨rfl,hw'⟩;rw[hw'];clear hw' w';rw[←HPT.out];have hsz2:w.heap.size≤w2.heap.size:=T2.size;go_wp2_with (first
      | (at_builtin;refine qms rfl (.tmp 47) (.tmp 49) rfl w.heap.size ao done.length cv (rowL s.data.toList done) rfl (O2.out.alloc _) (some ⟨w2.heap.size,0,none⟩) 1 1 [qbt g] rfl rfl (fun h=>by cases h) (fun ad h=>by cases h;exact qkp _ _ _) (by omega) (by simp;omega) ?_;intro ao3 cv3 w3 own3 grow3;have H3:DrAt w3 B s k 0 p:=DrAt.grown (H2.below ((Below.refl _ w2).alloc (qbst _) _)) grow3 (O2.out.alloc _) hBl;have T3:Turn B w w3:=Turn.grownR (T2.alloc _) grow3 (O2.out.alloc _) (qbst _);obtain⟨c0,c1,c2,c3,f1,f2,f3⟩:=H3.seen)
      | fail)
     have H4:=H3.place E;have T4:Turn B w _:=T3.trans (Turn.set B 1 w3 (.int .i64 (E:Int)));have O4:=qbc own3 (Turn.set B 1 w3 (.int .i64 (E:Int))) hBl;generalize w3.setCell ⟨B,1,none⟩ (.int .i64 (E:Int))=w4 at *;clear c0 c1 c2 c3 f1 f2 f3 H3 T3 own3 grow3;refine(M0.out _ H4).mono ?_;rintro r w5 ⟨rfl,n5,hw5⟩;have H5:DrAt w5 B s E 0 p:=by rw[hw5];exact H4.drewN _
     have T5:Turn B w w5:=by rw[hw5];exact T4.trans (Turn.drewN _ _ _)
     have O5:=qbc O4 (Turn.drewN B w4 n5) hBl;rw[←hw5]at O5;clear hw5 H4 T4 O4;(go_wp2_with fail);go_ret
     exact qpj (by rw[←HL.out,HLA.out]) HRL.out rfl O5 H5 T5
    ·rw [hm]at M0;cases hc:clsB s.data.toList (E+1) 5
     ·rw [hc]at I1;have HLA:Hid (qbf s.data.toList 5 [45,95,46] k=[(k,E)]):=qnf HEE.out HNE.out (.inr ⟨hm,hc⟩);clear hm hc HLE;(go_wp2_with fail);go_quiet (first|(go_at_call 52;exact qbtb (R1.out _))|fail)
      generalize hn1:wr.drewN nq=w1 at *;have H1:DrAt w1 B s k 0 p:=by rw[←hn1];exact R.drewN _
      have T1:Turn B w w1:=by rw[←hn1];exact TU.trans (Turn.drewN _ _ _)
      have O1:Hid (w1.ownsRow w.heap.size 9 1 (.slice ao done.length cv) done.length (txsV (rowL s.data.toList done))):=by rw[←hn1,←HRW.out];exact qbc HO.out (Turn.drewN _ _ _) hBl
      clear hn1 c0 c1 c2 c3 f1 f2 f3;obtain⟨c0,c1,c2,c3,f1,f2,f3⟩:=H1.seen;(go_wp2_with fail);go_quiet (fail)
      generalize hn2:w1.drewN nq=w2 at *;have H2:DrAt w2 B s k 0 p:=by rw[←hn2];exact H1.drewN _
      have T2:Turn B w w2:=by rw[←hn2];exact T1.trans (Turn.drewN _ _ _)
      have O2:Hid (w2.ownsRow w.heap.size 9 1 (.slice ao done.length cv) done.length (txsV (rowL s.data.toList done))):=by rw[←hn2];exact qbc O1.out (Turn.drewN _ _ _) hBl
      clear hn2 c0 c1 c2 c3 f1 f2 f3 H1 T1 O1;generalize hP:s.extract k E=P at *;clear hP;(go_wp2_with fail);refine(R2.out _).mono ?_;rintro r w' ⟨rfl,hw'⟩;rw[hw'];clear hw' w';(go_wp2_with fail);refine(TM.out _).mono ?_;rintro r w' ⟨rfl,hw'⟩;rw[hw'];clear hw' w';rw[←HPT.out];have hsz2:w.heap.size≤w2.heap.size:=T2.size;go_wp2_with (first
       | (at_builtin;refine qms rfl (.tmp 47) (.tmp 49) rfl w.heap.size ao done.length cv (rowL s.data.toList done) rfl (O2.out.alloc _) (some ⟨w2.heap.size,0,none⟩) 1 1 [qbt g] rfl rfl (fun h=>by cases h) (fun ad h=>by cases h;exact qkp _ _ _) (by omega) (by simp;omega) ?_;intro ao3 cv3 w3 own3 grow3;have H3:DrAt w3 B s k 0 p:=DrAt.grown (H2.below ((Below.refl _ w2).alloc (qbst _) _)) grow3 (O2.out.alloc _) hBl;have T3:Turn B w w3:=Turn.grownR (T2.alloc _) grow3 (O2.out.alloc _) (qbst _);obtain⟨c0,c1,c2,c3,f1,f2,f3⟩:=H3.seen)
       | fail)
      have H4:=H3.place E;have T4:Turn B w _:=T3.trans (Turn.set B 1 w3 (.int .i64 (E:Int)));have O4:=qbc own3 (Turn.set B 1 w3 (.int .i64 (E:Int))) hBl;generalize w3.setCell ⟨B,1,none⟩ (.int .i64 (E:Int))=w4 at *;clear c0 c1 c2 c3 f1 f2 f3 H3 T3 own3 grow3;refine(M0.out _ H4).mono ?_;rintro r w5 ⟨rfl,n5,hw5⟩;have H5:DrAt w5 B s E 0 p:=by rw[hw5];exact H4.drewN _
      have T5:Turn B w w5:=by rw[hw5];exact T4.trans (Turn.drewN _ _ _)
      have O5:=qbc O4 (Turn.drewN B w4 n5) hBl;rw[←hw5]at O5;clear hw5 H4 T4 O4;(go_wp2_with fail);refine(I1.out _ H5).mono ?_;rintro r w6 ⟨rfl,n6,hw6⟩;have H6:DrAt w6 B s E 0 p:=by rw[hw6];exact H5.drewN _
      have T6:Turn B w w6:=by rw[hw6];exact T5.trans (Turn.drewN _ _ _)
      have O6:=qbc O5 (Turn.drewN B w5 n6) hBl;rw[←hw6]at O6;clear hw6 H5 T5 O5;(go_wp2_with fail);go_ret
      exact qpj (by rw[←HL.out,HLA.out]) HRL.out rfl O6 H6 T6
     ·rw [hc]at I1;have hE1:E+1<s.size:=by
       by_cases hl:E+1<s.size
       ·exact hl
       ·rw[qlv s _ _ hl]at hc;cases hc
      have HMR:Hid (qbf s.data.toList 5 [45,95,46] k=(k,E)::qbf s.data.toList 5 [45,95,46] (E+1)):=qzp HEE.out HNE.out hm;have HCL:=qb hc;clear hm hc HLE;(go_wp2_with fail);go_quiet (first|(go_at_call 52;exact qbtb (R1.out _))|fail)
      generalize hn1:wr.drewN nq=w1 at *;have H1:DrAt w1 B s k 0 p:=by rw[←hn1];exact R.drewN _
      have T1:Turn B w w1:=by rw[←hn1];exact TU.trans (Turn.drewN _ _ _)
      have O1:Hid (w1.ownsRow w.heap.size 9 1 (.slice ao done.length cv) done.length (txsV (rowL s.data.toList done))):=by rw[←hn1,←HRW.out];exact qbc HO.out (Turn.drewN _ _ _) hBl
      clear hn1 c0 c1 c2 c3 f1 f2 f3;obtain⟨c0,c1,c2,c3,f1,f2,f3⟩:=H1.seen;(go_wp2_with fail);go_quiet (fail)
      generalize hn2:w1.drewN nq=w2 at *;have H2:DrAt w2 B s k 0 p:=by rw[←hn2];exact H1.drewN _
      have T2:Turn B w w2:=by rw[←hn2];exact T1.trans (Turn.drewN _ _ _)
      have O2:Hid (w2.ownsRow w.heap.size 9 1 (.slice ao done.length cv) done.length (txsV (rowL s.data.toList done))):=by rw[←hn2];exact qbc O1.out (Turn.drewN _ _ _) hBl
      clear hn2 c0 c1 c2 c3 f1 f2 f3 H1 T1 O1;generalize hP:s.extract k E=P at *;clear hP;(go_wp2_with fail);refine(R2.out _).mono ?_;rintro r w' ⟨rfl,hw'⟩;rw[hw'];clear hw' w';(go_wp2_with fail);refine(TM.out _).mono ?_;rintro r w' ⟨rfl,hw'⟩;rw[hw'];clear hw' w';rw[←HPT.out];have hsz2:w.heap.size≤w2.heap.size:=T2.size;go_wp2_with (first
       | (at_builtin;refine qms rfl (.tmp 47) (.tmp 49) rfl w.heap.size ao done.length cv (rowL s.data.toList done) rfl (O2.out.alloc _) (some ⟨w2.heap.size,0,none⟩) 1 1 [qbt g] rfl rfl (fun h=>by cases h) (fun ad h=>by cases h;exact qkp _ _ _) (by omega) (by simp;omega) ?_;intro ao3 cv3 w3 own3 grow3;have H3:DrAt w3 B s k 0 p:=DrAt.grown (H2.below ((Below.refl _ w2).alloc (qbst _) _)) grow3 (O2.out.alloc _) hBl;have T3:Turn B w w3:=Turn.grownR (T2.alloc _) grow3 (O2.out.alloc _) (qbst _);obtain⟨c0,c1,c2,c3,f1,f2,f3⟩:=H3.seen)
       | fail)
      have H4:=H3.place E;have T4:Turn B w _:=T3.trans (Turn.set B 1 w3 (.int .i64 (E:Int)));have O4:=qbc own3 (Turn.set B 1 w3 (.int .i64 (E:Int))) hBl;generalize w3.setCell ⟨B,1,none⟩ (.int .i64 (E:Int))=w4 at *;clear c0 c1 c2 c3 f1 f2 f3 H3 T3 own3 grow3;refine(M0.out _ H4).mono ?_;rintro r w5 ⟨rfl,n5,hw5⟩;have H5:DrAt w5 B s E 0 p:=by rw[hw5];exact H4.drewN _
      have T5:Turn B w w5:=by rw[hw5];exact T4.trans (Turn.drewN _ _ _)
      have O5:=qbc O4 (Turn.drewN B w4 n5) hBl;rw[←hw5]at O5;clear hw5 H4 T4 O4;(go_wp2_with fail);refine(I1.out _ H5).mono ?_;rintro r w6 ⟨rfl,n6,hw6⟩;have H6:DrAt w6 B s E 0 p:=by rw[hw6];exact H5.drewN _
      have T6:Turn B w w6:=by rw[hw6];exact T5.trans (Turn.drewN _ _ _)
      have O6:=qbc O5 (Turn.drewN B w5 n6) hBl;rw[←hw6]at O6;clear hw6 H5 T5 O5;obtain⟨c0,c1,c2,c3,f1,f2,f3⟩:=H6.seen;have hwE:IntKind.i64.wrap ((E:Int)+1)=(E:Int)+1:=by rw[IntKind.wrap_i64];omega
      (go_wp2_with fail);go_roundw
      case rel=>
       refine⟨E+1,done++[(k,E)],ao3,cv3,by simp,by omega,by omega,H6.step,T6.trans (Turn.set _ _ _ _),?_,?_,.inr HCL.out⟩
       ·have:=qbc O6 (Turn.set B 1 w6 (.int .i64 ((E:Int)+1))) hBl;show World.ownsRow _ _ _ _ _ _ _;rw[HRW.out,HRL.out];simpa using this
       ·show _=_;rw[List.append_assoc,←HL.out,HMR.out];rfl
      case measure=>
       rw[H6.step.dplace,hme];omega
theorem qbbf (t:QB) (c:UInt8):pfxB t [c]=(t[0]? == some c):=by
 unfold pfxB;cases t with
 | nil=>rfl
 | cons d r=>simp[List.isPrefixOf,Bool.beq_comm]
theorem drop_0 (l:QB) (a:Nat):(l.drop a)[0]? = l[a]?:=by rw[List.getElem?_drop];rfl
theorem qbcn:∀ t:QB,(hasB t&&(qp 1 (cutB t)==(cutB t).length))=(t[qp 1 t]? == some 33)∧(t[qp 1 t]? = some 33→cutB t=t.take (qp 1 t))
 | []=>⟨rfl,fun h=>by cases h⟩
 | c :: r=>by
  obtain⟨ih1,ih2⟩:=qbcn r
  by_cases h33:c=33
  ·subst h33;have e1:hasB (33::r)=true:=by unfold hasB Lib.indexByte;simp
   have e2:cutB (33::r)=[]:=by unfold cutB;simp
   have e3:qp 1 (33::r)=0:=by rw[qp,if_neg (by decide)]
   rw[e1,e2,e3];exact⟨rfl,fun _=>rfl⟩
  ·have e1:hasB (c::r)=hasB r:=by
    unfold hasB
    congr 1
    rw[Lib.indexByte];have hne:(c==33)=false:=by simpa using h33
    rw[if_neg (by simp[h33])]
    by_cases hi:Lib.indexByte r 33=-1
    ·simp[hi]
    ·have hge:=Lib.indexByte_ge r 33;simp only[hi,ne_eq,not_false_eq_true];simp;omega
   have e2:cutB (c::r)=c::cutB r:=by unfold cutB;rw[List.takeWhile_cons];simp[h33]
   rw[e1,e2];cases hc:isC (c.toNat:Int) 1
   ·have e3:qp 1 (c::r)=0:=by rw[qp,if_neg (by simp[hc])]
    have e4:qp 1 (c::cutB r)=0:=by rw[qp,if_neg (by simp[hc])]
    rw[e3,e4];refine⟨?_,fun h=>absurd (Option.some.inj h) h33⟩;simp[h33]
   ·have e3:qp 1 (c::r)=qp 1 r+1:=by rw[qp,if_pos hc]
    have e4:qp 1 (c::cutB r)=qp 1 (cutB r)+1:=by rw[qp,if_pos hc]
    rw[e3,e4,List.getElem?_cons_succ];refine⟨?_,fun h=>by rw[ih2 h];rfl⟩
    rw[←ih1]
    congr 1
    rw[List.length_cons,Bool.eq_iff_iff];simp
theorem epo_is (l:QB) (a:Nat):epoB l a=(decide (0<qp 1 (l.drop a))&&(l[a+qp 1 (l.drop a)]? == some 33)):=by
 unfold epoB;obtain⟨h1,h2⟩:=qbcn (l.drop a);rw[List.getElem?_drop]at h1 h2;unfold digB;cases hb:(l[a+qp 1 (l.drop a)]? == some 33)
 ·rw[hb]at h1;rw[Bool.and_false];cases hh:hasB (l.drop a)
  ·rfl
  ·rw[hh,Bool.true_and]at h1;rw[h1];simp
 ·rw [hb]at h1;rw[Bool.and_true];rw[Bool.and_eq_true]at h1;rw[h1.1,h1.2,Bool.and_true,Bool.true_and,h2 (by simpa using hb)]
  rw[Bool.eq_iff_iff];simp only[Bool.not_eq_true',decide_eq_true_eq,List.isEmpty_eq_false_iff,ne_eq,List.take_eq_nil_iff,not_or];constructor
  ·intro h;omega
  ·intro h;refine⟨by omega,fun e=>?_⟩
   rw[e]at h;simp[qp]at h
theorem epo_cut {l:QB} {a:Nat} (h:epoB l a=true):cutB (l.drop a)=seg l a (a+qp 1 (l.drop a))∧epoP l a=a+qp 1 (l.drop a)+1∧epoT l a=qr (seg l a (a+qp 1 (l.drop a))):=by
 have h':=h;rw[epo_is,Bool.and_eq_true]at h';have h2:=(qbcn (l.drop a)).2 (by rw[List.getElem?_drop];simpa using h'.2)
 have hlt:a+qp 1 (l.drop a)<l.length:=by
  have:=h'.2
  by_cases hl:a+qp 1 (l.drop a)<l.length
  ·exact hl
  ·rw[List.getElem?_eq_none (by omega)]at this;cases this
 have e:cutB (l.drop a)=seg l a (a+qp 1 (l.drop a)):=by rw[h2,qpn]
 refine⟨e,?_,?_⟩
 ·unfold epoP;rw[if_pos h,e,qsv _ _ _ (by omega)];omega
 ·unfold epoT;rw[if_pos h,e]
theorem epo_no {l:QB} {a:Nat} (h:epoB l a=false):epoP l a=a∧epoT l a=[48]:=by
 unfold epoP epoT;rw[if_neg (by simp[h]),if_neg (by simp[h])];exact⟨rfl,rfl⟩
theorem qqw {l:QB} {k e:Nat} (he:k+qp 1 (l.drop k)=e) (hn:e≠k) (h:(l[e]? == some 46)=false∨((l[e]? == some 46)=true∧clsB l (e+1) 1=false)):qbf l 1 [46] k=[(k,e)]:=by
 rcases h with h|⟨h1,h2⟩
 ·refine qkh l 1 _ k e he hn (fun c hc=>?_);rw[hc]at h;simpa using h
 ·rw[qhg l 1 _ k e he hn 46 (by simpa using h1) rfl,qhk l 1 _ (e+1) ((qgz l (e+1) 1).2 h2)]
theorem qbpd {l:QB} {k e:Nat} (he:k+qp 1 (l.drop k)=e) (hn:e≠k) (h1:(l[e]? == some 46)=true):qbf l 1 [46] k=(k,e)::qbf l 1 [46] (e+1):=
 qhg l 1 _ k e he hn 46 (by simpa using h1) rfl
theorem qxx (l:QB) (k:Nat) (h:qp 1 (l.drop k)≠0):qbt (seg l k (k+qp 1 (l.drop k)))=qr (seg l k (k+qp 1 (l.drop k))):=by
 have hd:digB (seg l k (k+qp 1 (l.drop k)))=true:=by
  have hle:=qhx 1 (l.drop k);have hlen:(seg l k (k+qp 1 (l.drop k))).length=qp 1 (l.drop k):=by rw[qpn,List.length_take];omega
  unfold digB;rw[hlen,qpn,qbhn];simp only[BEq.rfl,Bool.and_true,Bool.not_eq_true',List.isEmpty_eq_false_iff,ne_eq];intro e;rw[qpn,e]at hlen;simp at hlen;omega
 unfold qbt;rw[if_pos hd]
theorem qbml (l:QB) (a:Nat):qhn l a=((l[a]? == some 45)&&clsB l (a+1) 1):=by
 unfold qhn;rw[qbbf,drop_0];cases h:(l[a]? == some 45)
 ·rfl
 ·have hm:qdg l a=true:=by
   have:l[a]? = some 45:=by simpa using h
   unfold qdg;rw[this];rfl
  rw[Bool.true_and,Bool.true_and];cases hc:clsB l (a+1) 1
  ·rw[(dig_f hm hc).2];rfl
  ·rw[(dig_t hm hc).2];have hr:qp 1 (l.drop (a+1))≠0:=fun h=>by rw[(qgz l (a+1) 1).1 h]at hc;cases hc
   have hle:=qhx 1 (l.drop (a+1));rw[qpn];simp only[Bool.not_eq_true',List.isEmpty_eq_false_iff,ne_eq,List.take_eq_nil_iff,not_or];exact⟨hr,fun e=>hr (by rw[e];rfl)⟩
theorem dash_dig {l:QB} {a:Nat} (h:qhn l a=true):digP l a=a+1+qp 1 (l.drop (a+1))∧digT l a=seg l (a+1) (a+1+qp 1 (l.drop (a+1)))∧clsB l (a+1) 1=true∧l[a]? = some 45:=by
 rw [qbml,Bool.and_eq_true]at h;have hm:qdg l a=true:=by
  have:l[a]? = some 45:=by simpa using h.1
  unfold qdg;rw[this];rfl
 obtain⟨e1,e2⟩:=dig_t hm h.2;exact⟨e1,e2,h.2,by simpa using h.1⟩
theorem qbdm (s:QY) (a:Nat) (c:UInt8) (h:a<s.size):(s.data.toList[a]? == some c)=((s[a].toNat:Int)==(c.toNat:Int)):=by
 rw[qbbn s a h,Bool.eq_iff_iff];simp only[beq_iff_eq,Option.some.injEq];constructor
 ·intro h;rw[h]
 ·intro h;exact UInt8.toNat_inj.1 (by omega)
theorem qrk (s:QY) (a:Nat) (c:UInt8) (h:¬ a<s.size):(s.data.toList[a]? == some c)=false:=by rw[qbmh s a h];rfl
structure DV (w:World) (Q:Nat) (s:QY) (a:Nat) (e p:Int) (c0 c1 c2 c3 c4 c5 c6 c7 c8:Value) (xs ys:List Value) (W:World):Prop where
 bel:Below w.heap.size w W
 res:W.heap[w.heap.size]? = some (.cells #[.string ⟨#[]⟩,.slice none 0 0,.int .u8 0,.string ⟨#[]⟩,.bool false,.string ⟨#[]⟩,.bool false,.string ⟨#[]⟩,.slice none 0 0] 44 (0,0))
 fau:W.heap[w.heap.size+1]? = some (.cells #[.int .i64 0,.int .i64 0] 25 (0,0))
 lt:w.heap.size+1<Q
 rd:DrAt W Q s a e p
 ver:W.heap[Q+1]? = some (.cells #[c0,c1,c2,c3,c4,c5,c6,c7,c8] 44 (0,0))
 rel:W.ownsRow (Q+2) 9 1 c1 xs.length xs
 loc:W.ownsRow (Q+2) 9 1 c8 ys.length ys
section
variable {w:World} {Q:Nat} {s:ByteArray} {a a':Nat} {e p e' p':Int} {c0 c1 c2 c3 c4 c5 c6 c7 c8:Value} {xs ys:List Value} {W W':World}
theorem DV.szQ (h:DV w Q s a e p c0 c1 c2 c3 c4 c5 c6 c7 c8 xs ys W):Q+1<W.heap.size:=(Array.getElem?_eq_some_iff.1 h.ver).1
theorem DV.turn (h:DV w Q s a e p c0 c1 c2 c3 c4 c5 c6 c7 c8 xs ys W) (t:Turn Q W W') (r:DrAt W' Q s a' e' p'):DV w Q s a' e' p' c0 c1 c2 c3 c4 c5 c6 c7 c8 xs ys W':=by
 have hq:=h.szQ;have hl:=h.lt;refine⟨h.bel.trans (t.below (by omega) h.bel.size),(t.block _ (by omega) (by omega)).trans h.res,(t.block _ (by omega) (by omega)).trans h.fau,hl,r,(t.block _ hq (by omega)).trans h.ver,qbc h.rel t (by omega),qbc h.loc t (by omega)⟩
theorem DV.drewN (h:DV w Q s a e p c0 c1 c2 c3 c4 c5 c6 c7 c8 xs ys W) (n:Nat):DV w Q s a e p c0 c1 c2 c3 c4 c5 c6 c7 c8 xs ys (W.drewN n):=h.turn (Turn.drewN _ _ _) (h.rd.drewN _)
theorem DV.alloc (h:DV w Q s a e p c0 c1 c2 c3 c4 c5 c6 c7 c8 xs ys W) (o:Obj):DV w Q s a e p c0 c1 c2 c3 c4 c5 c6 c7 c8 xs ys (W.alloc o):=h.turn (Turn.ofBelow ((Below.refl _ W).alloc (Nat.le_refl _) o)) (h.rd.below ((Below.refl _ W).alloc (Nat.le_refl _) o))
theorem DV.seen (h:DV w Q s a e p c0 c1 c2 c3 c4 c5 c6 c7 c8 xs ys W):W.cell? ⟨Q+1,0,none⟩=some c0∧W.cell? ⟨Q+1,1,none⟩=some c1∧W.cell? ⟨Q+1,2,none⟩=some c2∧W.cell? ⟨Q+1,3,none⟩=some c3∧W.cell? ⟨Q+1,4,none⟩=some c4∧W.cell? ⟨Q+1,5,none⟩=some c5∧W.cell? ⟨Q+1,6,none⟩=some c6∧W.cell? ⟨Q+1,7,none⟩=some c7∧W.cell? ⟨Q+1,8,none⟩=some c8:=qdm h.ver
theorem DV.free (h:DV w Q s a e p c0 c1 c2 c3 c4 c5 c6 c7 c8 xs ys W) (o:Nat):W.frozen? ⟨Q+1,o,none⟩=false:=qf o h.ver
theorem DV.set (h:DV w Q s a e p c0 c1 c2 c3 c4 c5 c6 c7 c8 xs ys W) (o:Nat) (u:Value) {d0 d2 d3 d4 d5 d6 d7:Value} (hd:(#[c0,c1,c2,c3,c4,c5,c6,c7,c8]:Array Value).setIfInBounds o u=#[d0,c1,d2,d3,d4,d5,d6,d7,c8]):DV w Q s a e p d0 c1 d2 d3 d4 d5 d6 d7 c8 xs ys (W.setCell ⟨Q+1,o,none⟩ u):=by
 have hq:=h.szQ;have hl:=h.lt;have t:Turn (Q+1) W (W.setCell ⟨Q+1,o,none⟩ u):=Turn.set _ _ _ _;refine⟨h.bel.trans (t.below (by omega) h.bel.size),(t.block _ (by omega) (by omega)).trans h.res,(t.block _ (by omega) (by omega)).trans h.fau,hl,(t.block _ (by omega) (by omega)).trans h.rd,?_,qbc h.rel t (by omega),qbc h.loc t (by omega)⟩
 have:=qw o u h.ver;rw[hd]at this;exact this
theorem DV.setRel {ao ao':Option Addr} {n n' cv cv':Nat} {S S':List QB} (h:DV w Q s a e p c0 (.slice ao n cv) c2 c3 c4 c5 c6 c7 c8 (txsV S) ys W) (hn:n=S.length) (hg:W.grownBy W' (ao.map (·.block))) (ho:W'.ownsRow (Q+2) 9 1 (.slice ao' n' cv') n' (txsV S')) (hn':n'=S'.length) (hy:ys=[]) (h8:c8=.slice none 0 0) :
  DV w Q s a e p c0 (.slice ao' n' cv') c2 c3 c4 c5 c6 c7 c8 (txsV S') ys (W'.setCell ⟨Q+1,1,none⟩ (.slice ao' n' cv')):=by
 have hq:=h.szQ;have hl:=h.lt;have hs:=hg.size;have hr:=h.rel;rw[qmn,←hn]at hr;have hblk:∀ k,k<Q+2→k<W.heap.size→W'.heap[k]? = W.heap[k]?:=fun k hk hkw=>hg.block k hkw (fun e=>by have:=(qkz hr k e.symm).1;omega)
 have t:Turn (Q+1) W' (W'.setCell ⟨Q+1,1,none⟩ (.slice ao' n' cv')):=Turn.set _ _ _ _;have hbl:Below w.heap.size w W':=⟨hg.os.trans h.bel.os,hg.tape.trans h.bel.tape,hg.output.trans h.bel.output,Nat.le_trans h.bel.size hg.size,fun k hk=>(hblk k (by omega) (Nat.lt_of_lt_of_le hk h.bel.size)).trans (h.bel.block k hk)⟩
 refine⟨hbl.trans (t.below (by omega) hbl.size),(t.block _ (by omega) (by omega)).trans ((hblk _ (by omega) (by omega)).trans h.res),(t.block _ (by omega) (by omega)).trans ((hblk _ (by omega) (by omega)).trans h.fau),hl,(t.block _ (by omega) (by omega)).trans ((hblk _ (by omega) (by omega)).trans h.rd),?_,?_,?_⟩
 ·have:=qw 1 (.slice ao' n' cv') ((hblk _ (by omega) hq).trans h.ver)
  exact this
 ·rw[qmn,←hn'];exact qbc ho t (by omega)
 ·subst hy h8;exact World.ownsRow_nil _ _ _ _
theorem DV.setLoc {v:Value} {zs:List Value} {b:Nat} (h:DV w Q s a e p c0 c1 c2 c3 c4 c5 c6 c7 c8 xs ys W) (ho:W.ownsRow b 9 1 v zs.length zs) (hb:Q+2≤b):DV w Q s a e p c0 c1 c2 c3 c4 c5 c6 c7 v xs zs (W.setCell ⟨Q+1,8,none⟩ v):=by
 have hq:=h.szQ;have hl:=h.lt;have t:Turn (Q+1) W (W.setCell ⟨Q+1,8,none⟩ v):=Turn.set _ _ _ _;refine⟨h.bel.trans (t.below (by omega) h.bel.size),(t.block _ (by omega) (by omega)).trans h.res,(t.block _ (by omega) (by omega)).trans h.fau,hl,(t.block _ (by omega) (by omega)).trans h.rd,?_,qbc h.rel t (by omega),qbc (qfk ho hb) t (by omega)⟩
 exact qw 8 v h.ver
end
end Go.Proofs.YtabmfdedbpmfmaaGreat
