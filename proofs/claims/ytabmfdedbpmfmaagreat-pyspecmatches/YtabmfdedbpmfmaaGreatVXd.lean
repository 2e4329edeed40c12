/- Walks: the document's reader: the local part. -/
import Derived.Laws.AppendOwnNone
import Derived.Test.YtabmfdedbpmfmaaGreatVPi
import Derived.Test.YtabmfdedbpmfmaaGreatVPp
import Derived.Test.YtabmfdedbpmfmaaGreatVXc
namespace Go.Proofs.YtabmfdedbpmfmaaGreat
open Go.RowKit Go.Shelf
open Calls renaming quiet_of_same → qbts
open Nat renaming le_refl → qbtm
open Go renaming World → QW
set_option linter.unusedVariables false
set_option maxHeartbeats 8000000
set_option maxRecDepth 100000
def txsV (S:List QB):List Value:=S.map fun t=>.string (qd t)
theorem qlx (S:List QB):(txsV S).length=S.length:=List.length_map _
theorem qqp (S R:List QB):txsV (S++R)=txsV S++txsV R:=List.map_append
theorem txsV_one (R:List QB):∀ u∈txsV R,u.oneCell'=true:=by
 intro u hu;obtain⟨t,_,rfl⟩:=List.mem_map.1 hu
 rfl
theorem inf9:∃ i,Tryz.prog.info? 9=some i∧i.zero=some (.string ⟨#[]⟩)∧i.bytes=16∧i.size=1:=by
 cases h:Tryz.prog.info? 9 with
 | none=>exact absurd (show(Tryz.prog.info? 9).isSome=true by kernel_rfl) (by rw[h];simp)
 | some i=>
  refine⟨i,rfl,?_,?_,?_⟩
  ·have:(Tryz.prog.info? 9).bind (fun i=>i.zero)=some (.string ⟨#[]⟩):=by kernel_rfl
   rwa [h]at this
  ·have:(Tryz.prog.info? 9).map (fun i=>i.bytes)=some 16:=by kernel_rfl
   rw[h]at this;simpa using this
  ·have:(Tryz.prog.info? 9).map (fun i=>i.size)=some 1:=by kernel_rfl
   rw[h]at this;simpa using this
theorem qgp {W:QW} {B n:Nat} {v:Value} {xs:List Value} (h:W.ownsRow B 9 1 v n xs):∃ ao cv,v=.slice ao n cv:=by
 rcases h.2 with ⟨h,h0⟩|⟨g,cap,cur,h1,_⟩
 ·exact⟨none,0,by rw[h,h0]⟩
 ·exact⟨_,_,h1⟩
theorem qgl (ao:Option Addr) (n cv:Nat):(Value.slice ao n cv).ownBlock=ao.map (·.block):=by cases ao<;>rfl
theorem qkz (w:QW) (e:TypeId) (x:QB):∀ j u,(txsV [x])[j]? = some u→(w.alloc (.cells #[.string (qd x)] e)).cell? ((⟨w.heap.size,0,none⟩:Addr).add j)=some u:=by
 intro j u hj;have h:=fun j=>World.cell?_alloc_mark w #[.string (qd x)] e (0,0) j
 match j,hj with
 | 0,hj=>simp[txsV]at hj;subst hj;exact h 0
theorem qll {W:QW} {B n cv:Nat} {ao:Option Addr} {xs:List Value} (h:W.ownsRow B 9 1 (.slice ao n cv) n xs):∀ k,ao.map (·.block)=some k→B≤k∧k<W.heap.size:=fun k hk=>h.lt k (by rw[qgl];exact hk)
theorem qnb {w:QW} {ops:Array Oper} {rest:List Oper} {o:Oper} {a:Act} {Q:Exit→Act→QW→Prop} (hgd:o.guard=none) (s x:Operand)
  (ho:o.op=.call { callee:=.builtin .append,args:=#[s,x],argTypes:=#[37,37] })
  (B:Nat) (ao:Option Addr) (n cv:Nat) (S:List QB) (hs:a.eval s=.slice ao n cv) (hown:w.ownsRow B 9 1 (.slice ao n cv) n (txsV S))
  (bo:Option Addr) (m c:Nat) (R:List QB) (hx:a.eval x=.slice bo m c) (hR:R.length=m)
  (hnone:bo=none→m=0∧c=0) (hc:∀ ad,bo=some ad→∀ j u,(txsV R)[j]? = some u→w.cell? (ad.add j)=some u) (hb:n+m≤4194304) (hB:B≤w.heap.size)
  (h:∀ ao' cv' w',w'.ownsRow B 9 1 (.slice ao' (n+m) cv') (n+m) (txsV (S++R))→w.grownBy w' (ao.map (·.block))→wpList Tryz.prog ops Q rest (a.put o.dst (.slice ao' (n+m) cv')) w') :
  wpList Tryz.prog ops Q (o::rest) a w:=by
 obtain⟨i0,hi,hz0,hz2,hz1⟩:=inf9;cases bo with
 | none=>
  obtain⟨rfl,rfl⟩:=hnone rfl;obtain rfl:R=[]:=List.length_eq_zero_iff.1 hR;refine wpList_append_own_none hgd s x 37 ho B 9 i0 1 Tryz.underlying37 hi _ n _ hs hown hx ?_;have:=h ao cv w (by simpa using hown) (World.grownBy.refl _ _)
  simpa using this
 | some ad=>
  refine wpList_append_own _ hgd s x 37 ho B 9 i0 (.string ⟨#[]⟩) 1 16 Tryz.underlying37 hi hz0 hz1 hz2 rfl (by decide) _ n _ hs hown ad m c (txsV R) hx (by rw[qlx,hR];omega) (hc ad rfl) (txsV_one R) (by unfold maxLen;omega) (by omega) hB ?_
  intro v' w' h1 h2 _;obtain⟨ao',cv',rfl⟩:=qgp h1;rw[qgl]at h2;exact h ao' cv' w' (by rw[qqp];exact h1) h2
theorem qtq (l:QB) (xs:List (Nat×Nat)):vals l xs=txsV (rowL l xs):=by simp[vals,txsV,rowL]
theorem DrAt.grown {W W':QW} {B n:Nat} {s:QY} {a:Nat} {e p:Int} {ao:Option Addr} {cv base:Nat} {xs:List Value} (h:DrAt W B s a e p) (hg:W.grownBy W' (ao.map (·.block))) (ho:W.ownsRow base 9 1 (.slice ao n cv) n xs) (hB:B<base):DrAt W' B s a e p:=
 (hg.block B h.lt (fun e'=>by have:=(qll ho B e'.symm).1;omega)).trans h
theorem Turn.grownR {W W' w:QW} {B n cv base:Nat} {ao:Option Addr} {xs:List Value} (h:Turn B w W) (hg:W.grownBy W' (ao.map (·.block))) (ho:W.ownsRow base 9 1 (.slice ao n cv) n xs) (hb:w.heap.size≤base):Turn B w W':=
 qnw h hg (fun k hk=>by have:=(qll ho k hk).1;omega)
def qblb (W:QW) (B:Nat):Nat:=(intOf ((W.cell? ⟨B,1,none⟩).getD (.int .i64 0))).toNat
theorem DrAt.dplace {W:QW} {B:Nat} {s:QY} {a:Nat} {e p:Int} (h:DrAt W B s a e p):qblb W B=a:=by
 unfold Go.Proofs.YtabmfdedbpmfmaaGreat.qblb;rw[(h.seen).2.1];simp[intOf]
theorem qxz (c:UInt8):([45,95,46]:QB).contains c=qgc c:=by
 unfold qgc;simp only[List.contains_cons,List.contains_nil,Bool.or_false];rw[Bool.or_assoc]
theorem qxq {l:QB} {e:Nat} (h:qdg l e=true):∃ c,l[e]? = some c∧([45,95,46]:QB).contains c=true:=by
 unfold qdg at h;cases hl:l[e]? with
 | none=>rw[hl]at h;simp at h
 | some c=>rw[hl]at h;exact⟨c,rfl,by rw[qxz];simpa using h⟩
theorem mark_no {l:QB} {e:Nat} (h:qdg l e=false):∀ c,l[e]? = some c→([45,95,46]:QB).contains c=false:=by
 intro c hc;unfold qdg at h;rw[hc]at h;rw[qxz];simpa using h
theorem qng {l:QB} {k e:Nat} (he:k+qn 5 (l.drop k)=e) (hn:e≠k) (h:qdg l e=false∨(qdg l e=true∧clsB l (e+1) 5=false)):qbf l 5 [45,95,46] k=[(k,e)]:=by
 rcases h with h|⟨h1,h2⟩
 ·exact qkq l 5 _ k e he hn (mark_no h)
 ·obtain⟨c,hc,hs⟩:=qxq h1;rw[qhl l 5 _ k e he hn c hc hs,qgq l 5 _ (e+1) ((qhd l (e+1) 5).2 h2)]
theorem qxt {l:QB} {k e:Nat} (he:k+qn 5 (l.drop k)=e) (hn:e≠k) (h1:qdg l e=true):qbf l 5 [45,95,46] k=(k,e)::qbf l 5 [45,95,46] (e+1):=by
 obtain⟨c,hc,hs⟩:=qxq h1;exact qhl l 5 _ k e he hn c hc hs
def LPost (s:QY) (b B:Nat) (p:Int) (w:QW) (r:Ending) (w':QW):Prop:=
 ∃ v,r=.returned v∧w'.ownsRow w.heap.size 9 1 v (qbf s.data.toList 5 [45,95,46] b).length (vals s.data.toList (qbf s.data.toList 5 [45,95,46] b)) ∧
  DrAt w' B s (qfk b (qbf s.data.toList 5 [45,95,46] b)) (if (qbf s.data.toList 5 [45,95,46] b).length=0 then misL s.size b else 0) (if (qbf s.data.toList 5 [45,95,46] b).length=0 then (b:Int) else p)∧Turn B w w'
theorem qbqx {s:QY} {b B:Nat} {p:Int} {w w':QW} (h:qbf s.data.toList 5 [45,95,46] b=[]) (h1:DrAt w' B s b (misL s.size b) (b:Int)) (h2:Turn B w w'):LPost s b B p w (.returned (.slice none 0 0)) w':=by
 refine⟨_,rfl,?_⟩;rw[h];exact⟨World.ownsRow_nil _ _ _ _,h1,h2⟩
theorem qqb {s:QY} {b B n:Nat} {p:Int} {w w':QW} {v:Value} {xs:List (Nat×Nat)} {x:Nat×Nat} {S:List QB} (h:qbf s.data.toList 5 [45,95,46] b=xs++[x]) (hS:rowL s.data.toList (xs++[x])=S) (hn:n=xs.length+1) (ho:w'.ownsRow w.heap.size 9 1 v n (txsV S)) (h1:DrAt w' B s x.2 0 p) (h2:Turn B w w'):LPost s b B p w (.returned v) w':=by
 refine⟨v,rfl,?_⟩;rw[h,if_neg (by simp),if_neg (by simp),qjx,qtq,hS]
 refine⟨?_,h1,h2⟩;rw[show(xs++[x]).length=n by simp[hn]]
 exact ho
theorem qblw (B:Nat) (s:QY) (a b:Nat) (hab:b=a+1) (p:Int) (w:QW) (h:DrAt w B s a 0 p) (ha:a<s.size) (hs:s.size≤64) :
  Calls Tryz.prog 59 #[.pointer (some ⟨B,0,none⟩)] w (LPost s b B p w):=by
 obtain ⟨c0,c1,c2,c3,f1,f2,f3⟩:=h.seen;have hBl:=h.lt;have H:=qb h;clear h;have hlen:(qbf s.data.toList 5 [45,95,46] b).length≤64:=by
  have:=qjv s.data.toList 5 [45,95,46] _ b rfl;rw[qg]at this;omega
 have hwr:IntKind.i64.wrap (b:Int)=(b:Int):=by rw[IntKind.wrap_i64];omega
 have hab':(a:Int)+1=(b:Int):=by omega
 have hbs:b≤s.size:=by omega
 clear hab;have HLE:Hid (∀ k done,done++qbf s.data.toList 5 [45,95,46] k=qbf s.data.toList 5 [45,95,46] b→done.length≤64):=fun k done h=>by
  have:=congrArg List.length h;rw[List.length_append]at this;omega
 clear hlen;go_enter Tryz.func59,Tryz.ntmps59
 (go_wp2_with fail);clear c0 c1 c2 c3 f1 f2 f3;go_loopw [3] (fun v wr=>∃ (k:Nat) (done:List (Nat×Nat)) (ao:Option Addr) (cv:Nat),v=.slice ao done.length cv∧b≤k∧k≤s.size∧DrAt wr B s k 0 p∧Turn B w wr∧Hid (wr.ownsRow w.heap.size 9 1 (.slice ao done.length cv) done.length (vals s.data.toList done))∧Hid (done++qbf s.data.toList 5 [45,95,46] k=qbf s.data.toList 5 [45,95,46] b)∧Hid ((done=[]∧k=b)∨clsB s.data.toList k 5=true)) (fun _ wr=>s.size-qblb wr B)
 case atStart=>
  exact⟨b,[],none,0,rfl,qbtm _,hbs,H.out.place b,Turn.set _ _ _ _,World.ownsRow_nil _ _ _ _,rfl,.inl ⟨rfl,rfl⟩⟩
 case round=>
  obtain⟨k,done,ao,cv,rfl,hak,hk,R,TU,HO,HL,HD⟩:=hrel;have hme:=R.dplace;have hdl:=HLE.out k done HL.out;have hr:=qds 5 s k hk;have HR:=qdl s k 5 hk;obtain⟨E,hE⟩:∃ E,k+qn 5 (s.data.toList.drop k)=E:=⟨_,rfl⟩;rw[hE]at hr;have hRI:runI s.data.toList (k:Int) 5=(E:Int):=by rw[HR,←hE];simp
  have R1:=qb (fun W=>qgx s (k:Int) 5 W (by unfold maxLen;omega))
  rw[hRI]at R1;clear hRI HR;obtain⟨c0,c1,c2,c3,f1,f2,f3⟩:=R.seen
  by_cases hz:E=k
  ·have hrun:qn 5 (s.data.toList.drop k)=0:=by omega
   have hd0:done=[]∧k=b:=by
    rcases HD.out with h|h
    ·exact h
    ·rw[(qhd _ _ _).1 hrun]at h;cases h
   obtain⟨rfl,hkb⟩:=hd0;have hbk:=hkb.symm;clear hkb;subst hbk;have HN:Hid (qbf s.data.toList 5 [45,95,46] b=[]):=qgq _ _ _ _ hrun;have FL:=qb (fun w h=>qrm B s b p w h hk hs);have hzE:=hz.symm;clear hz;subst hzE;have hb:((b:Int)==(b:Int))=true:=by simp
   clear HL HD HLE HO;(go_wp2_with fail);go_quiet (first|(go_at_call 52;exact qbts (R1.out _))|fail)
   generalize hn1:wr.drewN nq=w1 at *;have H1:DrAt w1 B s b 0 p:=by rw[←hn1];exact R.drewN _
   have T1:Turn B w w1:=by rw[←hn1];exact TU.trans (Turn.drewN _ _ _)
   clear hn1 c0 c1 c2 c3 f1 f2 f3;obtain⟨c0,c1,c2,c3,f1,f2,f3⟩:=H1.seen;(go_wp2_with fail);refine(FL.out _ H1).mono ?_;rintro r w2 ⟨rfl,h2,t2⟩;(go_wp2_with fail);go_ret
   exact qbqx HN.out h2 (T1.trans t2)
  ·have hb:((E:Int)==(k:Int))=false:=by simp;omega
   have i0:(0:Int)≤(k:Int):=Int.natCast_nonneg _;have i1:(k:Int)≤(E:Int):=by omega
   have i2:(E:Int)≤(s.size:Int):=by omega
   have hsg:(s.extract k E).size=E-k:=by rw[qfr,qr,qpn _ _ _ (by rw[qg];omega)]
   have R2:=fun W=>qgx (s.extract k E) 0 1 W (by unfold maxLen;omega)
   rw[show runI (s.extract k E).data.toList 0 1=((qn 1 (seg s.data.toList k E):Nat):Int) by have:=qdl (s.extract k E) 0 1 (Nat.zero_le _);rw[qdd]at this ⊢;simpa using this]at R2
   have TM:=fun w=>qjq (s.extract k E) w (by unfold maxLen;omega)
   rw[qdd]at TM;have hsl:(seg s.data.toList k E).length=E-k:=qpn _ _ _ (by rw[qg];omega)
   have hdg:digB (seg s.data.toList k E)=decide (qn 1 (seg s.data.toList k E)=E-k):=by
    unfold digB;have hne:(seg s.data.toList k E).isEmpty=false:=by
     rw[Bool.eq_false_iff];intro h;rw[List.isEmpty_iff]at h;rw[h]at hsl;simp at hsl;omega
    rw[hne,hsl,Bool.eq_iff_iff];simp
   have HPL:Hid (qbt (seg s.data.toList k E)=if digB (seg s.data.toList k E) then qp (seg s.data.toList k E) else seg s.data.toList k E):=rfl;have HSE:Hid (qd (seg s.data.toList k E)=s.extract k E):=by show _=_;rw[qfr]
   have HRL:Hid (rowL s.data.toList (done++[(k,E)])=rowL s.data.toList done++[qbt (seg s.data.toList k E)]):=by simp[rowL,Hid]
   have HRW:=qb (qtq s.data.toList);have hrl:(rowL s.data.toList done).length=done.length:=by simp[rowL]
   have HEE:=qb hE;have HNE:Hid (E≠k):=hz;have hkE:k<E:=by omega
   have M0:=qb (fun w h=>qmc B s E 0 p 0 w h hr (by omega) hs)
   have I1:=qb (fun w h=>qdz B s E 0 p 1 5 w h hr (by omega) hs)
   simp only[Nat.add_zero]at M0;have R2:=qb R2;have TM:=qb TM;clear hE hz HD;generalize hsgm:seg s.data.toList k E=g at *;clear hsgm;cases hdb:digB g
   ·have HPT:Hid (qd (qbt g)=s.extract k E):=by show _=_;rw[HPL.out,hdb];exact HSE.out
    rw [hdb]at hdg;have hdg2:(((qn 1 g:Nat):Int)==((s.extract k E).size:Int))=false:=by
     rw[hsg];have:=of_decide_eq_false hdg.symm;rw[beq_eq_false_iff_ne];omega
    clear hdg hdb HPL HSE;generalize ((qn 1 g:Nat):Int)=rq at *;cases hm:qdg s.data.toList E
    ·rw [hm]at M0;have HLA:Hid (qbf s.data.toList 5 [45,95,46] k=[(k,E)]):=qng HEE.out HNE.out (.inl hm);clear hm I1 HLE;(go_wp2_with fail);go_quiet (first|(go_at_call 52;exact qbts (R1.out _))|fail)
     generalize hn1:wr.drewN nq=w1 at *;have H1:DrAt w1 B s k 0 p:=by rw[←hn1];exact R.drewN _
     have T1:Turn B w w1:=by rw[←hn1];exact TU.trans (Turn.drewN _ _ _)
     have O1:Hid (w1.ownsRow w.heap.size 9 1 (.slice ao done.length cv) done.length (txsV (rowL s.data.toList done))):=by rw[←hn1,←HRW.out];exact qbc HO.out (Turn.drewN _ _ _) hBl
     clear hn1 c0 c1 c2 c3 f1 f2 f3;obtain⟨c0,c1,c2,c3,f1,f2,f3⟩:=H1.seen;(go_wp2_with fail);go_quiet (fail)
     generalize hn2:w1.drewN nq=w2 at *;have H2:DrAt w2 B s k 0 p:=by rw[←hn2];exact H1.drewN _
     have T2:Turn B w w2:=by rw[←hn2];exact T1.trans (Turn.drewN _ _ _)
     have O2:Hid (w2.ownsRow w.heap.size 9 1 (.slice ao done.length cv) done.length (txsV (rowL s.data.toList done))):=by rw[←hn2];exact qbc O1.out (Turn.drewN _ _ _) hBl
     clear hn2 c0 c1 c2 c3 f1 f2 f3 H1 T1 O1;generalize hP:s.extract k E=P at *;clear hP;(go_wp2_with fail);refine(R2.out _).mono ?_;rintro r w' ⟨rfl,hw'⟩;rw[hw'];clear hw' w';rw[←HPT.out]at hdg2 ⊢;have hsz2:w.heap.size≤w2.heap.size:=T2.size;go_wp2_with (first
      | (at_builtin;refine qnb rfl (.tmp 47) (.tmp 49) rfl w.heap.size ao done.length cv (rowL s.data.toList done) rfl (O2.out.alloc _) (some ⟨w2.heap.size,0,none⟩) 1 1 [qbt g] rfl rfl (fun h=>by cases h) (fun ad h=>by cases h;exact qkz _ _ _) (by omega) (by simp;omega) ?_;intro ao3 cv3 w3 own3 grow3;have H3:DrAt w3 B s k 0 p:=DrAt.grown (H2.below ((Below.refl _ w2).alloc (qbtm _) _)) grow3 (O2.out.alloc _) hBl;have T3:Turn B w w3:=Turn.grownR (T2.alloc _) grow3 (O2.out.alloc _) (qbtm _);obtain⟨c0,c1,c2,c3,f1,f2,f3⟩:=H3.seen)
      | fail)
     have H4:=H3.place E;have T4:Turn B w _:=T3.trans (Turn.set B 1 w3 (.int .i64 (E:Int)));have O4:=qbc own3 (Turn.set B 1 w3 (.int .i64 (E:Int))) hBl;generalize w3.setCell ⟨B,1,none⟩ (.int .i64 (E:Int))=w4 at *;clear c0 c1 c2 c3 f1 f2 f3 H3 T3 own3 grow3;refine(M0.out _ H4).mono ?_;rintro r w5 ⟨rfl,n5,hw5⟩;have H5:DrAt w5 B s E 0 p:=by rw[hw5];exact H4.drewN _
     have T5:Turn B w w5:=by rw[hw5];exact T4.trans (Turn.drewN _ _ _)
     have O5:=qbc O4 (Turn.drewN B w4 n5) hBl;rw[←hw5]at O5;clear hw5 H4 T4 O4;(go_wp2_with fail);go_ret
     exact qqb (by rw[←HL.out,HLA.out]) HRL.out rfl O5 H5 T5
    ·rw [hm]at M0;cases hc:clsB s.data.toList (E+1) 5
     ·rw [hc]at I1;have HLA:Hid (qbf s.data.toList 5 [45,95,46] k=[(k,E)]):=qng HEE.out HNE.out (.inr ⟨hm,hc⟩);clear hm hc HLE;(go_wp2_with fail);go_quiet (first|(go_at_call 52;exact qbts (R1.out _))|fail)
      generalize hn1:wr.drewN nq=w1 at *;have H1:DrAt w1 B s k 0 p:=by rw[←hn1];exact R.drewN _
      have T1:Turn B w w1:=by rw[←hn1];exact TU.trans (Turn.drewN _ _ _)
      have O1:Hid (w1.ownsRow w.heap.size 9 1 (.slice ao done.length cv) done.length (txsV (rowL s.data.toList done))):=by rw[←hn1,←HRW.out];exact qbc HO.out (Turn.drewN _ _ _) hBl
      clear hn1 c0 c1 c2 c3 f1 f2 f3;obtain⟨c0,c1,c2,c3,f1,f2,f3⟩:=H1.seen;(go_wp2_with fail);go_quiet (fail)
      generalize hn2:w1.drewN nq=w2 at *;have H2:DrAt w2 B s k 0 p:=by rw[←hn2];exact H1.drewN _
      have T2:Turn B w w2:=by rw[←hn2];exact T1.trans (Turn.drewN _ _ _)
      have O2:Hid (w2.ownsRow w.heap.size 9 1 (.slice ao done.length cv) done.length (txsV (rowL s.data.toList done))):=by rw[←hn2];exact qbc O1.out (Turn.drewN _ _ _) hBl
      clear hn2 c0 c1 c2 c3 f1 f2 f3 H1 T1 O1;generalize hP:s.extract k E=P at *;clear hP;(go_wp2_with fail);refine(R2.out _).mono ?_;rintro r w' ⟨rfl,hw'⟩;rw[hw'];clear hw' w';rw[←HPT.out]at hdg2 ⊢;have hsz2:w.heap.size≤w2.heap.size:=T2.size;go_wp2_with (first
       | (at_builtin;refine qnb rfl (.tmp 47) (.tmp 49) rfl w.heap.size ao done.length cv (rowL s.data.toList done) rfl (O2.out.alloc _) (some ⟨w2.heap.size,0,none⟩) 1 1 [qbt g] rfl rfl (fun h=>by cases h) (fun ad h=>by cases h;exact qkz _ _ _) (by omega) (by simp;omega) ?_;intro ao3 cv3 w3 own3 grow3;have H3:DrAt w3 B s k 0 p:=DrAt.grown (H2.below ((Below.refl _ w2).alloc (qbtm _) _)) grow3 (O2.out.alloc _) hBl;have T3:Turn B w w3:=Turn.grownR (T2.alloc _) grow3 (O2.out.alloc _) (qbtm _);obtain⟨c0,c1,c2,c3,f1,f2,f3⟩:=H3.seen)
       | fail)
      have H4:=H3.place E;have T4:Turn B w _:=T3.trans (Turn.set B 1 w3 (.int .i64 (E:Int)));have O4:=qbc own3 (Turn.set B 1 w3 (.int .i64 (E:Int))) hBl;generalize w3.setCell ⟨B,1,none⟩ (.int .i64 (E:Int))=w4 at *;clear c0 c1 c2 c3 f1 f2 f3 H3 T3 own3 grow3;refine(M0.out _ H4).mono ?_;rintro r w5 ⟨rfl,n5,hw5⟩;have H5:DrAt w5 B s E 0 p:=by rw[hw5];exact H4.drewN _
      have T5:Turn B w w5:=by rw[hw5];exact T4.trans (Turn.drewN _ _ _)
      have O5:=qbc O4 (Turn.drewN B w4 n5) hBl;rw[←hw5]at O5;clear hw5 H4 T4 O4;(go_wp2_with fail);refine(I1.out _ H5).mono ?_;rintro r w6 ⟨rfl,n6,hw6⟩;have H6:DrAt w6 B s E 0 p:=by rw[hw6];exact H5.drewN _
      have T6:Turn B w w6:=by rw[hw6];exact T5.trans (Turn.drewN _ _ _)
      have O6:=qbc O5 (Turn.drewN B w5 n6) hBl;rw[←hw6]at O6;clear hw6 H5 T5 O5;(go_wp2_with fail);go_ret
      exact qqb (by rw[←HL.out,HLA.out]) HRL.out rfl O6 H6 T6
     ·rw [hc]at I1;have hE1:E+1<s.size:=by
       by_cases hl:E+1<s.size
       ·exact hl
       ·rw[qmr s _ _ hl]at hc;cases hc
      have HMR:Hid (qbf s.data.toList 5 [45,95,46] k=(k,E)::qbf s.data.toList 5 [45,95,46] (E+1)):=qxt HEE.out HNE.out hm;have HCL:=qb hc;clear hm hc HLE;(go_wp2_with fail);go_quiet (first|(go_at_call 52;exact qbts (R1.out _))|fail)
      generalize hn1:wr.drewN nq=w1 at *;have H1:DrAt w1 B s k 0 p:=by rw[←hn1];exact R.drewN _
      have T1:Turn B w w1:=by rw[←hn1];exact TU.trans (Turn.drewN _ _ _)
      have O1:Hid (w1.ownsRow w.heap.size 9 1 (.slice ao done.length cv) done.length (txsV (rowL s.data.toList done))):=by rw[←hn1,←HRW.out];exact qbc HO.out (Turn.drewN _ _ _) hBl
      clear hn1 c0 c1 c2 c3 f1 f2 f3;obtain⟨c0,c1,c2,c3,f1,f2,f3⟩:=H1.seen;(go_wp2_with fail);go_quiet (fail)
      generalize hn2:w1.drewN nq=w2 at *;have H2:DrAt w2 B s k 0 p:=by rw[←hn2];exact H1.drewN _
      have T2:Turn B w w2:=by rw[←hn2];exact T1.trans (Turn.drewN _ _ _)
      have O2:Hid (w2.ownsRow w.heap.size 9 1 (.slice ao done.length cv) done.length (txsV (rowL s.data.toList done))):=by rw[←hn2];exact qbc O1.out (Turn.drewN _ _ _) hBl
      clear hn2 c0 c1 c2 c3 f1 f2 f3 H1 T1 O1;generalize hP:s.extract k E=P at *;clear hP;(go_wp2_with fail);refine(R2.out _).mono ?_;rintro r w' ⟨rfl,hw'⟩;rw[hw'];clear hw' w';rw[←HPT.out]at hdg2 ⊢;have hsz2:w.heap.size≤w2.heap.size:=T2.size;go_wp2_with (first
       | (at_builtin;refine qnb rfl (.tmp 47) (.tmp 49) rfl w.heap.size ao done.length cv (rowL s.data.toList done) rfl (O2.out.alloc _) (some ⟨w2.heap.size,0,none⟩) 1 1 [qbt g] rfl rfl (fun h=>by cases h) (fun ad h=>by cases h;exact qkz _ _ _) (by omega) (by simp;omega) ?_;intro ao3 cv3 w3 own3 grow3;have H3:DrAt w3 B s k 0 p:=DrAt.grown (H2.below ((Below.refl _ w2).alloc (qbtm _) _)) grow3 (O2.out.alloc _) hBl;have T3:Turn B w w3:=Turn.grownR (T2.alloc _) grow3 (O2.out.alloc _) (qbtm _);obtain⟨c0,c1,c2,c3,f1,f2,f3⟩:=H3.seen)
       | fail)
      have H4:=H3.place E;have T4:Turn B w _:=T3.trans (Turn.set B 1 w3 (.int .i64 (E:Int)));have O4:=qbc own3 (Turn.set B 1 w3 (.int .i64 (E:Int))) hBl;generalize w3.setCell ⟨B,1,none⟩ (.int .i64 (E:Int))=w4 at *;clear c0 c1 c2 c3 f1 f2 f3 H3 T3 own3 grow3;refine(M0.out _ H4).mono ?_;rintro r w5 ⟨rfl,n5,hw5⟩;have H5:DrAt w5 B s E 0 p:=by rw[hw5];exact H4.drewN _
      have T5:Turn B w w5:=by rw[hw5];exact T4.trans (Turn.drewN _ _ _)
      have O5:=qbc O4 (Turn.drewN B w4 n5) hBl;rw[←hw5]at O5;clear hw5 H4 T4 O4;(go_wp2_with fail);refine(I1.out _ H5).mono ?_;rintro r w6 ⟨rfl,n6,hw6⟩;have H6:DrAt w6 B s E 0 p:=by rw[hw6];exact H5.drewN _
      have T6:Turn B w w6:=by rw[hw6];exact T5.trans (Turn.drewN _ _ _)
      have O6:=qbc O5 (Turn.drewN B w5 n6) hBl;rw[←hw6]at O6;clear hw6 H5 T5 O5;obtain⟨c0,c1,c2,c3,f1,f2,f3⟩:=H6.seen;have hwE:IntKind.i64.wrap ((E:Int)+1)=(E:Int)+1:=by rw[IntKind.wrap_i64];omega
      (go_wp2_with fail);go_roundw
      case rel=>
       refine⟨E+1,done++[(k,E)],ao3,cv3,by simp,by omega,by omega,H6.step,T6.trans (Turn.set _ _ _ _),?_,?_,.inr HCL.out⟩
       ·have:=qbc O6 (Turn.set B 1 w6 (.int .i64 ((E:Int)+1))) hBl;show World.ownsRow _ _ _ _ _ _ _;rw[HRW.out,HRL.out];simpa using this
       ·show _=_;rw[List.append_assoc,←HL.out,HMR.out];rfl
      case measure=>
       rw[H6.step.dplace,hme];omega
   ·have HPT:Hid (qd (qbt g)=qd (qp g)):=by show _=_;rw[HPL.out,hdb];rfl
    rw [hdb]at hdg;have hdg2:(((qn 1 g:Nat):Int)==((s.extract k E).size:Int))=true:=by
     rw[hsg];have:=of_decide_eq_true hdg.symm;rw[this];simp
    clear hdg hdb HPL HSE;generalize ((qn 1 g:Nat):Int)=rq at *;cases hm:qdg s.data.toList E
    ·rw [hm]at M0;have HLA:Hid (qbf s.data.toList 5 [45,95,46] k=[(k,E)]):=qng HEE.out HNE.out (.inl hm);clear hm I1 HLE;(go_wp2_with fail);go_quiet (first|(go_at_call 52;exact qbts (R1.out _))|fail)
     generalize hn1:wr.drewN nq=w1 at *;have H1:DrAt w1 B s k 0 p:=by rw[←hn1];exact R.drewN _
     have T1:Turn B w w1:=by rw[←hn1];exact TU.trans (Turn.drewN _ _ _)
     have O1:Hid (w1.ownsRow w.heap.size 9 1 (.slice ao done.length cv) done.length (txsV (rowL s.data.toList done))):=by rw[←hn1,←HRW.out];exact qbc HO.out (Turn.drewN _ _ _) hBl
     clear hn1 c0 c1 c2 c3 f1 f2 f3;obtain⟨c0,c1,c2,c3,f1,f2,f3⟩:=H1.seen;(go_wp2_with fail);go_quiet (fail)
     generalize hn2:w1.drewN nq=w2 at *;have H2:DrAt w2 B s k 0 p:=by rw[←hn2];exact H1.drewN _
     have T2:Turn B w w2:=by rw[←hn2];exact T1.trans (Turn.drewN _ _ _)
     have O2:Hid (w2.ownsRow w.heap.size 9 1 (.slice ao done.length cv) done.length (txsV (rowL s.data.toList done))):=by rw[←hn2];exact qbc O1.out (Turn.drewN _ _ _) hBl
     clear hn2 c0 c1 c2 c3 f1 f2 f3 H1 T1 O1;generalize hP:s.extract k E=P at *;clear hP;(go_wp2_with fail);refine(R2.out _).mono ?_;rintro r w' ⟨rfl,hw'⟩;rw[hw'];clear hw' w';(go_wp2_with fail);refine(TM.out _).mono ?_;rintro r w' ⟨rfl,hw'⟩;rw[hw'];clear hw' w';rw[←HPT.out];have hsz2:w.heap.size≤w2.heap.size:=T2.size;go_wp2_with (first
      | (at_builtin;refine qnb rfl (.tmp 47) (.tmp 49) rfl w.heap.size ao done.length cv (rowL s.data.toList done) rfl (O2.out.alloc _) (some ⟨w2.heap.size,0,none⟩) 1 1 [qbt g] rfl rfl (fun h=>by cases h) (fun ad h=>by cases h;exact qkz _ _ _) (by omega) (by simp;omega) ?_;intro ao3 cv3 w3 own3 grow3;have H3:DrAt w3 B s k 0 p:=DrAt.grown (H2.below ((Below.refl _ w2).alloc (qbtm _) _)) grow3 (O2.out.alloc _) hBl;have T3:Turn B w w3:=Turn.grownR (T2.alloc _) grow3 (O2.out.alloc _) (qbtm _);obtain⟨c0,c1,c2,c3,f1,f2,f3⟩:=H3.seen)
      | fail)
     have H4:=H3.place E;have T4:Turn B w _:=T3.trans (Turn.set B 1 w3 (.int .i64 (E:Int)));have O4:=qbc own3 (Turn.set B 1 w3 (.int .i64 (E:Int))) hBl;generalize w3.setCell ⟨B,1,none⟩ (.int .i64 (E:Int))=w4 at *;clear c0 c1 c2 c3 f1 f2 f3 H3 T3 own3 grow3;refine(M0.out _ H4).mono ?_;rintro r w5 ⟨rfl,n5,hw5⟩;have H5:DrAt w5 B s E 0 p:=by rw[hw5];exact H4.drewN _
     have T5:Turn B w w5:=by rw[hw5];exact T4.trans (Turn.drewN _ _ _)
     have O5:=qbc O4 (Turn.drewN B w4 n5) hBl;rw[←hw5]at O5;clear hw5 H4 T4 O4;(go_wp2_with fail);go_ret
     exact qqb (by rw[←HL.out,HLA.out]) HRL.out rfl O5 H5 T5
    ·rw [hm]at M0;cases hc:clsB s.data.toList (E+1) 5
     ·rw [hc]at I1;have HLA:Hid (qbf s.data.toList 5 [45,95,46] k=[(k,E)]):=qng HEE.out HNE.out (.inr ⟨hm,hc⟩);clear hm hc HLE;(go_wp2_with fail);go_quiet (first|(go_at_call 52;exact qbts (R1.out _))|fail)
      generalize hn1:wr.drewN nq=w1 at *;have H1:DrAt w1 B s k 0 p:=by rw[←hn1];exact R.drewN _
      have T1:Turn B w w1:=by rw[←hn1];exact TU.trans (Turn.drewN _ _ _)
      have O1:Hid (w1.ownsRow w.heap.size 9 1 (.slice ao done.length cv) done.length (txsV (rowL s.data.toList done))):=by rw[←hn1,←HRW.out];exact qbc HO.out (Turn.drewN _ _ _) hBl
      clear hn1 c0 c1 c2 c3 f1 f2 f3;obtain⟨c0,c1,c2,c3,f1,f2,f3⟩:=H1.seen;(go_wp2_with fail);go_quiet (fail)
      generalize hn2:w1.drewN nq=w2 at *;have H2:DrAt w2 B s k 0 p:=by rw[←hn2];exact H1.drewN _
      have T2:Turn B w w2:=by rw[←hn2];exact T1.trans (Turn.drewN _ _ _)
      have O2:Hid (w2.ownsRow w.heap.size 9 1 (.slice ao done.length cv) done.length (txsV (rowL s.data.toList done))):=by rw[←hn2];exact qbc O1.out (Turn.drewN _ _ _) hBl
      clear hn2 c0 c1 c2 c3 f1 f2 f3 H1 T1 O1;generalize hP:s.extract k E=P at *;clear hP;(go_wp2_with fail);refine(R2.out _).mono ?_;rintro r w' ⟨rfl,hw'⟩;rw[hw'];clear hw' w';(go_wp2_with fail);refine(TM.out _).mono ?_;rintro r w' ⟨rfl,hw'⟩;rw[hw'];clear hw' w';rw[←HPT.out];have hsz2:w.heap.size≤w2.heap.size:=T2.size;go_wp2_with (first
       | (at_builtin;refine qnb rfl (.tmp 47) (.tmp 49) rfl w.heap.size ao done.length cv (rowL s.data.toList done) rfl (O2.out.alloc _) (some ⟨w2.heap.size,0,none⟩) 1 1 [qbt g] rfl rfl (fun h=>by cases h) (fun ad h=>by cases h;exact qkz _ _ _) (by omega) (by simp;omega) ?_;intro ao3 cv3 w3 own3 grow3;have H3:DrAt w3 B s k 0 p:=DrAt.grown (H2.below ((Below.refl _ w2).alloc (qbtm _) _)) grow3 (O2.out.alloc _) hBl;have T3:Turn B w w3:=Turn.grownR (T2.alloc _) grow3 (O2.out.alloc _) (qbtm _);obtain⟨c0,c1,c2,c3,f1,f2,f3⟩:=H3.seen)
       | fail)
      have H4:=H3.place E;have T4:Turn B w _:=T3.trans (Turn.set B 1 w3 (.int .i64 (E:Int)));have O4:=qbc own3 (Turn.set B 1 w3 (.int .i64 (E:Int))) hBl;generalize w3.setCell ⟨B,1,none⟩ (.int .i64 (E:Int))=w4 at *;clear c0 c1 c2 c3 f1 f2 f3 H3 T3 own3 grow3;refine(M0.out _ H4).mono ?_;rintro r w5 ⟨rfl,n5,hw5⟩;have H5:DrAt w5 B s E 0 p:=by rw[hw5];exact H4.drewN _
      have T5:Turn B w w5:=by rw[hw5];exact T4.trans (Turn.drewN _ _ _)
      have O5:=qbc O4 (Turn.drewN B w4 n5) hBl;rw[←hw5]at O5;clear hw5 H4 T4 O4;(go_wp2_with fail);refine(I1.out _ H5).mono ?_;rintro r w6 ⟨rfl,n6,hw6⟩;have H6:DrAt w6 B s E 0 p:=by rw[hw6];exact H5.drewN _
      have T6:Turn B w w6:=by rw[hw6];exact T5.trans (Turn.drewN _ _ _)
      have O6:=qbc O5 (Turn.drewN B w5 n6) hBl;rw[←hw6]at O6;clear hw6 H5 T5 O5;(go_wp2_with fail);go_ret
      exact qqb (by rw[←HL.out,HLA.out]) HRL.out rfl O6 H6 T6
     ·rw [hc]at I1;have hE1:E+1<s.size:=by
       by_cases hl:E+1<s.size
       ·exact hl
       ·rw[qmr s _ _ hl]at hc;cases hc
      have HMR:Hid (qbf s.data.toList 5 [45,95,46] k=(k,E)::qbf s.data.toList 5 [45,95,46] (E+1)):=qxt HEE.out HNE.out hm;have HCL:=qb hc;clear hm hc HLE;(go_wp2_with fail);go_quiet (first|(go_at_call 52;exact qbts (R1.out _))|fail)
      generalize hn1:wr.drewN nq=w1 at *;have H1:DrAt w1 B s k 0 p:=by rw[←hn1];exact R.drewN _
      have T1:Turn B w w1:=by rw[←hn1];exact TU.trans (Turn.drewN _ _ _)
      have O1:Hid (w1.ownsRow w.heap.size 9 1 (.slice ao done.length cv) done.length (txsV (rowL s.data.toList done))):=by rw[←hn1,←HRW.out];exact qbc HO.out (Turn.drewN _ _ _) hBl
      clear hn1 c0 c1 c2 c3 f1 f2 f3;obtain⟨c0,c1,c2,c3,f1,f2,f3⟩:=H1.seen;(go_wp2_with fail);go_quiet (fail)
      generalize hn2:w1.drewN nq=w2 at *;have H2:DrAt w2 B s k 0 p:=by rw[←hn2];exact H1.drewN _
      have T2:Turn B w w2:=by rw[←hn2];exact T1.trans (Turn.drewN _ _ _)
      have O2:Hid (w2.ownsRow w.heap.size 9 1 (.slice ao done.length cv) done.length (txsV (rowL s.data.toList done))):=by rw[←hn2];exact qbc O1.out (Turn.drewN _ _ _) hBl
      clear hn2 c0 c1 c2 c3 f1 f2 f3 H1 T1 O1;generalize hP:s.extract k E=P at *;clear hP;(go_wp2_with fail);refine(R2.out _).mono ?_;rintro r w' ⟨rfl,hw'⟩;rw[hw'];clear hw' w';(go_wp2_with fail);refine(TM.out _).mono ?_;rintro r w' ⟨rfl,hw'⟩;rw[hw'];clear hw' w';rw[←HPT.out];have hsz2:w.heap.size≤w2.heap.size:=T2.size;go_wp2_with (first
       | (at_builtin;refine qnb rfl (.tmp 47) (.tmp 49) rfl w.heap.size ao done.length cv (rowL s.data.toList done) rfl (O2.out.alloc _) (some ⟨w2.heap.size,0,none⟩) 1 1 [qbt g] rfl rfl (fun h=>by cases h) (fun ad h=>by cases h;exact qkz _ _ _) (by omega) (by simp;omega) ?_;intro ao3 cv3 w3 own3 grow3;have H3:DrAt w3 B s k 0 p:=DrAt.grown (H2.below ((Below.refl _ w2).alloc (qbtm _) _)) grow3 (O2.out.alloc _) hBl;have T3:Turn B w w3:=Turn.grownR (T2.alloc _) grow3 (O2.out.alloc _) (qbtm _);obtain⟨c0,c1,c2,c3,f1,f2,f3⟩:=H3.seen)
       | fail)
      have H4:=H3.place E;have T4:Turn B w _:=T3.trans (Turn.set B 1 w3 (.int .i64 (E:Int)));have O4:=qbc own3 (Turn.set B 1 w3 (.int .i64 (E:Int))) hBl;generalize w3.setCell ⟨B,1,none⟩ (.int .i64 (E:Int))=w4 at *;clear c0 c1 c2 c3 f1 f2 f3 H3 T3 own3 grow3;refine(M0.out _ H4).mono ?_;rintro r w5 ⟨rfl,n5,hw5⟩;have H5:DrAt w5 B s E 0 p:=by rw[hw5];exact H4.drewN _
      have T5:Turn B w w5:=by rw[hw5];exact T4.trans (Turn.drewN _ _ _)
      have O5:=qbc O4 (Turn.drewN B w4 n5) hBl;rw[←hw5]at O5;clear hw5 H4 T4 O4;(go_wp2_with fail);refine(I1.out _ H5).mono ?_;rintro r w6 ⟨rfl,n6,hw6⟩;have H6:DrAt w6 B s E 0 p:=by rw[hw6];exact H5.drewN _
      have T6:Turn B w w6:=by rw[hw6];exact T5.trans (Turn.drewN _ _ _)
      have O6:=qbc O5 (Turn.drewN B w5 n6) hBl;rw[←hw6]at O6;clear hw6 H5 T5 O5;obtain⟨c0,c1,c2,c3,f1,f2,f3⟩:=H6.seen;have hwE:IntKind.i64.wrap ((E:Int)+1)=(E:Int)+1:=by rw[IntKind.wrap_i64];omega
      (go_wp2_with fail);go_roundw
      case rel=>
       refine⟨E+1,done++[(k,E)],ao3,cv3,by simp,by omega,by omega,H6.step,T6.trans (Turn.set _ _ _ _),?_,?_,.inr HCL.out⟩
       ·have:=qbc O6 (Turn.set B 1 w6 (.int .i64 ((E:Int)+1))) hBl;show World.ownsRow _ _ _ _ _ _ _;rw[HRW.out,HRL.out];simpa using this
       ·show _=_;rw[List.append_assoc,←HL.out,HMR.out];rfl
      case measure=>
       rw[H6.step.dplace,hme];omega
end Go.Proofs.YtabmfdedbpmfmaaGreat
