/- Walks: rows joined. -/
import Derived.Test.YtabmfdedbpmfmaaGreatVHs
import Derived.Deep.Cut
import Derived.Test.YtabmfdedbpmfmaaGreatVGp
import Derived.Lib.AppendZerosOnto
import Derived.Laws.Bits64b
import Derived.Laws.CopyOwn
import Derived.OwnWalk
import Derived.Test.YtabmfdedbpmfmaaGreatVHf
import Derived.Test.YtabmfdedbpmfmaaGreatVXa
import Derived.Test.YtabmfdedbpmfmaaGreatVGl
import Derived.Test.YtabmfdedbpmfmaaGreatVZc
namespace Go.Proofs.YtabmfdedbpmfmaaGreat
open Go.RowKit Go.Shelf
set_option linter.unusedVariables false
set_option maxHeartbeats 4000000
set_option maxRecDepth 100000
theorem fin29b {R:Ending→World→Prop} (tmps:Array Value) (W:World) (B:Nat) (v c0 c1:Value) (h2:tmps.getD 2 undef=v) (h3:tmps.getD 3 undef=.pointer (some ⟨B,0,none⟩))
  (e1:W.heap[B]? = some (.cells #[c0,c1] 25 (0,0))) (hR:R (.returned (.tuple #[v,.agg #[c0,c1]])) W):bodyPost Tryz.prog Tryz.f29 R .ret { tmps:=tmps,defers:=[] } W:=by
 have r0:=qc 0 e1 rfl;have r1:=qc 1 e1 rfl;rw[Array.getD_eq_getD_getElem?]at h2 h3;refine⟨rfl,_,?_,hR⟩;simp[results,Tryz.results29,go_sem,h2,h3,r0,r1]
 try rfl
theorem qrx (s:QY) (w:World) (hs:256<s.size):Calls Tryz.prog 29 #[.string s] w (qbbc (12,256,[]) w):=by
 have hs':(256:Int)<(s.size:Int):=by omega
 obtain⟨V0,hV0,n1,n2,bV,sV⟩:=qm w #[.string s] #[.int .i64 0,.int .i64 0] 9 25;have x0:=qc 0 n1 rfl;have r0:=qc 0 n2 rfl;have r1:=qc 1 n2 rfl;have g0:=qf 0 n2;have g1:=qf 1 n2;have N2:=qb n2;have BV:=qb bV;clear n1 n2 bV sV;go_enter Tryz.func29,Tryz.ntmps29
 go_wp2_with fail
 try rw[hV0]
 clear hV0;go_step3
 (go_wp2_with fail);refine fin29b _ _ (w.heap.size+1) _ _ _ rfl rfl (qw 1 (.int .i64 256) (qw 0 (.int .i64 12) N2.out)) ?_;exact⟨(BV.out.setCell (p:=⟨w.heap.size+1,0,none⟩) (Nat.le_succ _) _).setCell (p:=⟨w.heap.size+1,1,none⟩) (Nat.le_succ _) _,_,rfl,[],rfl,ClsV.nil _ _⟩
theorem qsn (s:QY) (w:World) (hs:s.size≤256) (h0:qn 6 s.data.toList=s.size):Calls Tryz.prog 29 #[.string s] w (qbbc (0,0,[]) w):=by
 have hs':¬ (256:Int)<(s.size:Int):=by omega
 have RN:=fun W=>qjf s (0:Int) 6 W (by unfold maxLen;omega)
 have hr:runI s.data.toList (0:Int) 6=((s.size:Nat):Int):=by
  have:=qdl s 0 6 (Nat.zero_le _);rw[←h0];simpa using this
 rw[hr]at RN;replace RN:=qb RN;clear hr h0;obtain⟨V0,hV0,n1,n2,bV,sV⟩:=qm w #[.string s] #[.int .i64 0,.int .i64 0] 9 25;have x0:=qc 0 n1 rfl;have r0:=qc 0 n2 rfl;have r1:=qc 1 n2 rfl;have g0:=qf 0 n2;have g1:=qf 1 n2;have N2:=qb n2;have BV:=qb bV;clear n1 n2 bV sV;go_enter Tryz.func29,Tryz.ntmps29
 go_wp2_with fail
 try rw[hV0]
 clear hV0;go_step3
 (go_wp2_with fail);go_quiet (first|(go_at_call 60;exact Calls.quiet_of_same (RN.out _))|fail)
 have BV9:=qb (BV.out.trans ((qz _ V0 nq).mono BV.out.size));have N9:Hid ((V0.drewN nq).heap[w.heap.size+1]? = _):=qb N2.out;have r0:=qc 0 N9.out rfl;have r1:=qc 1 N9.out rfl;have g0:=qf 0 N9.out;have g1:=qf 1 N9.out;generalize V0.drewN nq=V1 at *;(go_wp2_with fail);refine fin29b _ _ (w.heap.size+1) _ _ _ rfl rfl (qw 1 (.int .i64 0) (qw 0 (.int .i64 0) N9.out)) ?_;exact⟨(BV9.out.setCell (p:=⟨w.heap.size+1,0,none⟩) (Nat.le_succ _) _).setCell (p:=⟨w.heap.size+1,1,none⟩) (Nat.le_succ _) _,_,rfl,[],rfl,ClsV.nil _ _⟩
theorem qls (s:QY) (w:World):Calls Tryz.prog 29 #[.string s] w (qbbc (pyL s.data.toList) w):=by
 by_cases hs:s.size≤256
 ·by_cases h0:qn 6 s.data.toList=s.size
  ·have hP:pyL s.data.toList=(0,0,[]):=by unfold pyL;rw[if_neg (by rw[qg];omega),if_pos (by rw[qg];exact h0)]
   rw[hP];exact qsn s w hs h0
  ·rw[pyL_row _ (by rw[qg];exact hs) (by rw[qg];exact h0)]
   exact(callsIn_wide (n:=5)).1 (qtj s w hs h0)
 ·have hP:pyL s.data.toList=(12,256,[]):=by unfold pyL;rw[if_pos (by rw[qg];omega)]
  rw[hP];exact qrx s w (by omega)
open Nat renaming le_refl → qbtm
open World renaming alloc_heap_new → qbtk
set_option maxHeartbeats 8000000
set_option maxRecDepth 100000
theorem fin9 {R:Ending→World→Prop} (tmps:Array Value) (W:World) (B:Nat) (v c0 c1:Value) (h2:tmps.getD 2 undef=v) (h3:tmps.getD 3 undef=.pointer (some ⟨B,0,none⟩))
  (e1:W.heap[B]? = some (.cells #[c0,c1] 25 (0,0))) (hR:R (.returned (.tuple #[v,.agg #[c0,c1]])) W):bodyPost Tryz.prog Tryz.f9 R .ret { tmps:=tmps,defers:=[] } W:=by
 have r0:=qc 0 e1 rfl;have r1:=qc 1 e1 rfl;rw[Array.getD_eq_getD_getElem?]at h2 h3;refine⟨rfl,_,?_,hR⟩;simp[results,Tryz.results9,go_sem,h2,h3,r0,r1]
 try rfl
theorem qbmp {α β : Type} (f:α→List β) (k:Nat):∀ (l:List α),(∀ x∈l,(f x).length=k)→∀ i (h:i<l.length) j,j<k→(l.flatMap f)[i*k+j]? = (f l[i])[j]?
 | [],_,i,h,_,_=>by cases h
 | x::l,hk,0,h,j,hj=>by
  rw[List.flatMap_cons,Nat.zero_mul,Nat.zero_add,List.getElem?_append_left (by rw[hk x (by simp)];exact hj)]
  rfl
 | x::l,hk,i+1,h,j,hj=>by
  rw[List.flatMap_cons,List.getElem?_append_right (by rw[hk x (by simp),Nat.succ_mul];omega),hk x (by simp),show(i+1)*k+j-k=i*k+j by rw[Nat.succ_mul];omega]
  exact qbmp f k l (fun y hy=>hk y (by simp[hy])) i (by simpa using h) j hj
theorem qbgr (l:QB):∀ n a acc,n+acc.length=33→(pyGo l n a acc).2.2.length≤33
 | 0,a,acc,h=>by unfold pyGo;simp
 | n + 1,a,acc,h=>by
  unfold pyGo;split
  ·simp
  ·split
   ·simp
   ·split
    ·exact qbgr l n _ _ (by simp;omega)
    ·simp;omega
theorem qbcj (l:QB):(pyL l).2.2.length≤33:=by
 unfold pyL;split
 ·simp
 ·split
  ·simp
  ·exact qbgr l 33 0 [] rfl
theorem ClsV.at_ {Z:Nat} {W:World} {v:Value} {its:List It} (h:ClsV Z W v its):∃ a c,v=.slice a its.length c∧∀ i (hi:i<its.length),∃ g,a=some ⟨g,0,none⟩∧W.rangeAt g (i*18) (clL its[i]):=by
 obtain⟨a,c,rfl,h0⟩:=qcl h.1;refine⟨a,c,rfl,fun i hi=>?_⟩;rcases h0 with h0|⟨g,rfl,_,hg⟩
 ·omega
 ·refine⟨g,rfl,fun j u hj=>hg _ _ ?_⟩;rw[qbmp clL 18 its (fun x _=>rfl) i hi j (by have:=(List.getElem?_eq_some_iff.1 hj).1;rw[clL_len]at this;exact this)]
  exact hj
theorem ClsV.below {Z:Nat} {W W':World} {v:Value} {its:List It} (h:ClsV Z W v its) (hb:Below W.heap.size W W'):ClsV Z W' v its:=h.keep (qbq hb)
theorem qblx {x:It} {W:World} {A:Nat→Prop} (h:TxC A W x) (w:World):Calls Tryz.prog 30 #[.agg (clV x.1 x.2.1 x.2.2)] w fun e w'=>e=.returned (.agg #[.string (qd (sgn x.1.k)),.string (qd x.1.t),.bool x.1.st])∧Below w.heap.size w w':=by
 obtain⟨x1,x2,x3⟩:=x;obtain⟨⟨r1,c1,h1,_⟩,⟨q1,d1,h2,_⟩,_,_⟩:=h;dsimp only at h1 h2;subst h1;subst h2;exact plain_cl x1.x r1 q1 c1 d1 _ _ _ _ _ _ _ _ _ w
variable {ops:Array Oper} {rest:List Oper} {op:Oper} {a:Act} {w:World} {Q:Exit→Act→World→Prop}
theorem qtn (hgd:op.guard=none) (ho:op.op=.alloc 61) (h:wpList Tryz.prog ops Q rest (a.put op.dst (.pointer (some ⟨w.heap.size,0,none⟩))) (w.alloc (.cells Z61 61))):wpList Tryz.prog ops Q (op::rest) a w:=by
 refine wpList_plain hgd fun K hK=>?_;unfold Oper.wp;simp only[execOp,ho,Sem.run_bind,Sem.run_pure,Result.andThen_ok,qsg];exact hK _ _ h
theorem qpj (s:QY) (w:World):Calls Tryz.prog 9 #[.string s] w (PfPost (pyL s.data.toList) w):=by
 have RC:=qb (fun W=>qls s W);have hlen:=qbcj s.data.toList;generalize pyL s.data.toList=G at *;obtain⟨er,p,cs⟩:=G;have hB:=qbtk w (.cells #[.int .i64 0,.int .i64 0] 25);have hbW:Below w.heap.size w (w.alloc (.cells #[.int .i64 0,.int .i64 0] 25)):=(Below.refl _ w).alloc (qbtm _) _;have hlw:w.heap.size+1=(w.alloc (.cells #[.int .i64 0,.int .i64 0] 25)).heap.size:=by simp
 obtain⟨i0,hi0,hz0,hz1,hz2⟩:=info_parts info32;go_enter Tryz.func9,Tryz.ntmps9
 (go_wp2_with fail);generalize w.alloc _=W0 at *;refine(RC.out _).mono ?_;rintro e w1 ⟨b1,v,rfl,its,hits,hv⟩;dsimp only at hits;subst hits;have hl33:its.length≤33:=by simpa using hlen
 clear hlen;rw[←hlw]at hv;have n5:=qbtk w1 (.cells #[.int .i64 er,.int .i64 (p:Int)] 25);have hal:Below w1.heap.size w1 (w1.alloc (.cells #[.int .i64 er,.int .i64 (p:Int)] 25)):=(Below.refl _ w1).alloc (qbtm _) _;have hB1:=(hal.block _ (Nat.lt_of_lt_of_le (by omega) b1.size)).trans ((b1.block _ (by omega)).trans hB)
 have hb1:=(hbW.trans (b1.mono (by omega))).trans (hal.mono (Nat.le_trans (by omega) b1.size))
 have HV:=qb (hv.below hal);obtain⟨av,cv,rfl,_⟩:=hv.at_;have hsz:w1.heap.size+1=(w1.alloc (.cells #[.int .i64 er,.int .i64 (p:Int)] 25)).heap.size:=by simp
 have hwz:w.heap.size<w1.heap.size:=by have:=b1.size;omega
 clear hv b1 hal hB hbW hlw;go_upto_region 3 with fail
 generalize w1.alloc _=V at *;have HB1:=qb hB1;have HBL:=qb hb1;have HN5:=qb n5;clear hB1 hb1 n5;(go_wp2_with fail);go_loopw [6,16] (fun x y wr=>∃ i:Nat,i≤its.length∧y=.int .i64 i∧Hid (wr.ownsRow V.heap.size 32 3 x i ((its.take i).flatMap fun t=>plL t.1))∧Below V.heap.size V wr) (fun _ y _=>its.length-(intOf y).toNat)
 case atStart=>exact⟨0,Nat.zero_le _,rfl,qb (World.ownsRow_nil _ _ _ _),Below.refl _ _⟩
 case round=>
  obtain⟨i,hi,rfl,HO,hb⟩:=hrel
  by_cases hin:i<its.length
  ·have hin':(i:Int)<(its.length:Int):=by omega
   obtain⟨av',cv',he,hA⟩:=(HV.out.below hb).at_;cases he;obtain⟨g,rfl,hr⟩:=hA i hin;have hx:=(HV.out.below hb).2 its[i] (List.getElem_mem _);have HR:=qb hr;have HX:=qb hx;clear hr hx hA;go_upto_region 5 with fail
   refine wp_region_lit ?_;go_step
   go_step
   go_step
   refine wpList_load_mid rfl 61 (.tmp 18) rfl g (i*18) rfl _ _ HR.out Tryz.underlying61 rfl qhf ?_;refine qtn rfl rfl ?_;have hZ:=qbtk wr (.cells Z61 61);have hone:=all_oneCell_toArray (qpm HX.out.1 HX.out.2.1);refine wpList_store_mid rfl 61 (.tmp 8) (.tmp 19) rfl wr.heap.size 0 (clV its[i].1 its[i].2.1 its[i].2.2) rfl rfl (qgn hZ (qbtm _)) qhf (by simpa using hone) (wpList_nil ?_)
   have hT:=qcg (clV its[i].1 its[i].2.1 its[i].2.2).toList (wr.alloc (.cells Z61 61)) wr.heap.size 0;have hh:=qcn (clV its[i].1 its[i].2.1 its[i].2.2).toList (wr.alloc (.cells Z61 61)) wr.heap.size 0 _ _ hZ;rw[qpk Z61 (clV its[i].1 its[i].2.1 its[i].2.2).toList rfl]at hh;have hba:Below wr.heap.size wr (wr.alloc (.cells Z61 61)):=(Below.refl _ wr).alloc (qbtm _) _;have hb2:=hba.trans (hT.below (qbtm _) hba.size);rw[qdn];have HH:Hid ((putL (wr.alloc (.cells Z61 61)) wr.heap.size 0 (clV its[i].1 its[i].2.1 its[i].2.2).toList).heap[wr.heap.size]? = some (.cells (clV its[i].1 its[i].2.1 its[i].2.2) 61 (0,0))):=qb (by simpa using hh)
   generalize hW2:putL (wr.alloc (.cells Z61 61)) wr.heap.size 0 (clV its[i].1 its[i].2.1 its[i].2.2).toList=W2 at *;have HB2:=qb hb2;have PL:=qb (fun W=>qblx HX.out W);clear hZ hone hT hh hba hb2 hW2;go_upto_region 6 with fail
   refine wp_region_lit ?_;go_step
   go_step
   go_step
   refine wpList_load_mid rfl 61 (.tmp 8) rfl wr.heap.size 0 rfl _ _ (qht HH.out) Tryz.underlying61 rfl qhf ?_;(go_wp2_with fail);refine(PL.out _).mono ?_;rintro e w4 ⟨rfl,b4⟩;have hbA:Below wr.heap.size wr (w4.alloc (.cells #[.string (qd (sgn its[i].1.k)),.string (qd its[i].1.t),.bool its[i].1.st] 32)):=(HB2.out.trans (b4.mono HB2.out.size)).trans ((Below.refl _ w4).alloc (qbtm _) _ |>.mono (Nat.le_trans HB2.out.size b4.size));have HUA:=qb (qfm (A:=fun _=>True) HO.out (qbq hbA) (fun _ _=>trivial));have HBA:=qb (hb.trans (hbA.mono hb.size));have HNW:Hid (∀ j u,(plL its[i].1)[j]? = some u→(w4.alloc (.cells #[.string (qd (sgn its[i].1.k)),.string (qd its[i].1.t),.bool its[i].1.st] 32)).cell? ((⟨w4.heap.size,0,none⟩:Addr).add j)=some u):=qb (fun j u h=>qjh w4 #[.string (qd (sgn its[i].1.k)),.string (qd its[i].1.t),.bool its[i].1.st] 32 j u h);have HTK:Hid ((its.take (i+1)).flatMap (fun t=>plL t.1)=(its.take i).flatMap (fun t=>plL t.1)++plL its[i].1):=qb (by rw[List.take_succ_eq_append_getElem hin,List.flatMap_append];simp)
   clear hbA b4;go_wp2_with (at_builtin;refine wpList_append_own _ rfl _ _ 22 rfl V.heap.size 32 i0 (.agg #[.string ⟨#[]⟩,.string ⟨#[]⟩,.bool false]) 3 40 Tryz.underlying22 hi0 hz0 hz1 hz2 rfl (by decide) _ _ _ rfl HUA.out ⟨w4.heap.size,0,none⟩ 1 1 (plL its[i].1) rfl rfl HNW.out (qkj _) (by unfold maxLen;omega) (by omega) HBA.out.size ?_;intro v' w5 hown' hgrow _;have HB5:=qb (HBA.out.trans (qcv HUA.out HBA.out.size hgrow));have HO5:=qb hown';clear hown' hgrow)
   go_roundw
   case rel=>exact⟨i+1,by omega,by go_num,by rw[HTK.out];exact HO5,HB5.out⟩
   case measure=>simp[intOf];omega
  ·have hin':¬ (i:Int)<(its.length:Int):=by omega
   obtain rfl:i=its.length:=by omega
   have n5:=(hb.block _ (by omega)).trans HN5.out
   have n1:=(hb.block _ (by omega)).trans HB1.out
   have x0:=qc 0 n5 rfl;have x1:=qc 1 n5 rfl;have y0:=qc 0 n1 rfl;have y1:=qc 1 n1 rfl;have z0:=qf 0 n1;have z1:=qf 1 n1;have hne:w1.heap.size≠w.heap.size:=by omega
   have HN1:=qb n1;rw[List.take_length]at HO;have HBW:=qb (HBL.out.trans (hb.mono HBL.out.size));clear n5 n1;(go_wp2_with fail);go_region
   all_goals
    (go_wp2_with fail);have e5:=qw 1 (.int .i64 (p:Int)) (qw 0 (.int .i64 er) HN1.out);refine fin9 _ _ w.heap.size _ _ _ rfl rfl e5 ?_;have hT:Turn w.heap.size wr ((wr.setCell ⟨w.heap.size,0,none⟩ (.int .i64 er)).setCell ⟨w.heap.size,1,none⟩ (.int .i64 (p:Int))):=(Turn.set w.heap.size 0 wr _).trans (Turn.set w.heap.size 1 _ _);have hT2:Turn w.heap.size wr ((wr.setCell ⟨w.heap.size,0,none⟩ (.int .i64 er)).setCell ⟨w.heap.size,1,none⟩ (.int .i64 (p:Int))).drew:=hT.trans (Turn.drewN _ _ 1);have hV:w.heap.size<V.heap.size:=by omega
    have ho:wr.ownsRow V.heap.size 32 3 u6 (its.map Prod.fst).length ((its.map Prod.fst).flatMap plL):=by
     rw[List.length_map,List.flatMap_map];exact HO.out
    exact⟨HBW.out.trans (hT2.below (qbtm _) HBW.out.size),u6,rfl,(qbcw ho).young (qlc ho) (fun j h3 h4=>hT2.block j h4 (by omega)) hT2.size,(qlc ho).mono (Nat.le_of_lt hV)⟩
end Go.Proofs.YtabmfdedbpmfmaaGreat
namespace Go.Proofs.YtabmfdedbpmfmaaGreat
open Go.RowKit Go.Shelf
set_option linter.unusedVariables false
theorem qbjs (a b:QB):((qd a).toList==(qd b).toList)=(a==b):=by rw[toL,toL,qj,qj]
set_option maxHeartbeats 4000000
set_option maxRecDepth 100000
theorem qxw (t:QB):∀ ts:List QB,Lib.join (ts++[t]) [44]=if ts=[] then t else Lib.join ts [44]++44::t
 | []=>by simp[Lib.join,List.intercalate]
 | [u]=>by simp[Lib.join,List.intercalate]
 | u::x::r=>by
  have ih:=qxw t (x::r);rw[if_neg (by simp)]at ih ⊢
  unfold Lib.join at ih ⊢;simp only[List.cons_append,List.intercalate]at ih ⊢;rw[List.intersperse_cons_cons,List.flatten_cons,List.flatten_cons,ih,List.intersperse_cons_cons,List.flatten_cons,List.flatten_cons];simp
theorem qbjr (qs:List Tri) (q:Tri):qhv (qs++[q])=(if qs.length=0 then qhv qs else qhv qs++[44])++wrT q:=by
 unfold qhv;rw[List.map_append,List.map_singleton,qxw];cases qs with
 | nil=>simp[Lib.join,List.intercalate]
 | cons x r=>simp
theorem qbjv {qs:List Tri} (h:qjr qs) (i:Nat):qjr (qs.take i):=⟨by rw[List.length_take];have:=h.1;omega,fun q hq=>h.2 q (List.mem_of_mem_take hq)⟩
theorem qbqf (qs:List Tri) (hs:qjr qs) (i:Nat) (hi:i<qs.length) (A:QY) (hA:A=qd (qhv (qs.take i))) :
  ∃ A1 A2 A3 A4,(i≠0→Op.stringOp .add A ⟨#[44]⟩=pure (.string A1))∧(i=0→A1=A)∧Op.stringOp .add A1 (qd qs[i].1)=pure (.string A2)∧Op.stringOp .add A2 (qd qs[i].2.1)=pure (.string A3)∧Op.stringOp .add A3 ⟨#[46,42]⟩=pure (.string A4) ∧
   (qs[i].2.2=false→A3=qd (qhv (qs.take (i+1))))∧(qs[i].2.2=true→A4=qd (qhv (qs.take (i+1)))):=by
 have h1:=joinT_le (qbjv hs i);have h2:=hs.2 qs[i] (List.getElem_mem hi);have hj:qhv (qs.take (i+1))=(if i=0 then qhv (qs.take i) else qhv (qs.take i)++[44])++wrT qs[i]:=by
  rw[List.take_succ_eq_append_getElem hi,qbjr,List.length_take,Nat.min_eq_left (by omega)]
 rw[hj];clear hj;subst hA;generalize qhv (qs.take i)=P at *;generalize qs[i]=q at *;obtain⟨X0,X1,X2⟩:=q;dsimp only at *;have hB:(if i=0 then P else P++[44]).length≤P.length+1:=by split<;>simp
 refine⟨qd (if i=0 then P else P++[44]),qd ((if i=0 then P else P++[44])++X0),qd ((if i=0 then P else P++[44])++X0++X1),qd ((if i=0 then P else P++[44])++X0++X1++[46,42]),fun h=>?_,fun h=>by rw[if_pos h],?_,?_,?_,fun h=>?_,fun h=>?_⟩
 ·rw[if_neg h];exact qsr _ _ _ (qst P [44]) (by rw[qr];show _+1≤_;omega)
 ·exact qsr _ _ _ (qst _ _) (by rw[qr,qr];omega)
 ·exact qsr _ _ _ (qst _ _) (by rw[qr,qr,List.length_append];omega)
 ·exact qsr _ _ _ (qst _ [46,42]) (by rw[qr,List.length_append,List.length_append];show _+2≤_;omega)
 ·subst h;simp[wrT,qmf]
 ·subst h;simp[wrT,qmf]
theorem qbmc (v:Value) (qs:List Tri) (w:World) (hv:qqd w v qs) (hs:qjr qs) :
  Calls Tryz.prog 34 #[v] w fun e w'=>e=.returned (.string (qd (qhv qs)))∧Below w.heap.size w w':=by
 obtain⟨a,c,rfl,_⟩:=id hv;have HV:=qb hv;have HS:=qb hs;have hn:=hs.1;clear hv hs;go_enter Tryz.func34,Tryz.ntmps34
 (go_wp2_with fail);go_loopw [3,4] (fun y x wr=>∃ (i:Nat) (A:QY),i≤qs.length∧x=.int .i64 i∧y=.string A∧Hid (A=qd (qhv (qs.take i)))∧Below w.heap.size w wr) (fun _ x _=>qs.length-(intOf x).toNat)
 case atStart=>exact⟨0,_,Nat.zero_le _,rfl,rfl,qb rfl,Below.refl _ _⟩
 case round=>
  obtain⟨i,A,hin,rfl,rfl,HA,hB⟩:=hrel
  by_cases hlt:i<qs.length
  ·have hlt':(i:Int)<(qs.length:Int):=by omega
   obtain⟨_,_,he,hA⟩:=(HV.out.below hB);obtain⟨g1,o1,ha,hg,p0,p1,p2⟩:=hA i hlt;cases he;subst ha;obtain⟨A1,A2,A3,A4,ad0,hA1,ad1,ad2,ad3,hf,ht⟩:=qbqf qs HS.out i hlt A HA.out;have HF:=qb hf;have HTT:=qb ht;clear hA hf ht HA;generalize qs[i]=q at *;obtain⟨X0,X1,X2⟩:=q;dsimp only at *
   by_cases h0:i=0
   ·subst h0;obtain rfl:=hA1 rfl;clear ad0;simp only[Nat.zero_mul,Nat.add_zero]at p0 p1 p2;cases X2
    all_goals
     (go_wp2_with fail);go_quiet (fail)
     have hb':Below w.heap.size w (wr.drewN nq):=hB.trans ((qz _ _ _).mono hB.size);have p2':(wr.drewN nq).cell? ⟨g1,o1+2,none⟩=_:=p2;generalize wr.drewN nq=W9 at *;(go_wp2_with fail);go_roundw
     case rel=>exact⟨1,_,by omega,by go_num,rfl,qb (by first|exact HF.out rfl|exact HTT.out rfl|exact HF.out (by simp)|exact HTT.out (by simp)),hb'⟩
     case measure=>simp[intOf];omega
   ·have ad0':=ad0 h0;have hpos:(0:Int)<(i:Int):=by omega
    clear ad0 hA1;cases X2
    all_goals
     (go_wp2_with fail);go_quiet (fail)
     have hb':Below w.heap.size w (wr.drewN nq):=hB.trans ((qz _ _ _).mono hB.size);have p2':(wr.drewN nq).cell? ⟨g1,o1+i*3+2,none⟩=_:=p2;generalize wr.drewN nq=W9 at *;(go_wp2_with fail);go_roundw
     case rel=>exact⟨i+1,_,by omega,by go_num,rfl,qb (by first|exact HF.out rfl|exact HTT.out rfl|exact HF.out (by simp)|exact HTT.out (by simp)),hb'⟩
     case measure=>simp[intOf];omega
  ·have hlt':¬ (i:Int)<(qs.length:Int):=by omega
   obtain rfl:i=qs.length:=by omega
   have HA2:Hid (A=qd (qhv qs)):=qb (by have:=HA.out;rwa [List.take_length]at this)
   (go_wp2_with fail);go_ret
   exact⟨by rw[←HA2.out];rfl,hB⟩
open List renaming getElem_mem → qbvk
open Go.RowKit renaming Below → QE
set_option maxHeartbeats 4000000
set_option maxRecDepth 100000
theorem qlz {α : Type} (P:α→Bool) (l:List α) (i:Nat) (h:i<l.length):(l.take (i+1)).any P=((l.take i).any P||P l[i]):=by
 rw[List.take_succ_eq_append_getElem h,List.any_append];simp
theorem qhz {α : Type} (P:α→Bool) (l:List α) (i:Nat) (h:i<l.length) (hp:P l[i]=true):l.any P=true:=List.any_eq_true.2 ⟨l[i],qbvk _,hp⟩
theorem qbbt (P:It→Bool) (Z:Nat) (v:Value) (its:List It) (w:World) (hv:ClsV Z w v its) (hl:its.length≤33)
  (H:∀ x∈its,∀ W,QE w.heap.size w W→(∃ A,TxC A W x)→Calls Tryz.prog 46 #[.agg (clV x.1 x.2.1 x.2.2)] W fun e W'=>e=.returned (.bool (P x))∧QE W.heap.size W W') :
  Calls Tryz.prog 101 #[v,.func (.func 46) #[] #[]] w fun e w'=>∃ z:Int,e=.returned (.int .i64 z)∧decide (0≤z)=its.any P∧QE w.heap.size w w':=by
 obtain⟨a,c,rfl,_⟩:=hv.at_;have HV:=qb hv;have HH:=qb H;clear hv H;go_enter Tryz.func101,Tryz.ntmps101
 (go_wp2_with fail);go_loopw [8] (fun x wr=>∃ i:Nat,i≤its.length∧x=.int .i64 (i:Int)∧Hid ((its.take i).any P=false)∧QE w.heap.size w wr) (fun x _=>its.length-(intOf x).toNat)
 case atStart=>exact⟨0,Nat.zero_le _,rfl,rfl,Below.refl _ _⟩
 case round=>
  obtain⟨i,hi,rfl,HN,hb⟩:=hrel
  by_cases hin:i<its.length
  ·have hin':(i:Int)<(its.length:Int):=by omega
   obtain⟨a',c',he,hA⟩:=(HV.out.below hb).at_;cases he;obtain⟨g,rfl,hr⟩:=hA i hin;have hx:=(HV.out.below hb).2 its[i] (qbvk _);have HC:=qb (HH.out its[i] (qbvk _) wr hb ⟨_,hx⟩);have HR:=qb hr;have HT:=qb (qlz P its i hin);have HF:=qb (qhz P its i hin);clear hr hA hx;go_upto_region 4 with fail
   refine wp_region_lit ?_;go_step
   go_step
   go_step
   go_step
   go_step
   go_step
   go_step
   go_step
   go_step
   go_step
   go_step
   go_step
   refine wpList_load_mid rfl 61 (.tmp 14) rfl g (i*18) rfl _ _ HR.out Tryz.underlying61 rfl qhf ?_;cases hP:P its[i]
   ·rw[hP]at HC HT;clear hP;(go_wp2_with fail);refine(HC.out).mono ?_;rintro e w2 ⟨rfl,b2⟩;have HB:=qb (hb.trans (b2.mono hb.size));clear b2;(go_wp2_with fail);go_roundw
    case rel=>exact⟨i+1,by omega,by go_num,by show _=_;rw[HT.out,HN.out];rfl,HB.out⟩
    case measure=>simp[intOf];omega
   ·rw[hP]at HC;have HF2:=qb (HF.out hP);clear hP HF;(go_wp2_with fail);refine(HC.out).mono ?_;rintro e w2 ⟨rfl,b2⟩;have HB:=qb (hb.trans (b2.mono hb.size));clear b2;(go_wp2_with fail);go_ret
    exact⟨_,rfl,by rw[HF2.out];simp,HB.out⟩
  ·have hin':¬ (i:Int)<(its.length:Int):=by omega
   obtain rfl:i=its.length:=by omega
   rw[List.take_length]at HN;(go_wp2_with fail);go_ret
   exact⟨_,rfl,by rw[HN.out];decide,hb⟩
theorem qlw (P:It→Bool) (Z:Nat) (v:Value) (its:List It) (w:World) (hv:ClsV Z w v its) (hl:its.length≤33)
  (H:∀ x∈its,∀ W,QE w.heap.size w W→(∃ A,TxC A W x)→Calls Tryz.prog 46 #[.agg (clV x.1 x.2.1 x.2.2)] W fun e W'=>e=.returned (.bool (P x))∧QE W.heap.size W W') :
  Calls Tryz.prog 78 #[v,.func (.func 46) #[] #[]] w fun e w'=>e=.returned (.bool (its.any P))∧QE w.heap.size w w':=by
 have I:=qb (qbbt P Z v its w hv hl H);obtain⟨a,c,rfl,_⟩:=hv.at_;clear hv H;go_enter Tryz.func78,Tryz.ntmps78
 (go_wp2_with fail);refine(I.out).mono ?_;rintro e w2 ⟨z,rfl,hz,b2⟩;have HZ:=qb hz;clear hz;(go_wp2_with fail);go_ret
 exact⟨by rw[←HZ.out];rfl,b2⟩
theorem qbbf (P:It→Bool) (p:Nat) (Z:Nat) (v:Value) (its:List It) (w:World) (hv:ClsV Z w v its) (hl:its.length≤33)
  (H:∀ x∈its,∀ W,QE w.heap.size w W→(∃ A,TxC A W x)→Calls Tryz.prog 79 #[.agg (clV x.1 x.2.1 x.2.2),.pointer (some ⟨p,0,none⟩)] W fun e W'=>e=.returned (.bool (P x))∧QE W.heap.size W W') :
  Calls Tryz.prog 101 #[v,.func (.func 79) #[] #[.pointer (some ⟨p,0,none⟩)]] w fun e w'=>∃ z:Int,e=.returned (.int .i64 z)∧decide (0≤z)=its.any P∧QE w.heap.size w w':=by
 obtain⟨a,c,rfl,_⟩:=hv.at_;have HV:=qb hv;have HH:=qb H;clear hv H;go_enter Tryz.func101,Tryz.ntmps101
 (go_wp2_with fail);go_loopw [8] (fun x wr=>∃ i:Nat,i≤its.length∧x=.int .i64 (i:Int)∧Hid ((its.take i).any P=false)∧QE w.heap.size w wr) (fun x _=>its.length-(intOf x).toNat)
 case atStart=>exact⟨0,Nat.zero_le _,rfl,rfl,Below.refl _ _⟩
 case round=>
  obtain⟨i,hi,rfl,HN,hb⟩:=hrel
  by_cases hin:i<its.length
  ·have hin':(i:Int)<(its.length:Int):=by omega
   obtain⟨a',c',he,hA⟩:=(HV.out.below hb).at_;cases he;obtain⟨g,rfl,hr⟩:=hA i hin;have hx:=(HV.out.below hb).2 its[i] (qbvk _);have HC:=qb (HH.out its[i] (qbvk _) wr hb ⟨_,hx⟩);have HR:=qb hr;have HT:=qb (qlz P its i hin);have HF:=qb (qhz P its i hin);clear hr hA hx;go_upto_region 4 with fail
   refine wp_region_lit ?_;go_step
   go_step
   go_step
   go_step
   go_step
   go_step
   go_step
   go_step
   go_step
   go_step
   go_step
   go_step
   refine wpList_load_mid rfl 61 (.tmp 14) rfl g (i*18) rfl _ _ HR.out Tryz.underlying61 rfl qhf ?_;cases hP:P its[i]
   ·rw[hP]at HC HT;clear hP;(go_wp2_with fail);refine(HC.out).mono ?_;rintro e w2 ⟨rfl,b2⟩;have HB:=qb (hb.trans (b2.mono hb.size));clear b2;(go_wp2_with fail);go_roundw
    case rel=>exact⟨i+1,by omega,by go_num,by show _=_;rw[HT.out,HN.out];rfl,HB.out⟩
    case measure=>simp[intOf];omega
   ·rw[hP]at HC;have HF2:=qb (HF.out hP);clear hP HF;(go_wp2_with fail);refine(HC.out).mono ?_;rintro e w2 ⟨rfl,b2⟩;have HB:=qb (hb.trans (b2.mono hb.size));clear b2;(go_wp2_with fail);go_ret
    exact⟨_,rfl,by rw[HF2.out];simp,HB.out⟩
  ·have hin':¬ (i:Int)<(its.length:Int):=by omega
   obtain rfl:i=its.length:=by omega
   rw[List.take_length]at HN;(go_wp2_with fail);go_ret
   exact⟨_,rfl,by rw[HN.out];decide,hb⟩
theorem qlt (P:It→Bool) (p:Nat) (Z:Nat) (v:Value) (its:List It) (w:World) (hv:ClsV Z w v its) (hl:its.length≤33)
  (H:∀ x∈its,∀ W,QE w.heap.size w W→(∃ A,TxC A W x)→Calls Tryz.prog 79 #[.agg (clV x.1 x.2.1 x.2.2),.pointer (some ⟨p,0,none⟩)] W fun e W'=>e=.returned (.bool (P x))∧QE W.heap.size W W') :
  Calls Tryz.prog 78 #[v,.func (.func 79) #[] #[.pointer (some ⟨p,0,none⟩)]] w fun e w'=>e=.returned (.bool (its.any P))∧QE w.heap.size w w':=by
 have I:=qb (qbbf P p Z v its w hv hl H);obtain⟨a,c,rfl,_⟩:=hv.at_;clear hv H;go_enter Tryz.func78,Tryz.ntmps78
 (go_wp2_with fail);refine(I.out).mono ?_;rintro e w2 ⟨z,rfl,hz,b2⟩;have HZ:=qb hz;clear hz;(go_wp2_with fail);go_ret
 exact⟨by rw[←HZ.out];rfl,b2⟩
set_option maxHeartbeats 4000000
set_option maxRecDepth 100000
theorem qbpz (n:Nat) (hn:n≤1048576) (w:World):Calls Tryz.prog 201 #[.int .u64 1,.int .u64 (n:Int)] w fun e w'=>e=.returned (.tuple #[.int .u64 0,.int .u64 (n:Int)])∧w'=w:=by
 have b1:bits .and .u64 1 4294967295=1:=(bits_and_u64_nat 1 4294967295 (by decide) (by decide)).trans (by decide)
 have b0:bits .and .u64 0 4294967295=0:=(bits_and_u64_nat 0 4294967295 (by decide) (by decide)).trans (by decide)
 have bn:bits .and .u64 (n:Int) 4294967295=(n:Int):=by
  refine(bits_and_u64_nat n 4294967295 (by omega) (by decide)).trans ?_
  rw[show(4294967295:Nat)=2 ^ 32-1 from rfl,Nat.and_two_pow_sub_one_eq_mod,Nat.mod_eq_of_lt (by omega)]
 have d1:(n:Int) / 4294967296=0:=by omega
 have wn:IntKind.u64.wrap (n:Int)=(n:Int):=by rw[IntKind.wrap_u64];omega
 go_enter Tryz.func201,Tryz.ntmps201
 (go_wp2_with fail);go_ret2
 exact⟨rfl,rfl⟩
theorem Mul_any (n:Nat) (hn:n≤1048576) (w:World):Calls Tryz.prog 192 #[.int .u64 1,.int .u64 (n:Int)] w fun e w'=>e=.returned (.tuple #[.int .u64 0,.int .u64 (n:Int)])∧w'=w:=by
 have M:=qb (fun W=>qbpz n hn W);go_enter Tryz.func192,Tryz.ntmps192
 (go_wp2_with fail);refine(M.out _).mono ?_;rintro e w0 ⟨rfl,hw0⟩;rw[hw0];clear hw0 w0;(go_wp2_with fail);go_ret2
 exact⟨rfl,rfl⟩
theorem info9:(Tryz.prog.info? 9).map (fun i=>(i.zero,i.size,i.bytes))=some (some (.string ⟨#[]⟩),1,16):=by kernel_rfl
theorem qbcr (w:World) (n:Nat) (ty:TypeId) (h0:0<n) (hn:n≤1048576):∃ c w',(Builtin.append_ #[37,3] ty #[.slice none 0 0,.int .i64 (n:Int)]).run Tryz.prog w=.ok (.slice (some ⟨w.heap.size,0,none⟩) n c) w'∧n≤c ∧
  w'.ownsRow w.heap.size 9 1 (.slice (some ⟨w.heap.size,0,none⟩) 0 c) 0 []∧Below w.heap.size w w':=by
 obtain ⟨i,hi,hz,hs,hb⟩:=info_parts info9;have hr:=Go.Lib.run_append_grow_zeros (P:=Tryz.prog) w 37 3 ty 9 i (.string ⟨#[]⟩) .i64 .i64 Tryz.underlying37 Tryz.underlying3 hi hz none 0 0 [] (by rw[hs];exact run_firstCells_none _ _ _ _ _) n h0 (by omega) (by omega) (by omega) (by rw[hb];omega)
  (by rw[Nat.zero_add,nextslicecap_zero h0,hb];omega)
 have hg:=grownCap_ge w (0+n) 0 9;have hm:=grownCap_le_maxLen w (0+n) 0 9 (by unfold maxLen;omega)
 rw[Nat.zero_add]at hr hg hm;refine⟨_,_,hr,hg,?_,?_⟩
 ·refine⟨rfl,.inr ⟨w.heap.size,_,_,rfl,Nat.le_refl _,World.alloc_heap_new w.drew _,Nat.zero_le _,hm,?_,by simp⟩⟩
  simp[Array.size_append,size_zeroCells,Value.cells];omega
 ·exact((Below.refl w.heap.size w).drew).alloc (Nat.le_refl _) _
theorem qnl {ops:Array Oper} {rest:List Oper} {o:Oper} {a:Act} {w:World} {Q:Exit→Act→World→Prop} (hgd:o.guard=none) (s x:Operand) (ho:o.op=.call { callee:=.builtin .append,args:=#[s,x],argTypes:=#[37,3] })
  (n:Nat) (hs:a.eval s=.slice none 0 0) (hx:a.eval x=.int .i64 (n:Int)) (h0:0<n) (hn:n≤1048576)
  (h:∀ c w',n≤c→w'.ownsRow w.heap.size 9 1 (.slice (some ⟨w.heap.size,0,none⟩) 0 c) 0 []→Below w.heap.size w w'→wpList Tryz.prog ops Q rest (a.put o.dst (.slice (some ⟨w.heap.size,0,none⟩) n c)) w'):wpList Tryz.prog ops Q (o::rest) a w:=by
 obtain⟨c,w',hr,h1,h2,h3⟩:=qbcr w n o.type h0 hn;refine wpList_plain hgd fun K hK=>?_;unfold Oper.wp;simp[execOp,ho,resolve,invoke,builtin,hs,hx,hr,Result.andThen];exact hK _ _ (h c w' h1 h2 h3)
theorem Grow_any (n:Nat) (hn:n≤1048576) (w:World):Calls Tryz.prog 191 #[.slice none 0 0,.int .i64 (n:Int)] w fun e w'=>∃ v,e=.returned v∧w'.ownsRow w.heap.size 9 1 v 0 []∧Below w.heap.size w w':=by
 have h1:¬ ((n:Int)<0):=by omega
 by_cases h0:0<n
 ·have h2:(0:Int)<(n:Int):=by omega
  go_enter Tryz.func191,Tryz.ntmps191
  go_wp2_with (at_builtin;refine qnl rfl _ _ rfl n rfl rfl h0 hn ?_;intro c w1 hc ho hb;have HO:=qb ho;have HB:=qb hb;clear ho hb)
  go_ret
  exact⟨_,rfl,HO.out,HB.out⟩
 ·have h2:¬ (0:Int)<(n:Int):=by omega
  go_enter Tryz.func191,Tryz.ntmps191
  (go_wp2_with fail);go_ret
  exact⟨_,rfl,World.ownsRow_nil _ _ _ _,Below.refl _ _⟩
set_option maxHeartbeats 4000000
set_option maxRecDepth 100000
def TxtP (W:World) (p:Addr) (ts:List QB):Prop:=∀ j u,(valT ts)[j]? = some u→W.cell? (p.add j)=some u
theorem qkg {W W':World} {b off:Nat} {ts:List QB} (h:TxtP W ⟨b,off,none⟩ ts) (hb:Below W.heap.size W W') (hlt:b<W.heap.size):TxtP W' ⟨b,off,none⟩ ts:=fun j u hj=>by
 have e:(⟨b,off,none⟩:Addr).add j=⟨b,off+j,none⟩:=by unfold Addr.add;split<;>simp_all
 rw[e,hb.cell hlt,←e];exact h j u hj
theorem qkt {ops:Array Oper} {rest:List Oper} {o:Oper} {a:Act} {w:World} {Q:Exit→Act→World→Prop} (hgd:o.guard=none) (s x:Operand) (ho:o.op=.call { callee:=.builtin .append,args:=#[s,x],argTypes:=#[37,37] })
  (base:Nat) (v:Value) (n:Nat) (xs:List Value) (hs:a.eval s=v) (hown:w.ownsRow base 9 1 v n xs) (p:Addr) (ts:List QB) (c:Nat) (hx:a.eval x=.slice (some p) ts.length c) (hp:TxtP w p ts) (hn:n+ts.length≤4194304) (qjb:base≤w.heap.size)
  (h:∀ v' w',w'.ownsRow base 9 1 v' (n+ts.length) (xs++valT ts)→w.grownBy w' v.ownBlock→wpList Tryz.prog ops Q rest (a.put o.dst v') w'):wpList Tryz.prog ops Q (o::rest) a w:=by
 obtain⟨i,hi,hz,hsz,hb⟩:=info_parts info9;refine wpList_append_own _ hgd s x 37 ho base 9 i (.string ⟨#[]⟩) 1 16 Tryz.underlying37 hi hz hsz hb rfl (by decide) v n xs hs hown p ts.length c (valT ts) hx (qvm ts) hp (qvs ts) (by unfold maxLen;omega) (by omega) qjb fun v' w' h1 h2 _=>h v' w' h1 h2
theorem qbjh (A B:List QB) (ga oa ca gb ob cb b0:Nat) (w:World) (hA:TxtP w ⟨ga,oa,none⟩ A) (hB:TxtP w ⟨gb,ob,none⟩ B) (h1:ga<w.heap.size) (h2:gb<w.heap.size)
  (c0:w.cell? ⟨b0,0,none⟩=some (.slice (some ⟨ga,oa,none⟩) A.length ca)) (c1:w.cell? ⟨b0,1,none⟩=some (.slice (some ⟨gb,ob,none⟩) B.length cb)) (hb0:b0<w.heap.size) (la:A.length≤524288) (lb:B.length≤524288) :
  Calls Tryz.prog 181 #[.slice (some ⟨b0,0,none⟩) 2 2] w fun e w'=>∃ v,e=.returned v∧w'.ownsRow w.heap.size 9 1 v (A++B).length (valT (A++B))∧Below w.heap.size w w':=by
 have HA:=qb hA;have HB:=qb hB;have GR:=fun W=>Grow_any (A.length+B.length) (by omega) W
 push_cast at GR
 replace GR:=qb GR;have hbd:(A.length:Int)+(B.length:Int)≤1048576:=by omega
 have hbd0:(0:Int)≤(A.length:Int)+(B.length:Int):=by omega
 clear hA hB;go_enter Tryz.func181,Tryz.ntmps181
 (go_wp2_with fail);go_loopw [3,11] (fun x y wr=>wr=w∧((x=.int .i64 0∧y=.int .i64 0)∨(x=.int .i64 (A.length:Int)∧y=.int .i64 1)∨(x=.int .i64 ((A.length:Int)+(B.length:Int))∧y=.int .i64 2))) (fun _ y _=>2-(intOf y).toNat)
 case atStart=>exact⟨by trivial,.inl ⟨rfl,rfl⟩⟩
 case round=>
  obtain⟨rfl,⟨rfl,rfl⟩|⟨rfl,rfl⟩|⟨rfl,rfl⟩⟩:=hrel
  ·(go_wp2_with fail);go_roundw
   case rel=>exact⟨by trivial,.inr (.inl ⟨by go_num,rfl⟩)⟩
   case measure=>simp[intOf]
  ·(go_wp2_with fail);go_roundw
   case rel=>exact⟨by trivial,.inr (.inr ⟨by go_num,rfl⟩)⟩
   case measure=>simp[intOf]
  ·(go_wp2_with fail);refine(GR.out _).mono ?_;rintro e w1 ⟨v,rfl,ho,hb⟩;have HO:=qb ho;clear ho;(go_wp2_with fail);go_loopw [6,27] (fun x y wr'=>Below wr.heap.size wr wr'∧((Hid (wr'.ownsRow wr.heap.size 9 1 x 0 [])∧y=.int .i64 0)∨(Hid (wr'.ownsRow wr.heap.size 9 1 x A.length (valT A))∧y=.int .i64 1)∨(Hid (wr'.ownsRow wr.heap.size 9 1 x (A.length+B.length) (valT A++valT B))∧y=.int .i64 2))) (fun _ y _=>2-(intOf y).toNat)
   case atStart=>exact⟨hb,.inl ⟨HO,rfl⟩⟩
   case round=>
    obtain⟨hb2,hrel2⟩:=hrel;have d0:=(hb2.cell (p:=⟨b0,0,none⟩) hb0).trans c0;have d1:=(hb2.cell (p:=⟨b0,1,none⟩) hb0).trans c1;have HA2:=qb (qkg HA.out hb2 h1);have HB2:=qb (qkg HB.out hb2 h2);obtain⟨H,rfl⟩|⟨H,rfl⟩|⟨H,rfl⟩:=hrel2
    ·go_wp2_with (at_builtin;refine qkt rfl _ _ rfl _ _ _ _ rfl H.out ⟨ga,oa,none⟩ A ca rfl HA2.out (by omega) hb2.size ?_;intro v' w5 ho' hg';have HO5:=qb ho';have HB5:=qb (hb2.trans (qcv H.out hb2.size hg'));clear ho' hg')
     go_roundw
     case rel=>exact⟨HB5.out,.inr (.inl ⟨qb (by simpa using HO5.out),rfl⟩)⟩
     case measure=>simp[intOf]
    ·go_wp2_with (at_builtin;refine qkt rfl _ _ rfl _ _ _ _ rfl H.out ⟨gb,ob,none⟩ B cb rfl HB2.out (by omega) hb2.size ?_;intro v' w5 ho' hg';have HO5:=qb ho';have HB5:=qb (hb2.trans (qcv H.out hb2.size hg'));clear ho' hg')
     go_roundw
     case rel=>exact⟨HB5.out,.inr (.inr ⟨HO5,rfl⟩)⟩
     case measure=>simp[intOf]
    ·(go_wp2_with fail);go_ret
     exact⟨_,rfl,by rw[List.length_append];simpa[valT] using H.out,hb2⟩
end Go.Proofs.YtabmfdedbpmfmaaGreat
