/- Walks: a row of texts, copied: slices.Clone. -/
import Derived.Test.YtabmfdedbpmfmaaGreatVPa
import Derived.Deep.AppendLies
import Derived.Lib.SliceRun
import Derived.Test.YtabmfdedbpmfmaaGreatVQc
namespace Go.Proofs.YtabmfdedbpmfmaaGreat
open Go.RowKit Go.Shelf
set_option linter.unusedVariables false
def hitB (l p:QB):Bool:=decide (p.length≤l.length)&&(l.take p.length==p)
def dix:List Nat:=[7,1,2,0,3,4,5,6]
def dopL (l:QB):Nat:=(dix.find? fun k=>hitB l (sgn k)).getD 8
def qgs (l:QB):Nat:=if l.head? = some 126∨l.head? = some 33∨l.head? = some 61 then 1 else 0
theorem dop_op (l:QB):dopL l=(opGo l 8).1∧(dopL l=8→(opGo l 8).2=qgs l):=by
 cases l with
 | nil=>exact⟨rfl,fun _=>rfl⟩
 | cons c r=>
  by_cases h1:c=61
  ·subst h1;cases r with
   | nil=>exact⟨rfl,fun _=>rfl⟩
   | cons d r=>
    by_cases h2:d=61
    ·subst h2;cases r with
     | nil=>exact⟨rfl,fun h=>by cases h⟩
     | cons e r=>
      by_cases h3:e=61
      ·subst h3;simp[dopL,dix,hitB,sgn,opGo,qdf,comL]
      ·simp[dopL,dix,hitB,sgn,opGo,qdf,comL,h3]
    ·simp[dopL,dix,hitB,sgn,opGo,qdf,comL,h2,qgs]
  ·by_cases h4:c=33
   ·subst h4;cases r with
    | nil=>exact⟨rfl,fun _=>rfl⟩
    | cons d r=>
     by_cases h2:d=61
     ·subst h2;simp[dopL,dix,hitB,sgn,opGo,qdf,comL]
     ·simp[dopL,dix,hitB,sgn,opGo,qdf,comL,h2,qgs]
   ·by_cases h5:c=126
    ·subst h5;cases r with
     | nil=>exact⟨rfl,fun _=>rfl⟩
     | cons d r=>
      by_cases h2:d=61
      ·subst h2;simp[dopL,dix,hitB,sgn,opGo,qdf,comL]
      ·simp[dopL,dix,hitB,sgn,opGo,qdf,comL,h2,qgs]
    ·by_cases h6:c=60
     ·subst h6;cases r with
      | nil=>exact⟨rfl,fun h=>by cases h⟩
      | cons d r=>
       by_cases h2:d=61
       ·subst h2;simp[dopL,dix,hitB,sgn,opGo,qdf,comL]
       ·simp[dopL,dix,hitB,sgn,opGo,qdf,comL,h2]
     ·by_cases h7:c=62
      ·subst h7;cases r with
       | nil=>exact⟨rfl,fun h=>by cases h⟩
       | cons d r=>
        by_cases h2:d=61
        ·subst h2;simp[dopL,dix,hitB,sgn,opGo,qdf,comL]
        ·simp[dopL,dix,hitB,sgn,opGo,qdf,comL,h2]
      ·simp[dopL,dix,hitB,sgn,opGo,qdf,comL,h1,h4,h5,h6,h7,qgs]
open Nat renaming le_of_ble_eq_true → qbsf
set_option maxHeartbeats 4000000
set_option maxRecDepth 100000
def qrr:Array Value:=#[.string ⟨#[61,61,61]⟩,.string ⟨#[61,61]⟩,.string ⟨#[33,61]⟩,.string ⟨#[126,61]⟩,.string ⟨#[60,61]⟩,.string ⟨#[62,61]⟩,.string ⟨#[60]⟩,.string ⟨#[62]⟩]
theorem Rops_any (w:World):Calls Tryz.prog 89 #[] w fun e w'=>e=.returned (.slice (some ⟨w.heap.size,0,none⟩) 8 8)∧w'=w.alloc (.cells qrr 9):=by
 go_enter Tryz.func89,Tryz.ntmps89
 (go_wp2_with fail);go_ret
 exact⟨rfl,rfl⟩
theorem d_cell (i:Nat) (h:i<8):qrr[i]? = some (.string (qd (sgn (dix[i]'h))))∧(sgn (dix[i]'h)).length≤3∧dix[i]'h<8:=by
 match i,h with
 | 0,_=>exact⟨rfl,qbsf rfl,qbsf rfl⟩
 | 1,_=>exact⟨rfl,qbsf rfl,qbsf rfl⟩
 | 2,_=>exact⟨rfl,qbsf rfl,qbsf rfl⟩
 | 3,_=>exact⟨rfl,qbsf rfl,qbsf rfl⟩
 | 4,_=>exact⟨rfl,qbsf rfl,qbsf rfl⟩
 | 5,_=>exact⟨rfl,qbsf rfl,qbsf rfl⟩
 | 6,_=>exact⟨rfl,qbsf rfl,qbsf rfl⟩
 | 7,_=>exact⟨rfl,qbsf rfl,qbsf rfl⟩
theorem dop_hit {l:QB} {i:Nat} (h:i<8) (h0:∀ k∈dix.take i,hitB l (sgn k)=false) (h1:hitB l (sgn (dix[i]'h))=true):dopL l=dix[i]'h:=by
 unfold dopL;have hf:(dix.find? fun k=>hitB l (sgn k))=some (dix[i]'h):=List.find?_eq_some_iff_getElem.2 ⟨h1,i,h,rfl,fun j hj=>by
  rw[h0 _ (List.mem_take_iff_getElem.2 ⟨j,by have:dix.length=8:=rfl;omega,rfl⟩)]
  rfl⟩
 rw[hf]
 rfl
theorem dop_none {l:QB} (h0:∀ k∈dix.take 8,hitB l (sgn k)=false):dopL l=8:=by
 unfold dopL;rw[List.find?_eq_none.2 (fun k hk=>by rw[h0 k hk];simp)]
 rfl
theorem dhalf_le (l:QB):qgs l≤l.length∧qgs l≤1:=by
 unfold qgs;cases l with
 | nil=>simp
 | cons c r=>split<;>simp
theorem dhalf_at (s:QY) (a:Nat) (h:a<s.size):qgs (s.data.toList.drop a)=if s[a]=126∨s[a]=33∨s[a]=61 then 1 else 0:=by
 unfold qgs;rw[qcj s a h];simp
theorem qbrp (s:QY) (a:Nat) (h:s.size≤a):qgs (s.data.toList.drop a)=0:=by
 rw[qdx s a h];simp[qgs]
theorem take_seg (l:QB) (a n:Nat):seg l a (a+n)=(l.drop a).take n:=by
 unfold seg;rw[List.drop_take]
 congr 1
 omega
theorem qql {R:Ending→World→Prop} (tmps:Array Value) (W:World) (v4 v5 v6:Value) (h4:tmps.getD 4 undef=v4) (h5:tmps.getD 5 undef=v5) (h6:tmps.getD 6 undef=v6) (hR:R (.returned (.tuple #[v4,v5,v6])) W):bodyPost Tryz.prog Tryz.f63 R .ret { tmps:=tmps,defers:=[] } W:=by
 rw[Array.getD_eq_getD_getElem?]at h4 h5 h6;refine⟨rfl,_,?_,hR⟩;simp[results,Tryz.results63,go_sem,h4,h5,h6]
 try rfl
theorem Rop_any (s:QY) (a:Nat) (w:World) (hs:s.size≤256) (ha:a≤s.size) :
  Calls Tryz.prog 63 #[.string s,.int .i64 (a:Int)] w fun e w'=>e=.returned (.tuple #[.string (qd (sgn (dopL (s.data.toList.drop a)))),
   .int .i64 ((if dopL (s.data.toList.drop a)=8 then a+qgs (s.data.toList.drop a) else a+(sgn (dopL (s.data.toList.drop a))).length:Nat):Int),
   .int .i64 (if dopL (s.data.toList.drop a)=8 then misL s.size (a+qgs (s.data.toList.drop a)) else 0)])∧Below w.heap.size w w':=by
 have HH:Hid (∀ n,n≤s.size-a→∀ p:QB,p.length=n→((s.extract a (a+n)).toList==(qd p).toList)=hitB (s.data.toList.drop a) p):=qb fun n hn p hp=>by
  rw[toL,toL,qj,qdd,take_seg];unfold hitB;rw[hp,decide_eq_true (by rw[List.length_drop,qg];exact hn),Bool.true_and]
 have HL:Hid (∀ p:QB,s.size-a<p.length→hitB (s.data.toList.drop a) p=false):=qb fun p hp=>by
  unfold hitB;rw[decide_eq_false (by rw[List.length_drop,qg];omega),Bool.false_and]
 have HD1:=qb (fun h=>dhalf_at s a h);have HD2:=qb (fun h=>qbrp s a h);generalize hl:s.data.toList.drop a=l at *;clear hl;generalize hTV:Value.tuple #[.string (qd (sgn (dopL l))),_,_]=TV;have HTV:=qb hTV;clear hTV;go_enter Tryz.func63,Tryz.ntmps63
 (go_wp2_with fail);refine(Rops_any _).mono ?_;rintro e w1 ⟨rfl,rfl⟩;have n0:=World.alloc_heap_new w (.cells qrr 9);have b0:Below w.heap.size w (w.alloc (.cells qrr 9)):=(Below.refl _ w).alloc (Nat.le_refl _) _;generalize w.alloc (.cells qrr 9)=W1 at *;have N0:=qb n0;have B0:=qb b0;clear n0 b0
 try dsimp only
 (go_wp2_with fail);go_loopw [8] (fun y wr=>∃ i:Nat,i≤8∧y=.int .i64 i∧Hid (∀ k∈dix.take i,hitB l (sgn k)=false)∧Hid (wr.heap[w.heap.size]? = some (.cells qrr 9 (0,0)))∧Below w.heap.size w wr) (fun y _=>8-(intOf y).toNat)
 case atStart=>exact⟨0,by omega,rfl,qb (fun k hk=>by cases hk),N0,B0.out⟩
 case round=>
  obtain⟨i,hi,rfl,H0,HR,hb⟩:=hrel
  by_cases hlt:i<8
  ·have hlt':(i:Int)<8:=by omega
   obtain ⟨d1,d2,d3⟩:=d_cell i hlt;have c0:=qc i HR.out d1;have HIT:=qb (fun h1=>dop_hit hlt H0.out h1);have HNX:Hid (hitB l (sgn (dix[i]'hlt))=false→∀ k∈dix.take (i+1),hitB l (sgn k)=false):=qb fun h1 k hk=>by
    rw[List.take_succ_eq_append_getElem hlt]at hk;rcases List.mem_append.1 hk with hk|hk
    ·exact H0.out k hk
    ·rw[List.mem_singleton.1 hk];exact h1
   generalize dix[i]'hlt=k at *;obtain⟨n,hn⟩:∃ n,a+(sgn k).length=n:=⟨_,rfl⟩;have hN:(a:Int)+((qd (sgn k)).size:Int)=(n:Int):=by rw[qr];omega
   have hn3:n≤300:=by omega
   have HNN:=qb hn;have HK8:=qb d3;clear d1 d3 hn
   by_cases hle:n≤s.size
   ·have hd:decide ((n:Int)≤(s.size:Int))=true:=by simp;omega
    have han:(a:Int)≤(n:Int):=by have:=HNN.out;omega
    have hq:=HH.out (sgn k).length (by have:=HNN.out;omega) (sgn k) rfl
    rw[HNN.out]at hq;cases hh:hitB l (sgn k)
    ·rw[hh]at hq;have H1:=qb (HNX.out hh);clear hh;(go_wp2_with fail);go_quiet (fail)
     (go_wp2_with fail);go_roundw
     case rel=>exact⟨i+1,by omega,by go_num,H1,qb (by rw[qbx];exact HR.out),hb.trans (qz _ _ _)⟩
     case measure=>simp[intOf];omega
    ·rw[hh]at hq;have HJ:=qb (HIT.out hh);clear hh;(go_wp2_with fail);go_quiet (fail)
     (go_wp2_with fail);refine qql _ _ _ _ _ rfl rfl rfl ⟨?_,hb.trans (qz _ _ _)⟩;have hk8:=HK8.out;rw[←HTV.out,HJ.out,if_neg (by omega),if_neg (by omega),HNN.out]
     rfl
   ·have hd:decide ((n:Int)≤(s.size:Int))=false:=by simp;omega
    have H1:=qb (HNX.out (HL.out _ (by have:=HNN.out;omega)))
    (go_wp2_with fail);go_quiet (fail)
    (go_wp2_with fail);go_roundw
    case rel=>exact⟨i+1,by omega,by go_num,H1,qb (by rw[qbx];exact HR.out),hb.trans (qz _ _ _)⟩
    case measure=>simp[intOf];omega
  ·obtain rfl:i=8:=by omega
   have HJ:=qb (dop_none H0.out);have HT8:Hid (TV=.tuple #[.string ⟨#[]⟩,.int .i64 ((a+qgs l:Nat):Int),.int .i64 (misL s.size (a+qgs l))]):=qb (by rw[←HTV.out,HJ.out,if_pos rfl,if_pos rfl];rfl)
   by_cases hin:a<s.size
   ·have hin':(a:Int)<(s.size:Int):=by omega
    have hdh:=HD1.out hin
    by_cases half:s[a]=126∨s[a]=33∨s[a]=61
    ·rw [if_pos half]at hdh;rw[hdh]at HT8;clear hdh
     by_cases he:a+1=s.size
     ·have HT9:Hid (TV=.tuple #[.string ⟨#[]⟩,.int .i64 (s.size:Int),.int .i64 11]):=qb (by rw[HT8.out,he];unfold misL;rw[if_pos rfl])
      have hge:(s.size:Int)≤(a:Int)+1:=by omega
      clear he;rcases half with h|h|h
      ·have qq:(s[a].toNat:Int)=126:=by rw[h];rfl
       have q126:((s[a].toNat:Int)==126)=true:=by rw[qq];rfl
       have q33:((s[a].toNat:Int)==33)=false:=by rw[qq];rfl
       have q61:((s[a].toNat:Int)==61)=false:=by rw[qq];rfl
       clear qq h;(go_wp2_with fail);refine qql _ _ _ _ _ rfl rfl rfl ⟨?_,hb⟩;rw[HT9.out]
       rfl
      ·have qq:(s[a].toNat:Int)=33:=by rw[h];rfl
       have q126:((s[a].toNat:Int)==126)=false:=by rw[qq];rfl
       have q33:((s[a].toNat:Int)==33)=true:=by rw[qq];rfl
       have q61:((s[a].toNat:Int)==61)=false:=by rw[qq];rfl
       clear qq h;(go_wp2_with fail);refine qql _ _ _ _ _ rfl rfl rfl ⟨?_,hb⟩;rw[HT9.out]
       rfl
      ·have qq:(s[a].toNat:Int)=61:=by rw[h];rfl
       have q126:((s[a].toNat:Int)==126)=false:=by rw[qq];rfl
       have q33:((s[a].toNat:Int)==33)=false:=by rw[qq];rfl
       have q61:((s[a].toNat:Int)==61)=true:=by rw[qq];rfl
       clear qq h;(go_wp2_with fail);refine qql _ _ _ _ _ rfl rfl rfl ⟨?_,hb⟩;rw[HT9.out]
       rfl
     ·have HT9:Hid (TV=.tuple #[.string ⟨#[]⟩,.int .i64 ((a:Int)+1),.int .i64 10]):=qb (by rw[HT8.out];unfold misL;rw[if_neg he];simp)
      have hge:¬ (s.size:Int)≤(a:Int)+1:=by omega
      clear he;rcases half with h|h|h
      ·have qq:(s[a].toNat:Int)=126:=by rw[h];rfl
       have q126:((s[a].toNat:Int)==126)=true:=by rw[qq];rfl
       have q33:((s[a].toNat:Int)==33)=false:=by rw[qq];rfl
       have q61:((s[a].toNat:Int)==61)=false:=by rw[qq];rfl
       clear qq h;(go_wp2_with fail);refine qql _ _ _ _ _ rfl rfl rfl ⟨?_,hb⟩;rw[HT9.out]
       rfl
      ·have qq:(s[a].toNat:Int)=33:=by rw[h];rfl
       have q126:((s[a].toNat:Int)==126)=false:=by rw[qq];rfl
       have q33:((s[a].toNat:Int)==33)=true:=by rw[qq];rfl
       have q61:((s[a].toNat:Int)==61)=false:=by rw[qq];rfl
       clear qq h;(go_wp2_with fail);refine qql _ _ _ _ _ rfl rfl rfl ⟨?_,hb⟩;rw[HT9.out]
       rfl
      ·have qq:(s[a].toNat:Int)=61:=by rw[h];rfl
       have q126:((s[a].toNat:Int)==126)=false:=by rw[qq];rfl
       have q33:((s[a].toNat:Int)==33)=false:=by rw[qq];rfl
       have q61:((s[a].toNat:Int)==61)=true:=by rw[qq];rfl
       clear qq h;(go_wp2_with fail);refine qql _ _ _ _ _ rfl rfl rfl ⟨?_,hb⟩;rw[HT9.out]
       rfl
    ·rw [if_neg half]at hdh;rw[hdh]at HT8;clear hdh;have HT9:Hid (TV=.tuple #[.string ⟨#[]⟩,.int .i64 (a:Int),.int .i64 10]):=qb (by rw[HT8.out];unfold misL;rw[if_neg (by omega)];simp)
     have hge:¬ (s.size:Int)≤(a:Int):=by omega
     have N126:s[a]≠126:=fun e=>half (.inl e);have N33:s[a]≠33:=fun e=>half (.inr (.inl e));have N61:s[a]≠61:=fun e=>half (.inr (.inr e));have q126:((s[a].toNat:Int)==126)=false:=by
      simp only[beq_eq_false_iff_ne,ne_eq];intro e;exact N126 (UInt8.toNat_inj.1 (by show _=126;omega))
     have q33:((s[a].toNat:Int)==33)=false:=by
      simp only[beq_eq_false_iff_ne,ne_eq];intro e;exact N33 (UInt8.toNat_inj.1 (by show _=33;omega))
     have q61:((s[a].toNat:Int)==61)=false:=by
      simp only[beq_eq_false_iff_ne,ne_eq];intro e;exact N61 (UInt8.toNat_inj.1 (by show _=61;omega))
     clear half N126 N33 N61;(go_wp2_with fail);refine qql _ _ _ _ _ rfl rfl rfl ⟨?_,hb⟩;rw[HT9.out]
     rfl
   ·have hin':¬ (a:Int)<(s.size:Int):=by omega
    have hdh:=HD2.out (by omega)
    rw[hdh]at HT8;have HT9:Hid (TV=.tuple #[.string ⟨#[]⟩,.int .i64 (s.size:Int),.int .i64 11]):=qb (by rw[HT8.out,show a+0=s.size by omega];unfold misL;rw[if_pos rfl])
    have hge:(s.size:Int)≤(a:Int):=by omega
    clear hdh;(go_wp2_with fail);refine qql _ _ _ _ _ rfl rfl rfl ⟨?_,hb⟩;rw[HT9.out]
    rfl
set_option maxHeartbeats 2000000
set_option maxRecDepth 100000
def valT (ts:List QB):List Value:=ts.map fun t=>.string (qd t)
theorem qvm (ts:List QB):(valT ts).length=ts.length*1:=by simp[valT]
theorem qvs (ts:List QB):∀ u∈valT ts,u.oneCell'=true:=by
 intro u hu;simp only[valT,List.mem_map]at hu;obtain⟨t,_,rfl⟩:=hu
 rfl
theorem qtf {W:World} {base:Nat} {v:Value} {ts:List QB} (h:W.ownsRow base 9 1 v ts.length (valT ts)):qx W v ts:=by
 rcases h.2 with ⟨rfl,h0⟩|⟨g,cap,cur,rfl,hg,hh,_,_,hsz,ht⟩
 ·exact⟨none,0,by rw[h0],.inl (List.length_eq_zero_iff.1 h0)⟩
 ·refine⟨_,cap,rfl,.inr ⟨g,0,rfl,(Array.getElem?_eq_some_iff.1 hh).1,fun i hi=>?_⟩⟩;refine qc _ hh ?_;have e:(valT ts)[i]? = some (.string (qd ts[i])):=by simp[valT,hi]
  rw[←ht,List.getElem?_take_of_lt (by omega)]at e
  rw[Nat.zero_add];simpa using e
theorem qvk {W:World} {b off:Nat} {ts:List QB} (hc:∀ i (h:i<ts.length),W.cell? ⟨b,off+i,none⟩=some (.string (qd ts[i]))):∀ j u,(valT ts)[j]? = some u→W.cell? ((⟨b,off,none⟩:Addr).add j)=some u:=by
 intro j u hu;obtain⟨hj,rfl⟩:=List.getElem?_eq_some_iff.1 hu;have hj':j<ts.length:=by simpa[valT] using hj
 have:=hc j hj';have ea:(Addr.add ⟨b,off,none⟩ j)=⟨b,off+j,none⟩:=by
  by_cases e0:j=0
  ·subst e0;rfl
  ·simp[Addr.add,e0]
 rw[ea];simpa[valT] using this
theorem qcv {W W':World} {base:Nat} {e:TypeId} {size:Nat} {v:Value} {n:Nat} {xs:List Value} (h:W.ownsRow base e size v n xs) (hB:base≤W.heap.size) (hg:W.grownBy W' v.ownBlock):Below base W W':=by
 refine⟨hg.os,hg.tape,hg.output,hg.size,fun k hk=>hg.block k (by omega) fun e=>?_⟩
 rcases h.2 with ⟨rfl,_⟩|⟨g,cap,cur,rfl,h2,_⟩
 ·cases e
 ·simp only[Value.ownBlock,Option.some.injEq]at e;omega
theorem qbqs (v:Value) (ts:List QB) (w:World) (hA:qx w v ts) (hl:ts.length≤1048576) (hnil:∀ n c,v=.slice none n c→c=0) :
  Calls Tryz.prog 194 #[v] w fun e w'=>∃ v',e=.returned v'∧w'.ownsRow w.heap.size 9 1 v' ts.length (valT ts)∧Below w.heap.size w w':=by
 obtain⟨i0,hi,hz0,hz1,hz2⟩:=info_parts Tryz.info9;obtain⟨aa,ca,rfl,hra⟩:=hA;have own0:(w.alloc (.cells #[] 9)).ownsRow w.heap.size 9 1 (.slice (some ⟨w.heap.size,0,none⟩) 0 0) 0 []:=⟨rfl,.inr ⟨w.heap.size,0,#[],rfl,Nat.le_refl _,World.alloc_heap_new w _,Nat.le_refl _,by unfold maxLen;omega,rfl,rfl⟩⟩
 have b0:Below w.heap.size w (w.alloc (.cells #[] 9)):=(Below.refl _ w).alloc (Nat.le_refl _) _;have HO:=qb own0;clear own0;cases aa with
 | none=>
  have hs:ts=[]:=by rcases hra with h|⟨b,off,h,_⟩;exact h;cases h
  subst hs;obtain rfl:=hnil _ _ rfl;have EQ:=Lib.run_eql_slice_nil (P:=Tryz.prog) w 37 9 none 0 0 0 0 Tryz.underlying37;simp only[Option.isNone]at EQ;go_enter Tryz.func194,Tryz.ntmps194
  (go_wp2_with fail);go_ret
  exact⟨_,rfl,World.ownsRow_nil _ _ _ _,Below.refl _ _⟩
 | some ad=>
  by_cases h0:ts=[]
  ·subst h0;have EQ:=Lib.run_eql_slice_nil (P:=Tryz.prog) w 37 9 (some ad) 0 ca 0 0 Tryz.underlying37;simp only[Option.isNone]at EQ;go_enter Tryz.func194,Tryz.ntmps194
   go_wp2_with (at_builtin;refine wpList_append_own _ rfl (.tmp 5) (.tmp 6) 37 rfl w.heap.size 9 i0 (.string .empty) 1 16 Tryz.underlying37 hi hz0 hz1 hz2 rfl (by decide) _ _ _ rfl HO.out ad 0 ca [] rfl rfl (fun j u h=>by simp at h) (fun u h=>by cases h) (by unfold maxLen;omega) (by omega) (by simp) ?_;intro v' w3 own1 grow1 _)
   go_ret
   exact⟨v',rfl,own1,b0.trans (qcv HO.out (by simp) grow1)⟩
  ·obtain ⟨b,off,hab,hlb,hc⟩:∃ b off,some ad=some ⟨b,off,none⟩∧b<w.heap.size∧∀ i (h:i<ts.length),w.cell? ⟨b,off+i,none⟩=some (.string (qd ts[i])):=by
    rcases hra with h1|h1
    ·exact absurd h1 h0
    ·exact h1
   cases hab;have HC:=qb (qvk (W:=w.alloc (.cells #[] 9)) (b:=b) (off:=off) (ts:=ts) (fun i h=>by rw[←hc i h];simp only[World.cell?];rw[b0.block b hlb]))
   clear hc;have EQ:=Lib.run_eql_slice_nil (P:=Tryz.prog) w 37 9 (some ⟨b,off,none⟩) ts.length ca 0 0 Tryz.underlying37;simp only[Option.isNone]at EQ;go_enter Tryz.func194,Tryz.ntmps194
   go_wp2_with (at_builtin;refine wpList_append_own _ rfl (.tmp 5) (.tmp 6) 37 rfl w.heap.size 9 i0 (.string .empty) 1 16 Tryz.underlying37 hi hz0 hz1 hz2 rfl (by decide) _ _ _ rfl HO.out ⟨b,off,none⟩ ts.length ca (valT ts) rfl (qvm ts) HC.out (qvs ts) (by unfold maxLen;omega) (by omega) (by simp) ?_;intro v' w3 own1 grow1 _)
   go_ret
   refine⟨v',rfl,?_,b0.trans (qcv HO.out (by simp) grow1)⟩
   have:=own1;simp only[Nat.zero_add,List.nil_append]at this;exact this
end Go.Proofs.YtabmfdedbpmfmaaGreat
