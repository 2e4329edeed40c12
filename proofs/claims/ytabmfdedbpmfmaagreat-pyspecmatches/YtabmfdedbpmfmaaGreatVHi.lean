/- Walks: the iterator over a text's clauses. -/
import Derived.Shelf.Abstract
import Derived.Shelf.RegionOpen
import Derived.OwnWalkIn
import Derived.TacticsInMore
import Derived.LoopNIn
import Derived.LoopIn
import Derived.Sort.QuietIn
import Derived.Laws.IdiomCopy
import Derived.Test.YtabmfdedbpmfmaaGreatVGp
import Derived.Test.YtabmfdedbpmfmaaGreatVHh
namespace Go.Proofs.YtabmfdedbpmfmaaGreat
open Go.RowKit Go.Shelf
open Go renaming World → QW, Value → QV
set_option linter.unusedVariables false
set_option maxHeartbeats 4000000
set_option maxRecDepth 100000
attribute [local go_sem] Oper.semAt_some
abbrev It:=Cl×QV×QV
def encC (x:It):Array QV:=#[.agg (clV x.1 x.2.1 x.2.2)]
def CX (items:List Cl) (pre:List It) (x:It) (W0 W:QW):Prop:=
 pre.map Prod.fst++[x.1] <+: items∧qx W x.2.1 x.1.x.rel∧qx W x.2.2 x.1.x.loc∧qbs W0.heap.size x.2.1∧qbs W0.heap.size x.2.2
def KpC (Bs:Nat) (Z W W':QW):Prop:=(∀ k cs t m,Z.heap.size≤k→W.heap[k]? = some (.cells cs t m)→W'.heap[k]? = some (.cells cs t m))∧W'.heap[Bs]? = W.heap[Bs]?
theorem qmk {W W':QW} (h:Below W.heap.size W W'):W.grownBy W' none:=⟨h.os,h.tape,h.output,h.size,fun k hk _=>h.block k hk⟩
theorem qgt {W W':QW} {B:Nat} {t:TypeId} {v:QV} (h:Boxed W B t v) (hb:Below W.heap.size W W'):Boxed W' B t v:=(hb.block B h.lt).trans h
theorem qbms {A B:List Cl} {x:Cl} (r:List Cl) (h:A=B++x::r):B++[x] <+: A:=⟨r,by rw[h];simp⟩
theorem qpm {W:QW} {c:Cl} {vr vl:QV} (h1:qx W vr c.x.rel) (h2:qx W vl c.x.loc):∀ v∈(clV c vr vl).toList,v.oneCell'=true:=by
 obtain⟨a1,c1,rfl,_⟩:=h1;obtain⟨a2,c2,rfl,_⟩:=h2;have f:∀ n,(fnV n).oneCell'=true:=fun n=>by unfold fnV;split<;>rfl
 intro v hv;simp only[clV,List.mem_cons,List.not_mem_nil,or_false]at hv;rcases hv with rfl|rfl|rfl|rfl|rfl|rfl|rfl|rfl|rfl|rfl|rfl|rfl|rfl|rfl|rfl|rfl|rfl|rfl<;>first|rfl|exact f _
theorem put61 {V:QW} {B:Nat} {Z cs:Array QV} (h:V.heap[B]? = some (.cells Z 61 (0,0))) (hz:Z.size=cs.size) (ho:∀ v∈cs.toList,v.oneCell'=true) :
  ∃ V',(storeCells ⟨B,0,none⟩ cs.toList).run Tryz.prog V=.ok () V'∧V'.heap[B]? = some (.cells cs 61 (0,0))∧Turn B V V':=by
 have ht:=qgn (n:=cs.toList.length) h (by simp[hz])
 have hr:=run_storeCells_cells (P:=Tryz.prog) B 0 cs.toList 0 V (fun j hj=>by rw[Nat.add_zero];exact(ht j hj).1) (fun j hj=>by rw[Nat.add_zero];exact(ht j hj).2) ho
 refine⟨_,hr,?_,?_⟩
 ·rw[qdn];have k:=qcn cs.toList V B 0 _ _ h;rw[qpk Z cs.toList (by simpa using hz)]at k
  simpa using k
 ·rw[qdn];exact qcg _ _ _ _
def Made (wr:QW) (X:Cl) (W':QW) (B:Nat) (vr vl:QV):Prop:=
 Below wr.heap.size wr W'∧wr.heap.size≤B∧W'.heap[B]? = some (.cells (clV X vr vl) 61 (0,0))∧qx W' vr X.x.rel∧qx W' vl X.x.loc∧qbs wr.heap.size vr∧qbs wr.heap.size vl
theorem qbrx {wr w4:QW} {Z:Array QV} {X:Cl} {vr vl:QV} (hz:Z.size=18) (b4:Below (wr.drew.alloc (.cells Z 61)).heap.size (wr.drew.alloc (.cells Z 61)) w4) (t1:qx w4 vr X.x.rel) (t2:qx w4 vl X.x.loc)
  (f1:qbs (wr.drew.alloc (.cells Z 61)).heap.size vr) (f2:qbs (wr.drew.alloc (.cells Z 61)).heap.size vl) :
  ∃ V',(storeCells ⟨wr.heap.size,0,none⟩ (clV X vr vl).toList).run Tryz.prog w4=.ok () V'∧Hid (Made wr X V' wr.heap.size vr vl):=by
 have hA:w4.heap[wr.heap.size]? = some (.cells Z 61 (0,0)):=(b4.block wr.heap.size (by simp)).trans (World.alloc_heap_new wr.drew _)
 obtain⟨V',hst,hl,ht⟩:=put61 (cs:=clV X vr vl) hA hz (qpm t1 t2);simp only[World.size_alloc,World.size_drew]at f1 f2;have hs4:wr.heap.size+1≤w4.heap.size:=by have:=b4.size;simpa using this
 have hb:Below wr.heap.size wr w4:=(((Below.refl wr.heap.size wr).drew).trans ((Below.refl _ wr.drew).alloc (Nat.le_refl _) _)).trans (b4.mono (by simp))
 refine⟨V',hst,hb.trans (ht.below (Nat.le_refl _) (by omega)),Nat.le_refl _,hl,?_,?_,f1.mono (Nat.le_succ _),f2.mono (Nat.le_succ _)⟩
 ·exact qdt t1 f1 (fun j h3 h4=>ht.block j h4 (by omega)) ht.size
 ·exact qdt t2 f2 (fun j h3 h4=>ht.block j h4 (by omega)) ht.size
theorem qbls {wr w4:QW} {Z:Array QV} {X:Cl} {vr vl:QV} (hz:Z.size=18) (b4:Below wr.drew.heap.size wr.drew w4) (t1:qx w4 vr X.x.rel) (t2:qx w4 vl X.x.loc)
  (f1:qbs wr.drew.heap.size vr) (f2:qbs wr.drew.heap.size vl) :
  ∃ V',(storeCells ⟨w4.heap.size,0,none⟩ (clV X vr vl).toList).run Tryz.prog (w4.alloc (.cells Z 61))=.ok () V'∧Hid (Made wr X V' w4.heap.size vr vl):=by
 obtain⟨V',hst,hl,ht⟩:=put61 (cs:=clV X vr vl) (World.alloc_heap_new w4 (.cells Z 61)) hz (qpm t1 t2);have hs4:wr.heap.size≤w4.heap.size:=b4.size;have hb:Below wr.heap.size wr w4:=((Below.refl wr.heap.size wr).drew).trans b4;have hk:∀ j,j<w4.heap.size→V'.heap[j]? = w4.heap[j]?:=fun j h=>(ht.block j (by simp;omega) (by omega)).trans (Below.heap_alloc w4 _ j h)
 have hsz:w4.heap.size≤V'.heap.size:=by have:=ht.size;simp at this;omega
 refine⟨V',hst,(hb.alloc hs4 _).trans (ht.below hs4 (by simp;omega)),hs4,hl,?_,?_,f1,f2⟩
 ·exact qdt (n:=0) t1 (f1.mono (Nat.zero_le _)) (fun j _ h4=>hk j h4) hsz
 ·exact qdt (n:=0) t2 (f2.mono (Nat.zero_le _)) (fun j _ h4=>hk j h4) hsz
theorem qps {F:Fence} {n:Nat} {P:Program} {ops:Array Oper} {rest:List Oper} {op:Oper} {a:Act} {w:QW} {Q:Exit→Act→QW→Prop} (hgd:op.guard=none) (ty:TypeId) (x:Operand) (ho:op.op=.load ty x)
  (b o:Nat) (hx:a.eval x=.pointer (some ⟨b,o,none⟩)) (cs:List QV) (d:TypeDesc) (hc:w.rangeAt b o cs)
  (hu:P.underlying ty=some d) (hd:d.isRow=true) (hi:(P.info? ty).map (·.size)=some cs.length)
  (h:wpListIn F n P ops Q rest (a.put op.dst (.agg cs.toArray)) w):wpListIn F n P ops Q (op::rest) a w:=by
 refine wpListIn_plain hgd fun K hK=>?_;unfold Oper.wpIn;refine⟨?_,?_⟩
 ·simp[Oper.about,ho]
 ·rw[Oper.semAt_plain F _ _ (by rw[ho];intro c hc';cases hc')]
  simp only[execOp,ho,hx,Instr.loadAt,Instr.sureAddr,Sem.run_bind,Sem.run_pure,Result.andThen_ok,run_loadVar_mid w b o ty cs d hc hu hd hi];exact hK _ _ h
theorem rowC_in (n : Nat) (hn:1≤n) (l Bs:Nat) (s:QY) (hs:s.size≤256) (J Jx:List It→QW→Prop) (B0:Nat) (hJ:AbidesFrom B0 J)
 (hY:∀ pre x W0 W,J pre W0→J pre W→Below W0.heap.size W0 W→CX (rowC s.data.toList 257 0) pre x W0 W→YieldAt Fence.wide (n-1) Tryz.prog l (encC x) W fun e W'=>
 (e=.returned (.bool true)∧x.1.er=0∧J (pre++[x]) W'∧KpC Bs W0 W W')∨(e=.returned (.bool false)∧Jx (pre++[x]) W'))
 (W:QW) (hBs:Boxed W Bs 9 (.string s)) (h0:J [] W) :
 CallsIn Fence.wide n Tryz.prog 87 #[.func (.yield l) #[] #[],.pointer (some ⟨Bs,0,none⟩)] W fun e W'=>(∃ v,e=.returned v) ∧
 ((∃ xs:List It,xs.map Prod.fst=rowC s.data.toList 257 0∧J xs W')∨(∃ pre:List It,pre.map Prod.fst <+: rowC s.data.toList 257 0∧Jx pre W')):=by
  refine callsIn_of_wp Tryz.func87 rfl trivial ?_ rfl;simp only[Tryz.ntmps87,List.size_toArray,List.length_cons,List.length_nil,Nat.reduceAdd,Nat.reduceSub,Array.replicate_succ,Array.replicate_zero,List.push_toArray,List.append_toArray,List.nil_append,List.cons_append];gi_wp2
  gi_loopw [3] (fun x wr=>∃ (c:Nat) (pre:List It),c≤s.size+1∧pre.length≤c∧x=.int .i64 c∧J pre wr∧Boxed wr Bs 9 (.string s) ∧
      Hid (rowC s.data.toList 257 0=pre.map Prod.fst++rowC s.data.toList (257-pre.length) c))
    (fun x _=>258-(intOf x).toNat)
  case atStart=>exact⟨0,[],by omega,by simp,rfl,h0,hBs,rfl⟩
  case round =>
    obtain⟨c,pre,hc,hp,rfl,hJs,bS,HR⟩:=hrel;have cS:=bS.cell
    by_cases hcs:c≤s.size
    · have hz := qgj s.data.toList c (by rw[qg];exact hcs)
      rw[qg]at hz;have RN:=fun W=>qjf s (c:Int) 6 W (by unfold maxLen;omega)
      have hr:runI s.data.toList (c:Int) 6=((skL s.data.toList c:Nat):Int):=by rw[qdl s c 6 hcs];unfold skL;omega
      rw[hr]at RN;have RC:=fun W=>qwj s (skL s.data.toList c) W hs hz.2;have hend:=fun h=>qblm (l:=s.data.toList) (a:=skL s.data.toList c) (by rw[qg];exact hz.2) h
      rw[qg]at hend;obtain⟨f,hf⟩:∃ f,257-pre.length=f+1:=⟨256-pre.length,by omega⟩
      rw[hf]at HR;have hB:=fun h=>rowC_bad (n:=f) (l:=s.data.toList) (a:=c) (by rw[qg];exact hcs) h
      have hG:=fun h=>rowC_go (n:=f) (l:=s.data.toList) (a:=c) (by rw[qg];exact hcs) h
      generalize clP s.data.toList (skL s.data.toList c)=X at *;generalize skL s.data.toList c=q at *;have hcb:decide ((c:Int)≤(s.size:Int))=true:=by simp;omega
      have HRN:=qb RN;have HRC:=qb RC;have HEND:=qb hend;have HB:=qb hB;have HG:=qb hG;clear RN RC hend hB hG hr;gi_wp2
      refine wpIn_mono (Q:=fun e a' W'=>e=.normal∧∃ (B:Nat) (vr vl:QV),a'={ tmps:=#[.func (.yield l) #[] #[],.pointer (some ⟨Bs,0,none⟩),undef,.int .i64 (c:Int),.pointer (some ⟨B,0,none⟩),.int .i64 (c:Int),.string s,.int .i64 (s.size:Int),.bool true,.string s,.string s,.int .i64 (c:Int),.int .i64 (q:Int),.agg (clV X vr vl),u14,u15,u16,u17,u18,u19,u20],defers:=[] } ∧
        Made wr X W' B vr vl) ?reg2 ?rest2
      case reg2 =>
        have hlt:=bS.lt;refine wpIn_wide.2 ?_
        go_region_held3 (fun w'=>w'.cell? ⟨Bs,0,none⟩=some (.string s)) (go_keep)
          ((first
            | (go_at_call 60;refine(HRN.out _).mono ?_;rintro e w3 ⟨rfl,rfl⟩)
            | (
               go_at_call 88;refine(HRC.out _).mono ?_;rintro e w4 ⟨b4,vr,vl,rfl,t1,t2,f1,f2⟩
               have d1:w4.cell? ⟨Bs,0,none⟩=some (.string s):=by first|exact(qgt (W:=wr.drew) bS b4).cell|exact(qgt (Boxed.alloc (W:=wr.drew) bS _) b4).cell
               first
                 | (
                    have hA:=qbrx rfl b4 t1 t2 f1 f2;obtain⟨V',hst,HQ⟩:=hA;have d2:V'.cell? ⟨Bs,0,none⟩=some (.string s):=(qgt bS HQ.out.1).cell)
                 | (
                    have hA:=qbls (Z:=#[.string ⟨#[]⟩,.nilFunc,.nilFunc,.bool false,.string ⟨#[]⟩,.slice none 0 0,.int .u8 0,.string ⟨#[]⟩,.bool false,.string ⟨#[]⟩,.bool false,.string ⟨#[]⟩,.slice none 0 0,.string ⟨#[]⟩,.bool false,.int .i64 0,.int .i64 0,.int .i64 0]) rfl b4 t1 t2 f1 f2;obtain⟨V',hst,HQ⟩:=hA;have d2:V'.cell? ⟨Bs,0,none⟩=some (.string s):=(qgt bS HQ.out.1).cell))
            | fail))
        all_goals exact⟨rfl,_,_,_,rfl,HQ.out⟩
      case rest2=>
        rintro _ _ W2 ⟨rfl,B,vr,vl,rfl,hb,hB,eB,t1,t2,f1,f2⟩;have hJ1:=hJ pre wr W2 none hJs (qmk hb) (fun r e=>by cases e)
        have bS1:=qgt bS hb
        have hpre:pre.map Prod.fst++[X] <+: rowC s.data.toList 257 0:=by
          by_cases hx:X.er=0
          · exact qbms _ (by rw[HR.out,HG.out hx])
          · exact qbms [] (by rw[HR.out,HB.out hx])
        have Y0:=hY pre (X,vr,vl) wr W2 hJs hJ1 hb ⟨hpre,t1,t2,f1,f2⟩;unfold encC clV at Y0;dsimp only at Y0;obtain⟨fn,tmps,assign,body,hy,hRd⟩:=Y0;have HEB:=qb eB;unfold clV at eB;obtain⟨r1,c1,rfl,_⟩:=id t1;obtain⟨q1,d1,rfl,_⟩:=id t2;obtain⟨x0,x1,x2,x3,x4,x5,x6,x7,x8,x9,x10,x11,x12,x13,x14,x15,x16,x17,_⟩:=qdc eB;clear t1 t2 f1 f2 hb eB;gi_wp2
        refine hRd.mono ?_;rintro e' W5 (⟨rfl,herr,hJ5,hK5⟩|⟨rfl,hJx5⟩)
        · obtain ⟨hen1,hen2⟩:=HEND.out herr
          have bS5:Boxed W5 Bs 9 (.string s):=hK5.2.trans bS1;have cE:W5.cell? ⟨B,16,none⟩=some (.int .i64 (X.e:Int)):=qc 16 (hK5.1 B _ _ _ hB HEB.out) rfl
          have HQ:Hid (rowC s.data.toList 257 0=(pre++[(X,Value.slice r1 X.x.rel.length c1,Value.slice q1 X.x.loc.length d1)]).map Prod.fst++rowC s.data.toList f (X.e+1)):=by
            show _=_;rw[HR.out,HG.out herr];simp
          clear x0 x1 x2 x3 x4 x5 x6 x7 x8 x9 x10 x11 x12 x13 x14 x15 x16 x17 hy hRd;gi_wp2
          go_roundw
          case rel=>exact⟨X.e+1,pre++[(X,.slice r1 X.x.rel.length c1,.slice q1 X.x.loc.length d1)],by omega,by simp;omega,by go_num,hJ5,bS5,by show _=_;rw[HQ.out,show 257-(pre++[((X,.slice r1 X.x.rel.length c1,.slice q1 X.x.loc.length d1):It)]).length=f by simp;omega]⟩
          case measure=>simp[intOf];omega
        · gi_wp2
          refine bodyPost_ret (results_none rfl _ _ _) rfl ?_;exact⟨⟨_,rfl⟩,.inr ⟨_,by rw[List.map_append];exact hpre,hJx5⟩⟩
    · have hcb:decide ((c:Int)≤(s.size:Int))=false:=by simp;omega
      have he:=qbgc (l:=s.data.toList) (a:=c) (by rw[qg];omega) (257-pre.length)
      rw[he,List.append_nil]at HR;gi_wp2
      refine bodyPost_end (results_none rfl _ _ _) rfl ?_;exact⟨⟨_,rfl⟩,.inl ⟨pre,HR.out.symm,hJs⟩⟩
end Go.Proofs.YtabmfdedbpmfmaaGreat
