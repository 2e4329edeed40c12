/- Walks: reading clauses. -/
import Derived.Test.YtabmfdedbpmfmaaGreatVGl
import Derived.Test.YtabmfdedbpmfmaaGreatVHi
import Derived.Test.YtabmfdedbpmfmaaGreatVGp
import Derived.RangeFuncBox
import Derived.Test.YtabmfdedbpmfmaaGreatVZc
import Derived.Test.YtabmfdedbpmfmaaGreatVHh
import Derived.Great.BuildSlice
import Derived.Maps.OwnIn
import Derived.Test.YtabmfdedbpmfmaaGreatVXa
import Derived.Deep.LoopGhost
import Derived.Deep.Cut
namespace Go.Proofs.YtabmfdedbpmfmaaGreat
open Go.RowKit Go.Shelf
set_option linter.unusedVariables false
variable {A A':Nat→Prop}
def clL (x:It):List Value:=(clV x.1 x.2.1 x.2.2).toList
theorem clL_len (x:It):(clL x).length=18:=rfl
def TxC (A:Nat→Prop) (W:World) (x:It):Prop:=qx W x.2.1 x.1.x.rel∧qx W x.2.2 x.1.x.loc∧Aw A x.2.1∧Aw A x.2.2
theorem TxC.keep {W W':World} {x:It} (h:TxC A W x) (hk:qfd A W W') (hA:∀ b,A b→b<W.heap.size→A' b):TxC A' W' x:=
 ⟨qzn h.1 h.2.2.1 hk,qzn h.2.1 h.2.2.2 hk,aw_to h.1 h.2.2.1 hA,aw_to h.2.1 h.2.2.2 hA⟩
def ClsV (Z:Nat) (W:World) (v:Value) (its:List It):Prop:=
 W.ownsRow Z 61 18 v its.length (its.flatMap clL)∧∀ x∈its,TxC (fun b=>Z≤b∧v.ownBlock≠some b) W x
theorem ClsV.nil (Z:Nat) (W:World):ClsV Z W (.slice none 0 0) []:=⟨World.ownsRow_nil _ _ _ _,fun x h=>by cases h⟩
theorem ClsV.keep {Z:Nat} {W W':World} {v:Value} {its:List It} (h:ClsV Z W v its) (hk:qfd (fun b=>Z≤b) W W'):ClsV Z W' v its:=
 ⟨qfm h.1 hk (fun g hg=>(qmv h.1 g hg).1),fun x hx=>(h.2 x hx).keep ⟨hk.1,fun b cs t m hb=>hk.2 b cs t m hb.1⟩ (fun b hb _=>hb)⟩
theorem ClsV.fresh {Z n:Nat} {W:World} {v:Value} {its:List It} {x:It} (h:ClsV Z W v its) (hz:Z≤W.heap.size) (hn:W.heap.size≤n) (h1:qbs n x.2.1) (h2:qbs n x.2.2):Aw (fun b=>Z≤b∧v.ownBlock≠some b) x.2.1∧Aw (fun b=>Z≤b∧v.ownBlock≠some b) x.2.2:=by
 have h3:∀ b,n≤b→Z≤b∧v.ownBlock≠some b:=fun b hb=>⟨by omega,fun e=>by have:=(qmv h.1 b e).2;omega⟩
 exact⟨qbdz h1 h3,qbdz h2 h3⟩
theorem ClsV.snoc {Z:Nat} {W W':World} {v v':Value} {its:List It} {x:It} (h:ClsV Z W v its) (hx:TxC (fun b=>Z≤b∧v.ownBlock≠some b) W x) (ho:W'.ownsRow Z 61 18 v' (its.length+1) (its.flatMap clL++clL x))
  (hg:W.grownBy W' v.ownBlock) (hp:v'.ownBlock=v.ownBlock∨v'.ownBlock=some W.heap.size):ClsV Z W' v' (its++[x]):=by
 have hk:qfd (fun b=>Z≤b∧v.ownBlock≠some b) W W':=qsk hg (fun b hb=>hb.2);have hA:∀ b,(Z≤b∧v.ownBlock≠some b)→b<W.heap.size→(Z≤b∧v'.ownBlock≠some b):=by
  rintro b ⟨hb1,hb2⟩ hb3;refine⟨hb1,?_⟩;rcases hp with hp|hp
  ·rw[hp];exact hb2
  ·rw[hp];intro e;simp only[Option.some.injEq]at e;omega
 refine⟨by simpa[List.flatMap_append] using ho,fun y hy=>?_⟩
 rcases List.mem_append.1 hy with hy|hy
 ·exact(h.2 y hy).keep hk hA
 ·simp at hy;subst hy;exact hx.keep hk hA
end Go.Proofs.YtabmfdedbpmfmaaGreat
namespace Go.Proofs.YtabmfdedbpmfmaaGreat
open Go.RowKit Go.Shelf
set_option linter.unusedVariables false
set_option maxHeartbeats 4000000
set_option maxRecDepth 100000
theorem qbhk (s:QY) (w:World):Calls Tryz.prog 61 #[.string s] w fun e w'=>e=.returned (.func (.func 87) #[] #[.pointer (some ⟨w.heap.size,0,none⟩)])∧w'=w.alloc (.cells #[.string s] 9):=by
 go_enter Tryz.func61,Tryz.ntmps61
 (go_wp2_with fail);go_ret
 exact⟨rfl,rfl⟩
theorem size32:(Tryz.prog.info? 32).map (·.size)=some 3:=by kernel_rfl
theorem qbrt {W:World} {B:Nat} {z0 z1 z2:Value} (h:W.heap[B]? = some (.cells #[z0,z1,z2] 32 (0,0))) (a0 a1 a2:Value) :
  ∃ W',W'=((W.setCell ⟨B,0,none⟩ a0).setCell ⟨B,1,none⟩ a1).setCell ⟨B,2,none⟩ a2∧W'.heap[B]? = some (.cells #[a0,a1,a2] 32 (0,0))∧Turn B W W':=by
 refine⟨putL W B 0 [a0,a1,a2],rfl,?_,qcg _ W B 0⟩;have k:=qcn [a0,a1,a2] W B 0 _ _ h;have hc:qfj #[z0,z1,z2] 0 [a0,a1,a2]=#[a0,a1,a2]:=by simp[qfj]
 rwa [hc]at k
theorem plain_cl (x:PepL) (r1 q1:Option Addr) (c1 d1:Nat) (sg t:QY) (f g:Value) (o st:Bool) (a b er:Int) (w:World) :
  Calls Tryz.prog 30 #[.agg #[.string sg,f,g,.bool o,.string (qd x.ep),.slice r1 x.rel.length c1,.int .u8 x.c,.string (qd x.n),.bool x.b,.string (qd x.m),.bool x.d,.string (qd x.k),.slice q1 x.loc.length d1,.string t,.bool st,.int .i64 a,.int .i64 b,.int .i64 er]] w fun e w'=>e=.returned (.agg #[.string sg,.string t,.bool st])∧Below w.heap.size w w':=by
 obtain⟨V,hV,n1,n2,bV,sV⟩:=qm w #[.string sg,f,g,.bool o,.string (qd x.ep),.slice r1 x.rel.length c1,.int .u8 x.c,.string (qd x.n),.bool x.b,.string (qd x.m),.bool x.d,.string (qd x.k),.slice q1 x.loc.length d1,.string t,.bool st,.int .i64 a,.int .i64 b,.int .i64 er] #[.string ⟨#[]⟩,.string ⟨#[]⟩,.bool false] 61 32;obtain⟨s0,s1,s2,s3,s4,s5,s6,s7,s8,s9,s10,s11,s12,s13,s14,s15,s16,s17,s_0,s_1,s_2,s_3,s_4,s_5,s_6,s_7,s_8,s_9,s_10,s_11,s_12,s_13,s_14,s_15,s_16,s_17⟩:=qdc n1;have x0:=qc 0 n2 rfl;have x1:=qc 1 n2 rfl;have x2:=qc 2 n2 rfl;have y0:=qf 0 n2;have y1:=qf 1 n2;have y2:=qf 2 n2;obtain⟨W9,hW9,h9,T9⟩:=qbrt n2 (.string sg) (.string t) (.bool st);have HW9:=qb hW9;have H9:=qb h9;have HB:=qb (bV.trans (T9.below (by omega) bV.size))
 clear n1 n2 bV hW9 h9 T9;go_enter Tryz.func30,Tryz.ntmps30
 (go_wp2_with fail);rw[←HW9.out];refine bodyPost_ret (results_cell_row rfl _ _ (w.heap.size+1) 32 _ (0,0) _ rfl H9.out Tryz.underlying32 rfl size32) rfl ?_;exact⟨rfl,HB.out⟩
open Go renaming World → QW
def qbbc (r:Int×Nat×List Cl) (w:QW) (e:Ending) (w':QW):Prop:=
 Below w.heap.size w w'∧∃ v,e=.returned (.tuple #[v,.agg #[.int .i64 r.1,.int .i64 (r.2.1:Int)]])∧∃ its:List It,its.map Prod.fst=r.2.2∧ClsV w.heap.size w' v its
structure RJ (w:QW) (s:QY) (its:List It) (e p:Int) (W:QW):Prop where
 str:Boxed W w.heap.size 9 (.string s)
 res:W.heap[w.heap.size+1]? = some (.cells #[.int .i64 0,.int .i64 0] 25 (0,0))
 row:∃ v,Boxed W (w.heap.size+2) 50 v∧ClsV (w.heap.size+5) W v its
 flt:W.heap[w.heap.size+3]? = some (.cells #[.int .i64 e,.int .i64 p] 25 (0,0))
 itr:Boxed W (w.heap.size+4) 9 (.string s)
 bel:Below w.heap.size w W
theorem RJ.sz {w W:QW} {s:QY} {its:List It} {e p:Int} (h:RJ w s its e p W):w.heap.size+5≤W.heap.size:=h.itr.lt
theorem RJ.own {w:QW} {s:QY} {its:List It} {e p:Int} {B0:Nat} (hB:w.heap.size+5≤B0):OwnFrom B0 (fun (_:Unit) W=>RJ w s its e p W):=by
 rintro u P Q row h hg hr;have K:qfd (fun _=>True) P Q:=qxl hg hr;obtain⟨v,h1,h2⟩:=h.row;exact⟨K.at_ trivial h.str,K.at_ trivial h.res,⟨v,K.at_ trivial h1,h2.keep ⟨K.1,fun b cs t m _=>K.2 b cs t m trivial⟩⟩,K.at_ trivial h.flt,K.at_ trivial h.itr,(ownFrom_below (β:=Unit) (Nat.le_refl _) (by omega)) () P Q row h.bel hg hr⟩
theorem RJ.next {w W W':QW} {s:QY} {its:List It} {e p:Int} (h:RJ w s its e p W) (hb:Below W.heap.size W W'):RJ w s its e p W':=by
 have K:qfd (fun _=>True) W W':=qbq hb;obtain⟨v,h1,h2⟩:=h.row;exact⟨K.at_ trivial h.str,K.at_ trivial h.res,⟨v,K.at_ trivial h1,h2.keep ⟨K.1,fun b cs t m _=>K.2 b cs t m trivial⟩⟩,K.at_ trivial h.flt,K.at_ trivial h.itr,h.bel.trans (hb.mono h.bel.size)⟩
theorem RJ.fault {w W:QW} {s:QY} {its:List It} {e p:Int} (h:RJ w s its e p W) (e' p':Int):RJ w s its e' p' ((W.setCell ⟨w.heap.size+3,0,none⟩ (.int .i64 e')).setCell ⟨w.heap.size+3,1,none⟩ (.int .i64 p')):=by
 have K:qfd (fun b=>b≠w.heap.size+3) W ((W.setCell ⟨w.heap.size+3,0,none⟩ (.int .i64 e')).setCell ⟨w.heap.size+3,1,none⟩ (.int .i64 p')):=(qld W _ 0 _ (fun b hb=>hb)).trans (qld _ _ 1 _ (fun b hb=>hb));obtain⟨v,h1,h2⟩:=h.row;exact⟨K.at_ (by omega) h.str,K.at_ (by omega) h.res,⟨v,K.at_ (by omega) h1,h2.keep ⟨K.1,fun b cs t m hb=>K.2 b cs t m (by omega)⟩⟩,qw 1 _ (qw 0 _ h.flt),K.at_ (by omega) h.itr,
  (h.bel.setCell (p:=⟨w.heap.size+3,0,none⟩) (by simp only;omega) _).setCell (p:=⟨w.heap.size+3,1,none⟩) (by simp only;omega) _⟩
theorem RJ.app {w W w3:QW} {s:QY} {its:List It} {x:It} {e p:Int} {v v':Value} (h:RJ w s its e p W) (hv:Boxed W (w.heap.size+2) 50 v) (hc:ClsV (w.heap.size+5) W v its) (hx:TxC (fun b=>w.heap.size+5≤b∧v.ownBlock≠some b) W x)
  (ho:w3.ownsRow (w.heap.size+5) 61 18 v' (its.length+1) (its.flatMap clL++clL x)) (hg:W.grownBy w3 v.ownBlock) (hp:v'.ownBlock=v.ownBlock∨v'.ownBlock=some W.heap.size) :
  RJ w s (its++[x]) e p (w3.setCell ⟨w.heap.size+2,0,none⟩ v')∧Boxed w3 (w.heap.size+2) 50 v:=by
 have hlt:=fun g hgv=>qmv hc.1 g hgv;have K:qfd (fun b=>b<w.heap.size+5) W w3:=qsk hg (fun b hb e=>by have:=(hlt b e).1;omega)
 have K2:qfd (fun b=>b≠w.heap.size+2) w3 (w3.setCell ⟨w.heap.size+2,0,none⟩ v'):=qld w3 _ 0 _ (fun b hb=>hb);have hs:=hc.snoc hx ho hg hp;have hb3:Below w.heap.size w w3:=h.bel.trans (qcv hc.1 h.sz hg |>.mono (by omega))
 have hv3:Boxed w3 (w.heap.size+2) 50 v:=K.at_ (by omega) hv
 exact ⟨⟨K2.at_ (by omega) (K.at_ (by omega) h.str),K2.at_ (by omega) (K.at_ (by omega) h.res),⟨v',hv3.set v',hs.keep ⟨K2.1,fun b cs t m hb=>K2.2 b cs t m (by omega)⟩⟩,K2.at_ (by omega) (K.at_ (by omega) h.flt),K2.at_ (by omega) (K.at_ (by omega) h.itr),
  hb3.setCell (p:=⟨w.heap.size+2,0,none⟩) (by simp only;omega) _⟩,hv3⟩
structure Goes29 (w:QW) (s:QY) (N:Nat) (pre:List It) (W:QW):Prop where
 fold:∀ rest,qfh N (pre.map Prod.fst++rest) []=qfh N rest (pre.map Prod.fst)
 ok:∀ x∈pre,x.1.er=0
 few:pre.length≤32
 rj:RJ w s pre 0 0 W
structure Left29 (w:QW) (s:QY) (N:Nat) (k:Code) (pre:List It) (W:QW):Prop where
 code:k=.exit 0
 is:∃ (e:Int) (p:Nat) (its:List It),e≠0∧(∀ rest,qfh N (pre.map Prod.fst++rest) []=(e,p,[]))∧RJ w s its e p W
theorem qbpt {N:Nat} {pre:List It} {x:It} (h:∀ rest,qfh N (pre.map Prod.fst++rest) []=qfh N rest (pre.map Prod.fst)) (h1:¬(pre.length=32∧x.1.s<N)) (h2:x.1.er=0) :
  ∀ rest,qfh N ((pre++[x]).map Prod.fst++rest) []=qfh N rest ((pre++[x]).map Prod.fst):=by
 intro rest;rw[List.map_append,List.append_assoc,h];show qfh N (x.1::rest) (pre.map Prod.fst)=_
 conv=>lhs;unfold qfh
 rw[if_neg (by rw[List.length_map];exact h1),if_neg (by rw[h2];simp)]
 rfl
theorem qbqc {N:Nat} {pre:List It} {x:It} (h:∀ rest,qfh N (pre.map Prod.fst++rest) []=qfh N rest (pre.map Prod.fst)) (h1:pre.length=32∧x.1.s<N) :
  ∀ rest,qfh N ((pre++[x]).map Prod.fst++rest) []=(12,x.1.s,[]):=by
 intro rest;rw[List.map_append,List.append_assoc,h];show qfh N (x.1::rest) (pre.map Prod.fst)=_;unfold qfh;rw[if_pos (by rw[List.length_map];exact h1)]
theorem qbfw {N:Nat} {pre:List It} {x:It} (h:∀ rest,qfh N (pre.map Prod.fst++rest) []=qfh N rest (pre.map Prod.fst)) (h1:¬(pre.length=32∧x.1.s<N)) (h2:x.1.er≠0) :
  ∀ rest,qfh N ((pre++[x]).map Prod.fst++rest) []=(x.1.er,x.1.e,[]):=by
 intro rest;rw[List.map_append,List.append_assoc,h];show qfh N (x.1::rest) (pre.map Prod.fst)=_;unfold qfh;rw[if_neg (by rw[List.length_map];exact h1),if_pos h2]
theorem qvz (s:QY) (Bs:Nat) (W1:QW) (hs:s.size≤256) (hB:Boxed W1 Bs 9 (.string s)) :
  SeqC Fence.wide 4 Tryz.prog 87 #[.pointer (some ⟨Bs,0,none⟩)] encC (CX (rowC s.data.toList 257 0)) (fun x=>x.1.er=0) (KpC Bs) (fun xs=>xs.map Prod.fst=rowC s.data.toList 257 0) (fun pre=>pre.map Prod.fst <+: rowC s.data.toList 257 0) W1:=by
 intro l J Jx W hW hJ hJx hY h0;exact rowC_in 4 (by omega) l Bs s hs J Jx W.heap.size hJ hY W (qgt hB hW) h0
theorem KpC.trans {Bs:Nat} {Z A B D:QW} (h:KpC Bs Z A B) (k:KpC Bs Z B D):KpC Bs Z A D:=⟨fun b cs t m hb hh=>k.1 b cs t m hb (h.1 b cs t m hb hh),k.2.trans h.2⟩
theorem qbpl {W:QW} {B:Nat} {t:TypeId} {v v':Value} (h:Boxed W B t v) (h':Boxed W B t v'):v=v':=by
 have e:=(show W.heap[B]? = _ from h).symm.trans (show W.heap[B]? = _ from h');simpa using e
theorem ClsV.weak {Z Z':Nat} {W:QW} {v:Value} {its:List It} (h:ClsV Z W v its) (hz:Z'≤Z):ClsV Z' W v its:=by
 refine⟨⟨h.1.1,?_⟩,fun x hx=>(h.2 x hx).keep ⟨Nat.le_refl _,fun b cs t m _ hh=>hh⟩ (fun b hb _=>⟨by omega,hb.2⟩)⟩
 rcases h.1.2 with h2|⟨g,cap,cur,hv,hg,r⟩
 ·exact .inl h2
 ·exact .inr ⟨g,cap,cur,hv,by omega,r⟩
theorem qbkc {A:Nat→Prop} {n₀:Nat} {W W':QW} (h:Past n₀ W W'):qfd A W W':=⟨h.1.size,fun b cs t m _ hh=>h.2 b _ hh rfl⟩
theorem qbcd {W W':QW} (h:Below W.heap.size W W'):KeepsOthers W W':=KeepsOthers.of_grownBy (qmk h) (fun j o ej _=>by cases ej)
theorem clP_lt {l:QB} {a:Nat} (h:(clP l a).er=0):a<l.length:=by
 by_cases ha:a<l.length
 ·exact ha
 ·exfalso;have hd:l.drop a=[]:=List.drop_eq_nil_of_le (by omega)
  unfold clP at h;rw[hd,if_pos (by decide)]at h
  revert h
  unfold misL;dsimp only;split<;>simp
theorem qbnn {l:QB} {x:Cl}:∀ n a,x∈rowC l n a→x.er=0→x.s<l.length
 | 0,a,h,_=>by cases h
 | n + 1,a,h,he=>by
  unfold rowC at h;split at h
  ·rcases List.mem_cons.1 h with rfl|h
   ·rw[clP_s];exact clP_lt he
   ·split at h
    ·exact qbnn n _ h he
    ·cases h
  ·cases h
open Go.Proofs.Tryz (prog)
def Z61:Array Value:=#[.string ⟨#[]⟩,.nilFunc,.nilFunc,.bool false,.string ⟨#[]⟩,.slice none 0 0,.int .u8 0,.string ⟨#[]⟩,.bool false,.string ⟨#[]⟩,.bool false,.string ⟨#[]⟩,.slice none 0 0,.string ⟨#[]⟩,.bool false,.int .i64 0,.int .i64 0,.int .i64 0]
theorem qbkg:(Tryz.prog.info? 61).map (fun i=>(i.zero,i.size,i.bytes))=some (some (.agg Z61),18,224):=by kernel_rfl
theorem qsg (w:World):(Instr.alloc 61 true (.tuple #[])).run prog w=.ok (.pointer (some ⟨w.heap.size,0,none⟩)) (w.alloc (.cells Z61 61)):=by
 obtain⟨i,hi,hz,hs,hb⟩:=info_parts qbkg;simp[Instr.alloc,zeroValue,typeInfo,hi,hz,Value.cells,go_sem]
theorem zero61:(Array.range (1*18)).map ((Value.agg Z61).cells[· % (Value.agg Z61).cells.size]!)=Z61:=by kernel_rfl
theorem fill61 (c:Cl) (vr vl:Value):Instr.fill (fun i=>some (i*18,18)) ((Array.range (1*18)).map ((Value.agg Z61).cells[· % (Value.agg Z61).cells.size]!)) [(0,.agg (clV c vr vl))]=some (clV c vr vl):=by
 rw[zero61];simp[Instr.fill,Z61,clV,Value.cells]
variable {F:Fence} {n:Nat} {ops:Array Oper} {rest:List Oper} {op:Oper} {a:Act} {w:World} {Q:Exit→Act→World→Prop}
theorem qqz (hgd:op.guard=none) (ho:op.op=.alloc 61) (h:wpListIn F n prog ops Q rest (a.put op.dst (.pointer (some ⟨w.heap.size,0,none⟩))) (w.alloc (.cells Z61 61))):wpListIn F n prog ops Q (op::rest) a w:=by
 refine wpListIn_plain hgd fun K hK=>?_;unfold Oper.wpIn;refine⟨?_,?_⟩
 ·simp[Oper.about,ho]
 ·rw[Oper.semAt_plain F _ _ (by rw[ho];intro c hc';cases hc')]
  simp only[execOp,ho,Sem.run_bind,Sem.run_pure,Result.andThen_ok,qsg];exact hK _ _ h
theorem qnz {P:Program} (hgd:op.guard=none) (ty:TypeId) (x y:Operand) (ho:op.op=.store ty x y)
  (b o:Nat) (cells:Array Value) (hx:a.eval x=.pointer (some ⟨b,o,none⟩)) (hy:a.eval y=.agg cells)
  (ht:w.there b o cells.size) (hi:(P.info? ty).map (·.size)=some cells.size) (h1:cells.all (·.oneCell')=true)
  (h:wpListIn F n P ops Q rest (a.put op.dst undef) (w.setCells b o cells.toList)):wpListIn F n P ops Q (op::rest) a w:=by
 refine wpListIn_plain hgd fun K hK=>?_;unfold Oper.wpIn;refine⟨?_,?_⟩
 ·simp[Oper.about,ho]
 ·rw[Oper.semAt_plain F _ _ (by rw[ho];intro c hc';cases hc')]
  simp only[execOp,ho,hx,hy,Instr.storeAt,Instr.sureAddr,Sem.run_bind,Sem.run_pure,Result.andThen_ok,run_storeVar_mid w b o ty cells ht hi h1];exact hK _ _ h
theorem qrv (hgd:op.guard=none) (x:Operand) (ho:op.op=.buildSlice 50 1 #[(0,x)]) (c:Cl) (vr vl:Value) (hx:a.eval x=.agg (clV c vr vl))
  (h:wpListIn F n prog ops Q rest (a.put op.dst (.slice (some ⟨w.heap.size,0,none⟩) 1 1)) (w.alloc (.cells (clV c vr vl) 61))):wpListIn F n prog ops Q (op::rest) a w:=by
 obtain⟨i,hi,hz,hs,hb⟩:=info_parts qbkg;have hr:=run_buildSlice (P:=prog) w 50 61 1 #[(0,.agg (clV c vr vl))] (clV c vr vl) i (.agg Z61) Tryz.underlying50 hi hz (by rw[hs];decide) (by rw[hs];decide) (by rw[hs];exact fill61 c vr vl)
 refine wpListIn_plain hgd fun K hK=>?_;unfold Oper.wpIn;refine⟨?_,?_⟩
 ·simp[Oper.about,ho]
 ·rw[Oper.semAt_plain F _ _ (by rw[ho];intro c hc';cases hc')]
  simp only[execOp,ho,List.map_toArray,List.map_cons,List.map_nil,hx,Sem.run_bind,Sem.run_pure,hr,Result.andThen_ok];exact hK _ _ h
theorem qblf (w:World) (b:Nat) (v:Value) (hc:w.cell? ⟨b,0,none⟩=some v):(Instr.loadAt 50 (.pointer (some ⟨b,0,none⟩))).run prog w=.ok v w:=by
 simp[Instr.loadAt,Instr.sureAddr,loadVar,hc,go_sem]
theorem size50:(Tryz.prog.info? 50).map (·.size)=some 1:=by kernel_rfl
theorem qbgx (w:World) (b:Nat) (u:Value) (x:Option Addr) (k c:Nat) (hc:w.cell? ⟨b,0,none⟩=some u) (hf:w.frozen? ⟨b,0,none⟩=false):(Instr.storeAt 50 (.pointer (some ⟨b,0,none⟩)) (.slice x k c)).run prog w=.ok () (w.setCell ⟨b,0,none⟩ (.slice x k c)):=by
 have hst:=run_storeCells_cells (P:=prog) b 0 [.slice x k c] 0 w (fun j hj=>by
  obtain rfl:j=0:=by simpa using hj
  simp[hc]) (fun j hj=>by
  obtain rfl:j=0:=by simpa using hj
  simpa using hf) (fun v hv=>by simp at hv;subst hv;rfl)
 have h5:=size50;cases hq:Tryz.prog.info? 50 with
 | none=>simp[hq]at h5
 | some i=>
  have hs:i.size=1:=by simpa[hq] using h5
  simp only[Nat.add_zero,World.setCells]at hst;simp[Instr.storeAt,Instr.sureAddr,storeVar,sizeOf,typeInfo,hq,hs,Value.cells,hst]
theorem qsq (hgd:op.guard=none) (x:Operand) (ho:op.op=.load 50 x) (b:Nat) (v:Value) (hx:a.eval x=.pointer (some ⟨b,0,none⟩)) (hc:w.cell? ⟨b,0,none⟩=some v)
  (h:wpListIn F n prog ops Q rest (a.put op.dst v) w):wpListIn F n prog ops Q (op::rest) a w:=by
 refine wpListIn_plain hgd fun K hK=>?_;unfold Oper.wpIn;refine⟨?_,?_⟩
 ·simp[Oper.about,ho]
 ·rw[Oper.semAt_plain F _ _ (by rw[ho];intro c hc';cases hc')]
  simp only[execOp,ho,hx,Sem.run_bind,Sem.run_pure,qblf w b v hc,Result.andThen_ok];exact hK _ _ h
theorem qqt (hgd:op.guard=none) (x y:Operand) (ho:op.op=.store 50 x y) (b:Nat) (u:Value) (v:Option Addr) (k c:Nat) (hx:a.eval x=.pointer (some ⟨b,0,none⟩)) (hy:a.eval y=.slice v k c) (hc:w.cell? ⟨b,0,none⟩=some u) (hf:w.frozen? ⟨b,0,none⟩=false)
  (h:wpListIn F n prog ops Q rest (a.put op.dst undef) (w.setCell ⟨b,0,none⟩ (.slice v k c))):wpListIn F n prog ops Q (op::rest) a w:=by
 refine wpListIn_plain hgd fun K hK=>?_;unfold Oper.wpIn;refine⟨?_,?_⟩
 ·simp[Oper.about,ho]
 ·rw[Oper.semAt_plain F _ _ (by rw[ho];intro c hc';cases hc')]
  simp only[execOp,ho,hx,hy,Sem.run_bind,Sem.run_pure,qbgx w b u v k c hc hf,Result.andThen_ok];exact hK _ _ h
end Go.Proofs.YtabmfdedbpmfmaaGreat
namespace Go.Proofs.YtabmfdedbpmfmaaGreat
open Go.RowKit Go.Shelf
open _root_.Array renaming getElem?_eq_some_iff → qbth
open Below renaming heap_setCell → qbtz
set_option linter.unusedVariables false
set_option maxHeartbeats 8000000
set_option maxRecDepth 100000
attribute [local go_sem] Oper.semAt_some
theorem fin29 {R:Ending→World→Prop} (tmps:Array Value) (Ds:List Nat) (W:World) (n₀ B:Nat) (v e p:Value) (h1:tmps.getD 2 undef=v) (h2:tmps.getD 3 undef=.pointer (some ⟨B,0,none⟩)) (e1:W.heap[B]? = some (.cells #[e,p] 25 (0,0)))
  (hnd:Ds.Nodup) (hD:∀ D∈Ds,n₀≤D∧W.heap[D]? = some (.deferred (some []))) (hR:∀ W',Past n₀ W W'→R (.returned (.tuple #[v,.agg #[e,p]])) W') :
  bodyPostM Fence.wide 5 Tryz.prog Tryz.f29 R .ret { tmps:=tmps,defers:=qbnv Ds } W:=by
 show LeavesInM _ _ _ _ _ _ _ _ _;refine qjj n₀ Ds W hnd hD ?_;intro W' hW';have k:=hW'.2 _ _ e1 rfl;have r0:=qc 0 k rfl;have r1:=qc 1 k rfl;rw[Array.getD_eq_getD_getElem?]at h1 h2;refine⟨_,?_,hR W' hW'⟩;simp[results,Tryz.results29,go_sem,h1,h2,r0,r1]
 try rfl
theorem qtj (s : QY) (w:World) (hs:s.size≤256) (h0:qn 6 s.data.toList≠s.size) :
 CallsIn Fence.wide 5 Tryz.prog 29 #[.string s] w (qbbc (qfh s.data.toList.length (rowC s.data.toList 257 0) []) w):=by
  refine callsIn_of_wp_marks Tryz.func29 rfl trivial (wpIn_wide.2 ?_) rfl;simp only[Tryz.ntmps29,List.size_toArray,List.length_cons,List.length_nil,Nat.reduceAdd,Nat.reduceSub,Array.replicate_succ,Array.replicate_zero,List.push_toArray,List.append_toArray,List.nil_append,List.cons_append];have hs':¬ (256:Int)<(s.size:Int):=by omega
  have HL:Hid (s.data.toList.length=s.size):=qg s;have RN:=fun W=>qjf s (0:Int) 6 W (by unfold maxLen;omega)
  have hr:runI s.data.toList (0:Int) 6=((qn 6 s.data.toList:Nat):Int):=by
    have:=qdl s 0 6 (Nat.zero_le _);simpa using this
  rw[hr]at RN;have hnb:(((qn 6 s.data.toList:Nat):Int)==(s.size:Int))=false:=by simp;omega
  replace RN:=qb RN;have CL:=qb (fun W=>qbhk s W);generalize hG:qfh s.data.toList.length (rowC s.data.toList 257 0) []=G;have HG:=qb hG;generalize qn 6 s.data.toList=r0 at *;clear hr hG h0;obtain⟨V0,hV0,n1,n2,bV,sV⟩:=qm w #[.string s] #[.int .i64 0,.int .i64 0] 9 25;have x0:=qc 0 n1 rfl;go_wp2_with fail
  try rw[hV0]
  clear hV0;go_step3
  (go_wp2_with fail);go_quiet (first|(go_at_call 60;exact Calls.quiet_of_same (RN.out _))|fail)
  have N1:Boxed (V0.drewN nq) w.heap.size 9 (.string s):=n1;have N2:(V0.drewN nq).heap[w.heap.size+1]? = some (.cells #[.int .i64 0,.int .i64 0] 25 (0,0)):=n2;have bW:Below w.heap.size w (V0.drewN nq):=bV.trans ((qz _ V0 nq).mono bV.size);have sW:(V0.drewN nq).heap.size=w.heap.size+2:=sV;generalize V0.drewN nq=V1 at *;clear n1 n2 bV sV x0;obtain⟨V2,hV2,n3,n4,b2,s2⟩:=qm V1 #[.slice none 0 0] #[.int .i64 0,.int .i64 0] 50 25;go_wp2_with fail
  try rw[hV2]
  clear hV2;rw[sW]at n3 n4 s2;have N3:Boxed V2 (w.heap.size+2) 50 (.slice none 0 0):=n3
  have RJ0:∀ V3,V3=V2.alloc (.cells #[.string s] 9)→RJ w s [] 0 0 V3∧V3.heap.size=w.heap.size+5:=by
    rintro V3 rfl;have b3:Below V2.heap.size V2 (V2.alloc (.cells #[.string s] 9)):=(Below.refl _ V2).alloc (Nat.le_refl _) _;refine⟨⟨(b3.block _ (by omega)).trans ((b2.block _ (by omega)).trans N1),(b3.block _ (by omega)).trans ((b2.block _ (by omega)).trans N2),⟨_,(b3.block _ (by omega)).trans N3,ClsV.nil _ _⟩,(b3.block _ (by omega)).trans n4,?_,(bW.trans (b2.mono (by omega))).trans (b3.mono (by omega))⟩,by simp;omega⟩
    have:=World.alloc_heap_new V2 (.cells #[.string s] 9);rw[s2]at this;exact this
  have x0:V2.cell? ⟨w.heap.size,0,none⟩=some (.string s):=qc 0 ((b2.block _ (by omega)).trans N1) rfl
  clear b2 n3 n4 N1 N2 N3 bW;go_step3
  (go_wp2_with fail);refine(CL.out _).mono ?_;rintro e V3 ⟨rfl,hV3⟩;obtain⟨J0,s3⟩:=RJ0 V3 hV3;rw[s2];rw[show w.heap.size+2+1=w.heap.size+3 from rfl];clear hV3 RJ0 x0 s2 sW;have x0:=J0.str.cell;(go_wp2_with fail);rw[show w.heap.size+2+2=w.heap.size+4 from rfl];refine(wpIn_wide (n:=5)).1 ?_;have HJ0:=qb J0;have hN5:w.heap.size+5≤V3.heap.size:=by omega
  clear J0 x0 V1 V0 RN CL hnb hs';obtain⟨ACT,hACT⟩:∃ ACT:It→Nat→Act,ACT=fun x B=>{ tmps:=#[.string s,.pointer (some ⟨w.heap.size,0,none⟩),.slice none 0 0,.pointer (some ⟨w.heap.size+1,0,none⟩),.pointer (some ⟨w.heap.size+2,0,none⟩),.pointer (some ⟨w.heap.size+3,0,none⟩),.pointer (some ⟨B,0,none⟩),.string s,.int .i64 (s.size:Int),.bool (decide ((256:Int)<(s.size:Int))),undef,.string s,.int .i64 (r0:Int),.string s,.int .i64 (s.size:Int),.bool false,undef,.string s,.func (.func 87) #[] #[.pointer (some ⟨w.heap.size+4,0,none⟩)],.agg (clV x.1 x.2.1 x.2.2),undef,undef,undef,undef,undef,undef,undef,undef,undef,undef,undef,undef,undef,undef,undef,undef,undef,undef,undef,undef,undef,undef,undef,undef,undef,undef,undef,undef,undef,undef,undef,undef,undef],defers:=[] }:=⟨_,rfl⟩
  refine qbjz (F:=Fence.wide) (n:=5) (α:=It) rfl (by omega) (gf:=87) (lb:=#[.pointer (some ⟨w.heap.size+4,0,none⟩)]) rfl trivial (enters_of Tryz.func87 (by kernel_rfl) rfl) (w0:=V3) (qvz s (w.heap.size+4) V3 hs HJ0.out.itr) (Below.refl _ _) (fun h k=>KpC.trans h k)
    (fun Z V l o o' hl ho hnc _=>⟨fun k cs t m _ hh=>(World.putObj_heap_other (by rintro rfl;rw[hh]at ho;cases ho;cases hnc)).trans hh,World.putObj_heap_other (by omega)⟩) (fun _=>rfl)
    (fun pre V=>Goes29 w s s.data.toList.length pre V) (fun k pre V=>Left29 w s s.data.toList.length k pre V)
    (fun pre A B row h hg hr=>⟨h.fold,h.ok,h.few,RJ.own hN5 () A B row h.rj hg hr⟩)
    (fun k pre A B row h hg hr=>⟨h.code,by obtain⟨e,p,its,h1,h2,h3⟩:=h.is;exact⟨e,p,its,h1,h2,RJ.own hN5 () A B row h3 hg hr⟩⟩)
    ⟨(fun rest=>rfl),(fun x h=>by cases h),(by simp),HJ0.out⟩ (fun pre x V h=>h.ok x (by simp))
    (fun pre x Z0 b V=>x.1∈rowC s.data.toList 257 0∧∃ B,b=ACT x B∧B<V.heap.size∧w.heap.size+5≤B∧V.heap[B]? = some (.cells (clV x.1 x.2.1 x.2.2) 61 (0,0))∧w.heap.size+5≤Z0.heap.size∧∃ v,Boxed V (w.heap.size+2) 50 v∧TxC (fun b=>w.heap.size+5≤b∧v.ownBlock≠some b) V x∧∀ g,v.ownBlock=some g→g<Z0.heap.size)
    (fun pre x Z0 b u A B row h hg hr=>by
      obtain⟨hm,B1,h1,h2,h3,h4,h5,v,h6,h7,h8⟩:=h;have K:qfd (fun _=>True) A B:=qxl hg hr;exact⟨hm,B1,h1,Nat.lt_of_lt_of_le h2 hg.size,h3,K.at_ trivial h4,h5,v,K.at_ trivial h6,h7.keep ⟨K.1,fun b cs t m _=>K.2 b cs t m trivial⟩ (fun b hb _=>hb),h8⟩)
    ?assign ?body ?done ?stop
  case assign=>
    rintro l pre x W0 V K2 hi0 hi hbl ⟨hpre,t1,t2,f1,f2⟩ hK2;obtain⟨v,hv,hc⟩:=hi0.rj.row;have hvV:Boxed V (w.heap.size+2) 50 v:=(hbl.block _ hv.lt).trans hv;have hsz:=hi0.rj.sz;have hawf:=hc.fresh hsz (Nat.le_refl _) f1 f2;have hlt:=fun g hg=>(qmv hc.1 g hg).2;obtain⟨x1,x2,x3⟩:=x;dsimp only at t1 t2 f1 f2 hawf hpre
    have fin:∀ W',Below V.heap.size V W'→W'.heap[V.heap.size]? = some (.cells (clV x1 x2 x3) 61 (0,0))→K2 (ACT (x1,x2,x3) V.heap.size) W':=fun W' hb hh=>
      hK2 _ _ ((KeepsOthers.of_grownBy (qmk hb) (fun j o ej _=>by cases ej)).from _) ⟨fun k cs t m _ hh=>(hb.block _ (qbth.1 hh).1).trans hh,hb.block _ hi.rj.itr.lt⟩ ⟨hi.fold,hi.ok,hi.few,hi.rj.next hb⟩
      ⟨hpre.subset (by simp),V.heap.size,rfl,(qbth.1 hh).1,hi.rj.sz,hh,hsz,v,(hb.block _ hvV.lt).trans hvV,⟨t1.below hb,t2.below hb,hawf⟩,hlt⟩
    rw[hACT]at fin;have hone:=all_oneCell_toArray (qpm t1 t2);have hZ:=World.alloc_heap_new V (.cells Z61 61);have hz:∀ T:Array Value,((#[19]:Array Tmp).zip (encC (x1,x2,x3))).foldl (fun t x=>match x with|(p,v)=>t.setIfInBounds p v) T=T.setIfInBounds 19 (.agg (clV x1 x2 x3)):=fun T=>by simp[encC]
    rw[hz];refine wpIn_region_lit ?_;refine qqz rfl rfl ?_;refine qnz rfl 61 (.tmp 6) (.tmp 19) rfl V.heap.size 0 (clV x1 x2 x3) rfl rfl (qgn hZ (Nat.le_refl _)) qhf (by simpa using hone) ?_
    have hT:=qcg (clV x1 x2 x3).toList (V.alloc (.cells Z61 61)) V.heap.size 0;have hh:=qcn (clV x1 x2 x3).toList (V.alloc (.cells Z61 61)) V.heap.size 0 _ _ hZ;rw[qpk Z61 (clV x1 x2 x3).toList rfl]at hh;have hb:Below V.heap.size V (V.alloc (.cells Z61 61)):=(Below.refl _ V).alloc (Nat.le_refl _) _;rw[qdn];exact fin _ (hb.trans (hT.below (Nat.le_refl _) hb.size)) (by simpa using hh)
  case body =>
    rintro lx pre x W0 b V hl _ hi ⟨hmem,B,rfl,hBl,hB5,eB,h5,v,hv,htx,hlt⟩;rw[hACT];clear hACT HJ0;obtain⟨x1,x2,x3⟩:=x;dsimp only at eB htx hmem ⊢;obtain⟨v0,hv0,hc⟩:=hi.rj.row;obtain rfl:=qbpl hv hv0;obtain⟨av,cv,rfl,_⟩:=qcl hc.1;obtain⟨i0,hi0,hz0,hz1,hz2⟩:=info_parts qbkg;have hfew:=hi.few;have cV:=hv.cell;have cS:=hi.rj.str.cell;have x15:V.cell? ⟨B,15,none⟩=some (.int .i64 (x1.s:Int)):=qc 15 eB rfl;have x16:V.cell? ⟨B,16,none⟩=some (.int .i64 (x1.e:Int)):=qc 16 eB rfl;have x17:V.cell? ⟨B,17,none⟩=some (.int .i64 x1.er):=qc 17 eB rfl;have f0:=qc 0 hi.rj.flt rfl;have f1:=qc 1 hi.rj.flt rfl;have g0:=qf 0 hi.rj.flt;have g1:=qf 1 hi.rj.flt;have HI:=qb hi;have HC:=qb hc;have HV:=qb hv;have HTX:=qb htx;have HEB:=qb eB;have HM:=qb hmem;clear hi hc hv hv0 htx eB hmem;generalize hR13:Code.region 13 _ _=R13
    by_cases hA:pre.length=32∧x1.s<s.size
    · have h32:((pre.length:Int)==32)=true:=by rw[hA.1];rfl
      have hss:(x1.s:Int)<(s.size:Int):=by omega
      have HF:=qb (HI.out.rj.fault 12 x1.s);have HFO:=qb (qbqc (x:=(x1,x2,x3)) HI.out.fold ⟨hA.1,by rw[HL.out];exact hA.2⟩)
      clear hA;gi_wp2
      exact⟨((KeepsOthers.setCell V _ _).trans (KeepsOthers.setCell _ _ _)).from _,⟨rfl,12,x1.s,pre,by decide,HFO.out,HF.out⟩⟩
    · have HNA : Hid (¬(pre.length=32∧((x1,x2,x3):It).1.s<s.data.toList.length)):=qb (by rw[HL.out];exact hA)
      by_cases h32n:pre.length=32
      · have h32:((pre.length:Int)==32)=true:=by rw[h32n];rfl
        have hss:¬ (x1.s:Int)<(s.size:Int):=by omega
        have herr:x1.er≠0:=fun h=>by have:=qbnn 257 0 HM.out h;rw[HL.out]at this;omega
        have n1:(x1.er != 0)=true:=by simpa using herr
        have HF:=qb (HI.out.rj.fault x1.er x1.e);have HFO:=qb (qbfw (x:=(x1,x2,x3)) HI.out.fold HNA.out herr);have HE:=qb herr;clear hA herr h32n;gi_wp2
        exact⟨((KeepsOthers.setCell V _ _).trans (KeepsOthers.setCell _ _ _)).from _,⟨rfl,x1.er,x1.e,pre,HE.out,HFO.out,HF.out⟩⟩
      · have h32:((pre.length:Int)==32)=false:=by simp;omega
        by_cases herr:x1.er=0
        · have n1:(x1.er != 0)=false:=by rw[herr];rfl
          clear hA;gi_wp2
          rw[←hR13];refine wpIn_region_lit ?_;refine qsq rfl (.tmp 4) rfl (w.heap.size+2) (.slice av pre.length cv) rfl cV ?_;refine qps rfl 61 (.tmp 6) rfl B 0 rfl _ _ (qht HEB.out) Tryz.underlying61 rfl qhf ?_;refine qrv rfl (.tmp 44) rfl x1 x2 x3 rfl ?_;have hal:Below V.heap.size V (V.alloc (.cells (clV x1 x2 x3) 61)):=(Below.refl _ V).alloc (Nat.le_refl _) _;have K0:qfd (fun _=>True) V (V.alloc (.cells (clV x1 x2 x3) 61)):=qbq hal;have hc1:ClsV (w.heap.size+5) (V.alloc (.cells (clV x1 x2 x3) 61)) (.slice av pre.length cv) pre:=HC.out.keep ⟨K0.1,fun b cs t m _=>K0.2 b cs t m trivial⟩;have hx1:=HTX.out.keep (A':=fun b=>w.heap.size+5≤b∧(Value.slice av pre.length cv).ownBlock≠some b) (⟨K0.1,fun b cs t m _=>K0.2 b cs t m trivial⟩:qfd _ V (V.alloc (.cells (clV x1 x2 x3) 61))) (fun b hb _=>hb);have hj1:=HI.out.rj.next hal;have hv1:Boxed (V.alloc (.cells (clV x1 x2 x3) 61)) (w.heap.size+2) 50 (.slice av pre.length cv):=K0.at_ trivial HV.out;refine wpListIn_append_own_at _ rfl _ _ 50 rfl (w.heap.size+5) 61 i0 (.agg Z61) 18 224 Tryz.underlying50 hi0 hz0 hz1 hz2 rfl (by decide) _ _ _ rfl hc1.1 ⟨V.heap.size,0,none⟩ 1 1 (clL (x1,x2,x3)) rfl rfl (qjh V (clV x1 x2 x3) 61) (qpm hx1.1 hx1.2.1) (by unfold maxLen;omega) (by omega) hj1.sz ?_
          intro v' w3 hown' hgrow _ hat;obtain⟨a',c',rfl,_⟩:=qcl hown';obtain⟨hj3,hv3⟩:=hj1.app hv1 hc1 hx1 hown' hgrow hat;refine qqt rfl (.tmp 4) (.tmp 46) rfl (w.heap.size+2) (.slice av pre.length cv) a' _ c' rfl rfl hv3.cell hv3.frozen ?_
          have hgc:∀ j o,(Value.slice av pre.length cv).ownBlock=some j→(V.alloc (.cells (clV x1 x2 x3) 61)).heap[j]? = some o→o.isCells=true:=fun j o ej hjo=>by
            rcases hc1.1.2 with ⟨h1,_⟩|⟨g,cap',cur,h1,_,hgb,_⟩
            · rw[h1]at ej;cases ej
            · rw[h1]at ej
              simp only[Value.ownBlock,Option.some.injEq]at ej;subst ej;rw[hgb]at hjo;cases hjo;rfl
          have hkeep:∀ k,k<V.heap.size→k≠w.heap.size+2→(Value.slice av pre.length cv).ownBlock≠some k→(w3.setCell ⟨w.heap.size+2,0,none⟩ (.slice a' (pre.length+1) c')).heap[k]? = V.heap[k]?:=fun k h1 h2 h3=>
            (qbtz _ _ _ k (by simp only;omega)).trans ((hgrow.block k (Nat.lt_of_lt_of_le h1 hal.size) (fun e=>h3 e.symm)).trans (hal.block k h1))
          refine⟨(((qbcd hal).trans (KeepsOthers.of_grownBy hgrow hgc)).trans (KeepsOthers.setCell _ _ _)).from _,⟨fun k cs t m hk hh=>(hkeep k (qbth.1 hh).1 (by omega) (fun e=>by have:=hlt k e;omega)).trans hh,hkeep _ HI.out.rj.itr.lt (by omega) (fun e=>by have:=(qmv HC.out.1 _ e).1;omega)⟩,⟨qbpt HI.out.fold HNA.out herr,?_,?_,hj3⟩⟩
          · intro y hy
            rcases List.mem_append.1 hy with hy|hy
            · exact HI.out.ok y hy
            · simp at hy;subst hy;exact herr
          · rw[List.length_append,List.length_singleton];omega
        · have n1:(x1.er != 0)=true:=by simpa using herr
          have HF:=qb (HI.out.rj.fault x1.er x1.e);have HFO:=qb (qbfw (x:=(x1,x2,x3)) HI.out.fold HNA.out herr);have HE:=qb herr;clear hA herr h32n;gi_wp2
          exact⟨((KeepsOthers.setCell V _ _).trans (KeepsOthers.setCell _ _ _)).from _,⟨rfl,x1.er,x1.e,pre,HE.out,HFO.out,HF.out⟩⟩
  case done=>
    rintro D xs V hD hS hi hdef;have hfold:=hi.fold [];rw[List.append_nil,hS,HG.out]at hfold;have HGE:Hid (G=(0,0,xs.map Prod.fst)):=qb (by rw[hS];exact hfold)
    obtain⟨v,hv,hc⟩:=hi.rj.row;obtain⟨av,cv,rfl,_⟩:=qcl hc.1;have HC:=qb hc;have HI:=qb hi.rj;have cV:=hv.cell;have x0:=qc 0 hi.rj.flt rfl;have x1:=qc 1 hi.rj.flt rfl;have y0:=qc 0 hi.rj.res rfl;have y1:=qc 1 hi.rj.res rfl;have z0:=qf 0 hi.rj.res;have z1:=qf 1 hi.rj.res;have HDF:=qb hdef;clear hfold hS hi hc hdef hACT HJ0 hv;dsimp only;(go_wp2_with fail);go_region
    all_goals
      (go_wp2_with fail);have e5:((V.setCell ⟨w.heap.size+1,0,none⟩ (.int .i64 0)).setCell ⟨w.heap.size+1,1,none⟩ (.int .i64 0)).drew.heap[w.heap.size+1]? = some (.cells #[.int .i64 0,.int .i64 0] 25 (0,0)):=qw 1 _ (qw 0 _ HI.out.res);have hK:qfd (fun b=>w.heap.size+5≤b) V ((V.setCell ⟨w.heap.size+1,0,none⟩ (.int .i64 0)).setCell ⟨w.heap.size+1,1,none⟩ (.int .i64 0)).drew:=(qld V _ 0 _ (fun b hb=>by omega)).trans (qld _ _ 1 _ (fun b hb=>by omega))
      have hb5:Below w.heap.size w ((V.setCell ⟨w.heap.size+1,0,none⟩ (.int .i64 0)).setCell ⟨w.heap.size+1,1,none⟩ (.int .i64 0)).drew:=((HI.out.bel.setCell (p:=⟨w.heap.size+1,0,none⟩) (Nat.le_succ _) _).setCell (p:=⟨w.heap.size+1,1,none⟩) (Nat.le_succ _) _).drew
      refine fin29 _ [D] _ w.heap.size (w.heap.size+1) _ _ _ rfl rfl e5 (by simp) (by
        intro E hE;simp at hE;subst hE;exact⟨by omega,(qbtz _ _ _ _ (by simp only;omega)).trans ((qbtz _ _ _ _ (by simp only;omega)).trans HDF.out)⟩) ?_
      intro W' hp;rw[HGE.out];exact⟨hb5.trans hp.1,_,rfl,xs,rfl,((HC.out.keep hK).keep (qbkc hp)).weak (by omega)⟩
  case stop=>
    rintro D k pre V hD ⟨rest,hrest⟩ hL hdef;obtain rfl:=hL.code;obtain⟨e,p,its,hne,hfold,hj⟩:=hL.is;have HGE:Hid (G=(e,p,[])):=qb (by rw[←HG.out,←hrest];exact hfold rest)
    have HI:=qb hj;have n1:(e != 0)=true:=by simpa using hne
    have x0:=qc 0 hj.flt rfl;have x1:=qc 1 hj.flt rfl;have y0:=qc 0 hj.res rfl;have y1:=qc 1 hj.res rfl;have z0:=qf 0 hj.res;have z1:=qf 1 hj.res;have HDF:=qb hdef;clear hfold hrest hL hj hdef hACT HJ0 hne;gi_wp2
    (go_wp2_with fail);go_region
    all_goals
      (go_wp2_with fail);have e5:((V.setCell ⟨w.heap.size+1,0,none⟩ (.int .i64 e)).setCell ⟨w.heap.size+1,1,none⟩ (.int .i64 (p:Int))).drew.heap[w.heap.size+1]? = some (.cells #[.int .i64 e,.int .i64 (p:Int)] 25 (0,0)):=qw 1 _ (qw 0 _ HI.out.res);have hb5:Below w.heap.size w ((V.setCell ⟨w.heap.size+1,0,none⟩ (.int .i64 e)).setCell ⟨w.heap.size+1,1,none⟩ (.int .i64 (p:Int))).drew:=((HI.out.bel.setCell (p:=⟨w.heap.size+1,0,none⟩) (Nat.le_succ _) _).setCell (p:=⟨w.heap.size+1,1,none⟩) (Nat.le_succ _) _).drew
      refine fin29 _ [D] _ w.heap.size (w.heap.size+1) _ _ _ rfl rfl e5 (by simp) (by
        intro E hE;simp at hE;subst hE;exact⟨by omega,(qbtz _ _ _ _ (by simp only;omega)).trans ((qbtz _ _ _ _ (by simp only;omega)).trans HDF.out)⟩) ?_
      intro W' hp;rw[HGE.out];exact⟨hb5.trans hp.1,_,rfl,[],rfl,ClsV.nil _ _⟩
end Go.Proofs.YtabmfdedbpmfmaaGreat
