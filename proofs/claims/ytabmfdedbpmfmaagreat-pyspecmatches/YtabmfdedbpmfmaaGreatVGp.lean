/- Walks: a clause without an operator. -/
import Derived.Test.YtabmfdedbpmfmaaGreatVHp
import Derived.Deep.Cut
import Derived.Great.BuildSlice
import Derived.Test.YtabmfdedbpmfmaaGreatVGl
import Derived.Test.YtabmfdedbpmfmaaGreatVQc
import Derived.Test.YtabmfdedbpmfmaaGreatVZc
import Derived.RangeFuncNested
import Derived.RangeFuncBound
import Derived.RangeFuncCalls
import Derived.RangeFuncLeaves
import Derived.Test.YtabmfdedbpmfmaaGreatVPa
import Derived.Deep.MidRow
import Derived.Test.YtabmfdedbpmfmaaGreatVPd
import Derived.Test.YtabmfdedbpmfmaaGreatVXa
namespace Go.Proofs.YtabmfdedbpmfmaaGreat
open Go.RowKit Go.Shelf
set_option linter.unusedVariables false
def PfPost (r:Int×Nat×List Cl) (w:World) (e:Ending) (w':World):Prop:=
 Below w.heap.size w w'∧∃ v,e=.returned (.tuple #[v,.agg #[.int .i64 r.1,.int .i64 (r.2.1:Int)]])∧PyAt w' v r.2.2∧qbs w.heap.size v
theorem PyAt.young {n:Nat} {W W':World} {v:Value} {cs:List Cl} (h:PyAt W v cs) (hf:qbs n v) (hk:∀ j,n≤j→j<W.heap.size→W'.heap[j]? = W.heap[j]?) (hs:W.heap.size≤W'.heap.size):PyAt W' v cs:=by
 obtain⟨a,c,rfl,h0|⟨g,rfl,hg,hc⟩⟩:=h
 ·exact⟨a,c,rfl,.inl h0⟩
 ·exact⟨_,c,rfl,.inr ⟨g,rfl,Nat.lt_of_lt_of_le hg hs,fun j u hj=>(World.cell?_of_block (w:=W) (hk g (hf _ _ _ rfl).1 hg)).trans (hc j u hj)⟩⟩
theorem qrq {W:World} {b:Nat}:∀ (cs:List Cl) (o:Nat),(∀ j u,(cs.flatMap plL)[j]? = some u→W.cell? ⟨b,o+j,none⟩=some u)→∀ i (h:i<cs.length),
  W.cell? ⟨b,o+i*3,none⟩=some (.string (qd (sgn cs[i].k)))∧W.cell? ⟨b,o+i*3+1,none⟩=some (.string (qd cs[i].t))∧W.cell? ⟨b,o+i*3+2,none⟩=some (.bool cs[i].st)
 | [],_,_,i,h=>by cases h
 | c::cs,o,hx,0,h=>by
  refine⟨?_,?_,?_⟩
  ·exact hx 0 _ rfl
  ·exact hx 1 _ rfl
  ·exact hx 2 _ rfl
 | c::cs,o,hx,i+1,h=>by
  have:=qrq (W:=W) (b:=b) cs (o+3) (fun j u hj=>by
   have:=hx (3+j) u (by rw[List.flatMap_cons,List.getElem?_append_right (by simp[plL])];simpa[plL] using hj)
   rwa [←Nat.add_assoc]at this) i (by simpa using h)
  rw[show o+(i+1)*3=o+3+i*3 by omega]
  exact this
theorem PyAt.cells {W:World} {v:Value} {cs:List Cl} (h:PyAt W v cs):∃ a cap,v=.slice a cs.length cap∧∀ i (h:i<cs.length),∃ b,a=some ⟨b,0,none⟩ ∧
  W.cell? ⟨b,i*3,none⟩=some (.string (qd (sgn cs[i].k)))∧W.cell? ⟨b,i*3+1,none⟩=some (.string (qd cs[i].t))∧W.cell? ⟨b,i*3+2,none⟩=some (.bool cs[i].st):=by
 obtain⟨a,c,rfl,h0|⟨g,rfl,hg,hc⟩⟩:=h
 ·exact⟨a,c,rfl,fun i h=>by rw[h0]at h;cases h⟩
 ·refine⟨_,c,rfl,fun i h=>⟨g,rfl,?_⟩⟩;have:=qrq (W:=W) (b:=g) cs 0 (fun j u hj=>by rw[Nat.zero_add];exact hc j u hj) i h
  simpa using this
abbrev Tri:=QB×QB×Bool
def wrT (q:Tri):QB:=q.1++q.2.1++qmf q.2.2
def qhv (qs:List Tri):QB:=Lib.join (qs.map wrT) [44]
def triC (c:Cl):Tri:=(sgn c.k,c.t,c.st)
def qqd (W:World) (v:Value) (qs:List Tri):Prop:=
 ∃ a cap,v=.slice a qs.length cap∧∀ i (h:i<qs.length),∃ b o,a=some ⟨b,o,none⟩∧b<W.heap.size ∧
  W.cell? ⟨b,o+i*3,none⟩=some (.string (qd qs[i].1))∧W.cell? ⟨b,o+i*3+1,none⟩=some (.string (qd qs[i].2.1))∧W.cell? ⟨b,o+i*3+2,none⟩=some (.bool qs[i].2.2)
def qjr (qs:List Tri):Prop:=qs.length≤2000000∧∀ q∈qs,q.1.length≤10000000∧q.2.1.length≤10000000
theorem qqd.below {W W':World} {v:Value} {qs:List Tri} (h:qqd W v qs) (hb:Below W.heap.size W W'):qqd W' v qs:=by
 obtain⟨a,cap,rfl,hc⟩:=h;refine⟨a,cap,rfl,fun i hi=>?_⟩;obtain⟨b,o,ha,hlt,h1,h2,h3⟩:=hc i hi;exact⟨b,o,ha,Nat.lt_of_lt_of_le hlt hb.size,(hb.cell hlt).trans h1,(hb.cell hlt).trans h2,(hb.cell hlt).trans h3⟩
theorem PyAt.tri {W:World} {v:Value} {cs:List Cl} (h:PyAt W v cs):qqd W v (cs.map triC):=by
 obtain⟨a,c,rfl,h0|⟨g,rfl,hg,hc⟩⟩:=h
 ·subst h0;exact⟨a,c,rfl,fun i h=>by cases h⟩
 ·refine⟨_,c,by rw[List.length_map],fun i hi=>⟨g,0,rfl,hg,?_⟩⟩
  have:=qrq (W:=W) (b:=g) cs 0 (fun j u hj=>by rw[Nat.zero_add];exact hc j u hj) i (by simpa using hi)
  simpa[triC] using this
theorem qst (a b:QB):qd a++qd b=qd (a++b):=by
 apply qbbw;rw[ByteArray.data_append,Array.toList_append,qj,qj,qj]
theorem qsr (a b c:QY) (h:a++b=c) (hs:a.size+b.size≤9000000000000000000):Op.stringOp .add a b=pure (.string c):=by
 unfold Op.stringOp;have hm:IntKind.i64.max=9223372036854775807:=rfl;dsimp only;rw[if_neg (by rw[hm];omega),h]
theorem wrT_len (q:Tri):(wrT q).length≤q.1.length+q.2.1.length+2:=by
 unfold wrT qmf;rw[List.length_append,List.length_append];split<;>simp
theorem qbnx (N:Nat):∀ ts:List QB,(∀ t∈ts,t.length≤N)→(Lib.join ts [44]).length≤ts.length*(N+1)
 | [],_=>by simp[Lib.join,List.intercalate]
 | [t],h=>by
  have:=h t (by simp)
  simp[Lib.join,List.intercalate];omega
 | t::u::r,h=>by
  have ih:=qbnx N (u::r) (fun x hx=>h x (by simp[hx]))
  have:=h t (by simp)
  unfold Lib.join at ih ⊢;simp only[List.intercalate]at ih ⊢;rw[List.intersperse_cons_cons,List.flatten_cons,List.flatten_cons];simp only[List.length_append,List.length_cons,List.length_nil,Nat.succ_mul]at ih ⊢;omega
theorem joinT_le {qs:List Tri} (h:qjr qs):(qhv qs).length≤2000000*20000003:=by
 have h1:=qbnx 20000002 (qs.map wrT) (fun t ht=>by
  obtain⟨q,hq,rfl⟩:=List.mem_map.1 ht;have:=wrT_len q;have:=h.2 q hq;omega)
 rw[List.length_map]at h1;exact Nat.le_trans h1 (Nat.mul_le_mul_right _ h.1)
open Nat renaming le_refl → qbtm
open Go renaming World → QW
def Book (l D:Nat) (r:Loop) (W:QW):Prop:=W.heap[l]? = some (.loop r)∧W.heap[D]? = some (.deferred (some []))
theorem Book.grown {l D:Nat} {r:Loop} {A B:QW} {row:Option Nat} (h:Book l D r A) (hg:A.grownBy B row) (hr:∀ k,row=some k→∃ o:Obj,A.heap[k]? = some o∧o.isWalk=true):Book l D r B:=
 ⟨(grownBy_keeps hg hr h.1 rfl).trans h.1,(grownBy_keeps hg hr h.2 rfl).trans h.2⟩
theorem Book.keeps {l D n:Nat} {r:Loop} {A B:QW} (h:Book l D r A) (hk:KeepsFrom n A B) (h1:n≤l) (h2:n≤D):Book l D r B:=
 ⟨hk.same l _ h1 h.1 rfl,hk.same D _ h2 h.2 rfl⟩
theorem Book.turn {l D:Nat} {r:Loop} {A:QW} (h:Book l D r A) (hne:l≠D) (r':Loop):Book l D r' (A.putObj l (.loop r')):=
 ⟨World.putObj_heap_same (Array.getElem?_eq_some_iff.1 h.1).1,(World.putObj_heap_other (Ne.symm hne)).trans h.2⟩
def SeqC {α : Type} (F:Fence) (n:Nat) (P:Program) (g:Nat) (lb:Array Value) (encs:α→Array Value) (C:List α→α→QW→QW→Prop) (G:α→Prop) (Kp:QW→QW→QW→Prop) (S Sp:List α→Prop) (w:QW):Prop:=
 ∀ (l:Nat) (J Jx:List α→QW→Prop) (W:QW),Below w.heap.size w W→AbidesFrom W.heap.size J→AbidesFrom W.heap.size Jx →
  (∀ pre x W0 W1,J pre W0→J pre W1→Below W0.heap.size W0 W1→C pre x W0 W1→YieldAt F (n-1) P l (encs x) W1 fun e W'=>(e=.returned (.bool true)∧G x∧J (pre++[x]) W'∧Kp W0 W1 W')∨(e=.returned (.bool false)∧Jx (pre++[x]) W')) →
  J [] W→CallsIn F n P g (#[.func (.yield l) #[] #[]]++lb) W fun e W'=>(∃ v,e=.returned v)∧((∃ xs,S xs∧J xs W')∨(∃ pre,Sp pre∧Jx pre W'))
theorem qbjz {F:Fence} {n:Nat} {P:Program} {α : Type} {g:Operand} {ps:Array Tmp} {assign body:Code} {Q:Exit→Act→QW→Prop} {a:Act} {w:QW}
 (hro:F.round=none) (h1:1≤n) {gf:Nat} {lb:Array Value} (hg:a.eval g=.func (.func gf) #[] lb) (hF:F.fn gf) (eg:∀ args w,(callFunc gf args).run P w=.ok (.enter gf args) w)
 {encs:α→Array Value} {C:List α→α→QW→QW→Prop} {G:α→Prop} {Kp:QW→QW→QW→Prop} {S Sp:List α→Prop} {w0:QW} (hseq:SeqC F (n-1) P gf lb encs C G Kp S Sp w0) (hw0:Below w0.heap.size w0 w)
 (hKt:∀ {Z A B D:QW},Kp Z A B→Kp Z B D→Kp Z A D) (hKb:∀ (Z W:QW) (l:Nat) (o o':Obj),w.heap.size≤l→W.heap[l]? = some o→o.isCells=false→o.isWalk=false→Kp Z W (W.putObj l o'))
 (hps:∀ x,(encs x).size=ps.size) (I:List α→QW→Prop) (Ix:Code→List α→QW→Prop) (hI:OwnFrom w.heap.size I) (hIx:∀ c,OwnFrom w.heap.size (Ix c)) (h0:I [] w) (hG:∀ pre x W,I (pre++[x]) W→G x)
 (Ax:List α→α→QW→Act→QW→Prop) (hAx:∀ pre x Z b,OwnFrom w.heap.size (fun (_:Unit) W=>Ax pre x Z b W))
 (hassign:∀ (l:Nat) (pre:List α) (x:α) (W0 W:QW) (K:Act→QW→Prop),I pre W0→I pre W→Below W0.heap.size W0 W→C pre x W0 W→(∀ b W',KeepsFrom w.heap.size W W'→Kp W0 W W'→I pre W'→Ax pre x W0 b W'→K b W') →
 assign.wpIn (F.inRound l) (n-1-1) P (Exit.then K (fun _ _ _=>False)) ⟨(ps.zip (encs x)).foldl (fun t (p,v)=>t.setIfInBounds p v) a.tmps,[]⟩ W)
 (hbody:∀ (l:Nat) (pre:List α) (x:α) (W0:QW) (b:Act) (W:QW),w.heap.size≤l→(∃ r,W.heap[l]? = some (.loop r))→I pre W→Ax pre x W0 b W→body.wpIn (F.inRound l) (n-1-1) P (ownPostG w.heap.size (Kp W0) I Ix (pre++[x]) W) b W)
 (hdone:∀ (D:Nat) (xs:List α) (W:QW),w.heap.size≤D→S xs→I xs W→W.heap[D]? = some (.deferred (some []))→Q .normal ⟨a.tmps,⟨.collected D,#[]⟩::a.defers⟩ W)
 (hstop:∀ (D:Nat) (c:Code) (pre:List α) (W:QW),w.heap.size≤D→Sp pre→Ix c pre W→W.heap[D]? = some (.deferred (some []))→c.wpIn F n P Q ⟨a.tmps,⟨.collected D,#[]⟩::a.defers⟩ W) :
 (Code.rangeFunc g ps assign body).wpIn F n P Q a w:=by
  refine wpIn_rangeFunc fun fn hfn=>?_;rw[hro]
  -- the record in its states
  let R:LoopState→Option Code→Loop:=fun st pe=>⟨st,pe,fn,a.tmps,ps,assign,body,w.heap.size⟩
  have hne:w.heap.size+1≠w.heap.size:=by omega
  have hbk:Book (w.heap.size+1) w.heap.size (R .ready none) ((w.alloc (.deferred (some []))).alloc (.loop (R .ready none))):=
    ⟨by have:=World.alloc_heap_new (w.alloc (.deferred (some []))) (.loop (R .ready none));rwa [World.size_alloc]at this,(Below.heap_alloc _ _ _ (by simp)).trans (World.alloc_heap_new w _)⟩
  refine⟨w.heap.size+1,[⟨.collected w.heap.size,#[]⟩],((w.alloc (.deferred (some []))).alloc (.loop (R .ready none))),⟨.fn (.func gf) lb,#[.func (.yield (w.heap.size+1)) #[] #[]]⟩,((w.alloc (.deferred (some []))).alloc (.loop (R .ready none))),gf,#[.func (.yield (w.heap.size+1)) #[] #[]]++lb,((w.alloc (.deferred (some []))).alloc (.loop (R .ready none))),run_enterLoop_outer fn a.tmps ps assign body,?_,?_,?_,fun _=>h1,?_⟩
  · simp only[resolve,hg]
    simp[go_sem]
  · intro f hf
    simp[Target.leads]at hf;subst hf;exact hF
  · simp[invoke,go_sem,eg]
  have hsz:((w.alloc (.deferred (some []))).alloc (.loop (R .ready none))).heap.size=w.heap.size+2:=by simp
  have hst:Below w0.heap.size w0 ((w.alloc (.deferred (some []))).alloc (.loop (R .ready none))):=hw0.trans ((((Below.refl _ w).alloc (qbtm _) _).alloc (by simp) _).mono hw0.size)
  have hi0:I [] ((w.alloc (.deferred (some []))).alloc (.loop (R .ready none))):=hI.alloc _ (hI.alloc _ h0)
  change CallsIn F (n-1) P gf _ ((w.alloc (.deferred (some []))).alloc (.loop (R .ready none))) _
  generalize (w.alloc (.deferred (some []))).alloc (.loop (R .ready none))=V at *
  have hrow:∀ {A:QW} {row:Option Nat},(∀ r,row=some r→V.heap.size≤r∧∃ o:Obj,A.heap[r]? = some o∧o.isWalk=true)→∀ r,row=some r→w.heap.size≤r∧∃ o:Obj,A.heap[r]? = some o∧o.isCells=false:=by
    intro A row h r e;obtain⟨hr,o,ho,hw⟩:=h r e;exact⟨by omega,o,ho,Obj.not_cells_of_walk hw⟩
  refine (hseq (w.heap.size+1) (fun pre W=>I pre W∧Book (w.heap.size+1) w.heap.size (R .ready none) W) (fun pre W=>∃ c,Ix c pre W∧Book (w.heap.size+1) w.heap.size (R .done (some c)) W) V hst
    (fun s A B row h hgr hr=>⟨hI s A B row h.1 hgr (hrow hr),h.2.grown hgr (fun r e=>(hr r e).2)⟩)
    (fun s A B row h hgr hr=>by obtain⟨c,hc,hb⟩:=h;exact⟨c,hIx c s A B row hc hgr (hrow hr),hb.grown hgr (fun r e=>(hr r e).2)⟩) ?round ⟨hi0,hbk⟩).mono ?after
  case after=>
    rintro e W ⟨⟨v,rfl⟩,⟨xs,hS,hi,hb⟩|⟨pre,hS,c,hi,hb⟩⟩
    · exact⟨none,_,run_endLoop (P:=P) hb.1 (by simp[R]),hdone _ xs _ (qbtm _) hS (hI.putObj _ hi (by omega) hb.1 rfl) (hb.turn hne _).2⟩
    · exact⟨some c,_,run_endLoop (P:=P) hb.1 (by simp[R]),hstop _ c pre _ (qbtm _) hS ((hIx c).putObj _ hi (by omega) hb.1 rfl) (hb.turn hne _).2⟩
  case round=>
    rintro pre x W0 W ⟨hi9,_⟩ ⟨hi,hb⟩ hbl hc;refine⟨fn,_,assign,body,run_yield (P:=P) (args:=encs x) hb.1 (hps x),roundIn_of_wpIn hfn (hassign _ pre x W0 W _ hi9 hi hbl hc ?_)⟩;intro b V1 hk1 hp1 hi1 ha1;have hb1:=hb.keeps hk1 (Nat.le_succ _) (qbtm _);refine⟨_,run_beginRound (P:=P) hb1.1 rfl,?_⟩;have hb2:=hb1.turn hne { R .ready none with state:=.busy };refine wpIn_mono (hbody _ pre x W0 b _ (Nat.le_succ _) ⟨_,hb2.1⟩ (hI.putObj _ hi1 (by omega) hb1.1 rfl) ((hAx pre x W0 b).putObj (s:=()) _ ha1 (by omega) hb1.1 rfl)) ?_
    have hp2:=hKb W0 V1 (w.heap.size+1) (.loop (R .ready none)) (.loop { R .ready none with state:=.busy }) (by omega) hb1.1 rfl rfl
    intro e b3 V3 hp;cases e with
    | normal=>
      obtain⟨hk3,hp3,hi3⟩:=hp;have hb3:=hb2.keeps hk3 (Nat.le_succ _) (qbtm _);exact⟨_,_,run_endRound (P:=P) none hb3.1,.inl ⟨rfl,hG _ _ _ hi3,⟨hI.putObj _ hi3 (by omega) hb3.1 rfl,hb3.turn hne _⟩,hKt hp1 (hKt (hKt hp2 hp3) (hKb _ _ _ _ _ (by omega) hb3.1 rfl rfl))⟩⟩
    | ret=>
      obtain⟨hk3,hi3⟩:=hp;have hb3:=hb2.keeps hk3 (Nat.le_succ _) (qbtm _);exact⟨_,_,run_endRound (P:=P) (some .ret) hb3.1,.inr ⟨rfl,.ret,(hIx _).putObj _ hi3 (by omega) hb3.1 rfl,hb3.turn hne _⟩⟩
    | exit id=>
      obtain⟨hk3,hi3⟩:=hp;have hb3:=hb2.keeps hk3 (Nat.le_succ _) (qbtm _);exact⟨_,_,run_endRound (P:=P) (some (.exit id)) hb3.1,.inr ⟨rfl,.exit id,(hIx _).putObj _ hi3 (by omega) hb3.1 rfl,hb3.turn hne _⟩⟩
    | goto t=>
      obtain⟨hk3,hi3⟩:=hp;have hb3:=hb2.keeps hk3 (Nat.le_succ _) (qbtm _);exact⟨_,_,run_endRound (P:=P) (some (.goto t)) hb3.1,.inr ⟨rfl,.goto t,(hIx _).putObj _ hi3 (by omega) hb3.1 rfl,hb3.turn hne _⟩⟩
    | panic ch=>exact hp.elim
    | outgrown=>exact hp.elim
open Go renaming World → QW, Value → QV
theorem qdc {W:QW} {B:Nat} {t:TypeId} {a0 a1 a2 a3 a4 a5 a6 a7 a8 a9 a10 a11 a12 a13 a14 a15 a16 a17:QV} (h:W.heap[B]? = some (.cells #[a0,a1,a2,a3,a4,a5,a6,a7,a8,a9,a10,a11,a12,a13,a14,a15,a16,a17] t (0,0))) :
  W.cell? ⟨B,0,none⟩=some a0∧W.cell? ⟨B,1,none⟩=some a1∧W.cell? ⟨B,2,none⟩=some a2∧W.cell? ⟨B,3,none⟩=some a3∧W.cell? ⟨B,4,none⟩=some a4∧W.cell? ⟨B,5,none⟩=some a5∧W.cell? ⟨B,6,none⟩=some a6∧W.cell? ⟨B,7,none⟩=some a7∧W.cell? ⟨B,8,none⟩=some a8∧W.cell? ⟨B,9,none⟩=some a9∧W.cell? ⟨B,10,none⟩=some a10∧W.cell? ⟨B,11,none⟩=some a11∧W.cell? ⟨B,12,none⟩=some a12∧W.cell? ⟨B,13,none⟩=some a13∧W.cell? ⟨B,14,none⟩=some a14∧W.cell? ⟨B,15,none⟩=some a15∧W.cell? ⟨B,16,none⟩=some a16∧W.cell? ⟨B,17,none⟩=some a17∧W.frozen? ⟨B,0,none⟩=false∧W.frozen? ⟨B,1,none⟩=false∧W.frozen? ⟨B,2,none⟩=false∧W.frozen? ⟨B,3,none⟩=false∧W.frozen? ⟨B,4,none⟩=false∧W.frozen? ⟨B,5,none⟩=false∧W.frozen? ⟨B,6,none⟩=false∧W.frozen? ⟨B,7,none⟩=false∧W.frozen? ⟨B,8,none⟩=false∧W.frozen? ⟨B,9,none⟩=false∧W.frozen? ⟨B,10,none⟩=false∧W.frozen? ⟨B,11,none⟩=false∧W.frozen? ⟨B,12,none⟩=false∧W.frozen? ⟨B,13,none⟩=false∧W.frozen? ⟨B,14,none⟩=false∧W.frozen? ⟨B,15,none⟩=false∧W.frozen? ⟨B,16,none⟩=false∧W.frozen? ⟨B,17,none⟩=false:=
 ⟨qc 0 h rfl,qc 1 h rfl,qc 2 h rfl,qc 3 h rfl,qc 4 h rfl,qc 5 h rfl,qc 6 h rfl,qc 7 h rfl,qc 8 h rfl,qc 9 h rfl,qc 10 h rfl,qc 11 h rfl,qc 12 h rfl,qc 13 h rfl,qc 14 h rfl,qc 15 h rfl,qc 16 h rfl,qc 17 h rfl,qf 0 h,qf 1 h,qf 2 h,qf 3 h,qf 4 h,qf 5 h,qf 6 h,qf 7 h,qf 8 h,qf 9 h,qf 10 h,qf 11 h,qf 12 h,qf 13 h,qf 14 h,qf 15 h,qf 16 h,qf 17 h⟩
structure RC (w W:QW) (r c:Array QV):Prop where
 res:W.heap[w.heap.size]? = some (.cells r 61 (0,0))
 top:W.heap[w.heap.size+1]? = some (.cells c 61 (0,0))
 bel:Below w.heap.size w W
theorem RC.lt {w W:QW} {r c:Array QV} (h:RC w W r c):w.heap.size+1<W.heap.size:=(Array.getElem?_eq_some_iff.1 h.top).1
theorem RC.below {w W W':QW} {r c:Array QV} (h:RC w W r c) (hb:Below W.heap.size W W'):RC w W' r c:=
 ⟨(hb.block _ (by have:=h.lt;omega)).trans h.res,(hb.block _ h.lt).trans h.top,h.bel.trans (hb.mono (by have:=h.lt;omega))⟩
theorem RC.start (w:QW) (a:Nat):RC w ((w.alloc (.cells #[.string ⟨#[]⟩,.nilFunc,.nilFunc,.bool false,.string ⟨#[]⟩,.slice none 0 0,.int .u8 0,.string ⟨#[]⟩,.bool false,.string ⟨#[]⟩,.bool false,.string ⟨#[]⟩,.slice none 0 0,.string ⟨#[]⟩,.bool false,.int .i64 0,.int .i64 0,.int .i64 0] 61)).alloc (.cells #[.string ⟨#[]⟩,.nilFunc,.nilFunc,.bool false,.string ⟨#[]⟩,.slice none 0 0,.int .u8 0,.string ⟨#[]⟩,.bool false,.string ⟨#[]⟩,.bool false,.string ⟨#[]⟩,.slice none 0 0,.string ⟨#[]⟩,.bool false,.int .i64 (a:Int),.int .i64 0,.int .i64 0] 61)) #[.string ⟨#[]⟩,.nilFunc,.nilFunc,.bool false,.string ⟨#[]⟩,.slice none 0 0,.int .u8 0,.string ⟨#[]⟩,.bool false,.string ⟨#[]⟩,.bool false,.string ⟨#[]⟩,.slice none 0 0,.string ⟨#[]⟩,.bool false,.int .i64 0,.int .i64 0,.int .i64 0] #[.string ⟨#[]⟩,.nilFunc,.nilFunc,.bool false,.string ⟨#[]⟩,.slice none 0 0,.int .u8 0,.string ⟨#[]⟩,.bool false,.string ⟨#[]⟩,.bool false,.string ⟨#[]⟩,.slice none 0 0,.string ⟨#[]⟩,.bool false,.int .i64 (a:Int),.int .i64 0,.int .i64 0]:=by
 obtain⟨V,hV,h1,h2,h3,_⟩:=qm w #[.string ⟨#[]⟩,.nilFunc,.nilFunc,.bool false,.string ⟨#[]⟩,.slice none 0 0,.int .u8 0,.string ⟨#[]⟩,.bool false,.string ⟨#[]⟩,.bool false,.string ⟨#[]⟩,.slice none 0 0,.string ⟨#[]⟩,.bool false,.int .i64 0,.int .i64 0,.int .i64 0] #[.string ⟨#[]⟩,.nilFunc,.nilFunc,.bool false,.string ⟨#[]⟩,.slice none 0 0,.int .u8 0,.string ⟨#[]⟩,.bool false,.string ⟨#[]⟩,.bool false,.string ⟨#[]⟩,.slice none 0 0,.string ⟨#[]⟩,.bool false,.int .i64 (a:Int),.int .i64 0,.int .i64 0] 61 61;rw[hV];exact⟨h1,h2,h3⟩
theorem RC.op6 {w W:QW} {z0 z1 z2 z3 z4 z5 z6 z7 z8 z9 z10 z11 z12 z13 z14 z15 z16 z17:QV} {r:Array QV} (h:RC w W r #[z0,z1,z2,z3,z4,z5,z6,z7,z8,z9,z10,z11,z12,z13,z14,z15,z16,z17]) (a0 a1 a2 a3 e er:QV):∃ W',W'=((((((W.setCell ⟨w.heap.size+1,0,none⟩ a0).setCell ⟨w.heap.size+1,1,none⟩ a1).setCell ⟨w.heap.size+1,2,none⟩ a2).setCell ⟨w.heap.size+1,3,none⟩ a3).setCell ⟨w.heap.size+1,16,none⟩ e).setCell ⟨w.heap.size+1,17,none⟩ er)∧RC w W' r #[a0,a1,a2,a3,z4,z5,z6,z7,z8,z9,z10,z11,z12,z13,z14,z15,e,er]∧∀ (u:QV) (ts:List QB),qx W u ts→qbs (w.heap.size+2) u→qx W' u ts:=by
 have h0:=h.top;have h1:=qcn [a0,a1,a2,a3] W (w.heap.size+1) 0 _ _ h0;have t1:=qcg [a0,a1,a2,a3] W (w.heap.size+1) 0;have h2:=qcn [e,er] (putL W (w.heap.size+1) 0 [a0,a1,a2,a3]) (w.heap.size+1) 16 _ _ h1;have t2:=qcg [e,er] (putL W (w.heap.size+1) 0 [a0,a1,a2,a3]) (w.heap.size+1) 16;have hc:(qfj (qfj #[z0,z1,z2,z3,z4,z5,z6,z7,z8,z9,z10,z11,z12,z13,z14,z15,z16,z17] 0 [a0,a1,a2,a3]) 16 [e,er])=#[a0,a1,a2,a3,z4,z5,z6,z7,z8,z9,z10,z11,z12,z13,z14,z15,e,er]:=by simp[qfj]
 rw[hc]at h2;have T:=(t1.trans t2);refine⟨(putL (putL W (w.heap.size+1) 0 [a0,a1,a2,a3]) (w.heap.size+1) 16 [e,er]),rfl,⟨(T.block _ (by have:=h.lt;omega) (by omega)).trans h.res,h2,h.bel.trans (T.below (by omega) h.bel.size)⟩,fun u ts h1 h2=>qdt h1 h2 (fun j h3 h4=>T.block j h4 (by omega)) T.size⟩
theorem RC.as13 {w W:QW} {z0 z1 z2 z3 z4 z5 z6 z7 z8 z9 z10 z11 z12 z13 z14 z15 z16 z17:QV} {r:Array QV} (h:RC w W r #[z0,z1,z2,z3,z4,z5,z6,z7,z8,z9,z10,z11,z12,z13,z14,z15,z16,z17]) (b0 b1 b2 b3 b4 b5 b6 b7 b8 b9 b10 e er:QV):∃ W',W'=(((((((((((((W.setCell ⟨w.heap.size+1,4,none⟩ b0).setCell ⟨w.heap.size+1,5,none⟩ b1).setCell ⟨w.heap.size+1,6,none⟩ b2).setCell ⟨w.heap.size+1,7,none⟩ b3).setCell ⟨w.heap.size+1,8,none⟩ b4).setCell ⟨w.heap.size+1,9,none⟩ b5).setCell ⟨w.heap.size+1,10,none⟩ b6).setCell ⟨w.heap.size+1,11,none⟩ b7).setCell ⟨w.heap.size+1,12,none⟩ b8).setCell ⟨w.heap.size+1,13,none⟩ b9).setCell ⟨w.heap.size+1,14,none⟩ b10).setCell ⟨w.heap.size+1,16,none⟩ e).setCell ⟨w.heap.size+1,17,none⟩ er)∧RC w W' r #[z0,z1,z2,z3,b0,b1,b2,b3,b4,b5,b6,b7,b8,b9,b10,z15,e,er]∧∀ (u:QV) (ts:List QB),qx W u ts→qbs (w.heap.size+2) u→qx W' u ts:=by
 have h0:=h.top;have h1:=qcn [b0,b1,b2,b3,b4,b5,b6,b7,b8,b9,b10] W (w.heap.size+1) 4 _ _ h0;have t1:=qcg [b0,b1,b2,b3,b4,b5,b6,b7,b8,b9,b10] W (w.heap.size+1) 4;have h2:=qcn [e,er] (putL W (w.heap.size+1) 4 [b0,b1,b2,b3,b4,b5,b6,b7,b8,b9,b10]) (w.heap.size+1) 16 _ _ h1;have t2:=qcg [e,er] (putL W (w.heap.size+1) 4 [b0,b1,b2,b3,b4,b5,b6,b7,b8,b9,b10]) (w.heap.size+1) 16;have hc:(qfj (qfj #[z0,z1,z2,z3,z4,z5,z6,z7,z8,z9,z10,z11,z12,z13,z14,z15,z16,z17] 4 [b0,b1,b2,b3,b4,b5,b6,b7,b8,b9,b10]) 16 [e,er])=#[z0,z1,z2,z3,b0,b1,b2,b3,b4,b5,b6,b7,b8,b9,b10,z15,e,er]:=by simp[qfj]
 rw[hc]at h2;have T:=(t1.trans t2);refine⟨(putL (putL W (w.heap.size+1) 4 [b0,b1,b2,b3,b4,b5,b6,b7,b8,b9,b10]) (w.heap.size+1) 16 [e,er]),rfl,⟨(T.block _ (by have:=h.lt;omega) (by omega)).trans h.res,h2,h.bel.trans (T.below (by omega) h.bel.size)⟩,fun u ts h1 h2=>qdt h1 h2 (fun j h3 h4=>T.block j h4 (by omega)) T.size⟩
theorem RC.en2 {w W:QW} {z0 z1 z2 z3 z4 z5 z6 z7 z8 z9 z10 z11 z12 z13 z14 z15 z16 z17:QV} {r:Array QV} (h:RC w W r #[z0,z1,z2,z3,z4,z5,z6,z7,z8,z9,z10,z11,z12,z13,z14,z15,z16,z17]) (e er:QV):∃ W',W'=((W.setCell ⟨w.heap.size+1,16,none⟩ e).setCell ⟨w.heap.size+1,17,none⟩ er)∧RC w W' r #[z0,z1,z2,z3,z4,z5,z6,z7,z8,z9,z10,z11,z12,z13,z14,z15,e,er]∧∀ (u:QV) (ts:List QB),qx W u ts→qbs (w.heap.size+2) u→qx W' u ts:=by
 have h0:=h.top;have h1:=qcn [e,er] W (w.heap.size+1) 16 _ _ h0;have t1:=qcg [e,er] W (w.heap.size+1) 16;have hc:(qfj #[z0,z1,z2,z3,z4,z5,z6,z7,z8,z9,z10,z11,z12,z13,z14,z15,z16,z17] 16 [e,er])=#[z0,z1,z2,z3,z4,z5,z6,z7,z8,z9,z10,z11,z12,z13,z14,z15,e,er]:=by simp[qfj]
 rw[hc]at h1;have T:=t1;refine⟨(putL W (w.heap.size+1) 16 [e,er]),rfl,⟨(T.block _ (by have:=h.lt;omega) (by omega)).trans h.res,h1,h.bel.trans (T.below (by omega) h.bel.size)⟩,fun u ts h1 h2=>qdt h1 h2 (fun j h3 h4=>T.block j h4 (by omega)) T.size⟩
def clV (c:Cl) (vr vl:QV):Array QV:=#[.string (qd (sgn c.k)),fnV (rdF c.k),fnV (hoF c.k),.bool (opB c.k),.string (qd c.x.ep),vr,.int .u8 c.x.c,.string (qd c.x.n),.bool c.x.b,.string (qd c.x.m),.bool c.x.d,.string (qd c.x.k),vl,.string (qd c.t),.bool c.st,.int .i64 (c.s:Int),.int .i64 (c.e:Int),.int .i64 c.er]
def qqx (c:Cl) (w:QW) (e:Ending) (w':QW):Prop:=
 Below w.heap.size w w'∧∃ vr vl,e=.returned (.agg (clV c vr vl))∧qx w' vr c.x.rel∧qx w' vl c.x.loc∧qbs w.heap.size vr∧qbs w.heap.size vl
theorem qbrd {w W:QW} (a p:Nat) (er:Int) (hb:Below w.heap.size w W):qqx ⟨8,pep0,[],false,a,p,er⟩ w (.returned (.agg #[.string ⟨#[]⟩,.nilFunc,.nilFunc,.bool false,.string ⟨#[]⟩,.slice none 0 0,.int .u8 0,.string ⟨#[]⟩,.bool false,.string ⟨#[]⟩,.bool false,.string ⟨#[]⟩,.slice none 0 0,.string ⟨#[]⟩,.bool false,.int .i64 (a:Int),.int .i64 (p:Int),.int .i64 er])) W:=
 ⟨hb,.slice none 0 0,.slice none 0 0,rfl,⟨none,0,rfl,.inl rfl⟩,⟨none,0,rfl,.inl rfl⟩,fun a i c e=>(by cases e),fun a i c e=>(by cases e)⟩
theorem qbkm {w W:QW} (j a p:Nat) (er:Int) (h1:fnV (rdF j)=.func (.func (rdF j)) #[] #[]) (h2:fnV (hoF j)=.func (.func (hoF j)) #[] #[]) (hb:Below w.heap.size w W):qqx ⟨j,pep0,[],false,a,p,er⟩ w (.returned (.agg #[.string (qd (sgn j)),.func (.func (rdF j)) #[] #[],.func (.func (hoF j)) #[] #[],.bool (opB j),.string ⟨#[]⟩,.slice none 0 0,.int .u8 0,.string ⟨#[]⟩,.bool false,.string ⟨#[]⟩,.bool false,.string ⟨#[]⟩,.slice none 0 0,.string ⟨#[]⟩,.bool false,.int .i64 (a:Int),.int .i64 (p:Int),.int .i64 er])) W:=
 ⟨hb,.slice none 0 0,.slice none 0 0,by unfold clV;rw[h1,h2];rfl,⟨none,0,rfl,.inl rfl⟩,⟨none,0,rfl,.inl rfl⟩,fun a i c e=>(by cases e),fun a i c e=>(by cases e)⟩
theorem qbpn {w W:QW} (j a p:Nat) (er:Int) (x:PepL) (t:QB) (st:Bool) (vr vl:QV) (h1:fnV (rdF j)=.func (.func (rdF j)) #[] #[]) (h2:fnV (hoF j)=.func (.func (hoF j)) #[] #[]) (hb:Below w.heap.size w W) (t1:qx W vr x.rel) (t2:qx W vl x.loc) (f1:qbs w.heap.size vr) (f2:qbs w.heap.size vl) :
  qqx ⟨j,x,t,st,a,p,er⟩ w (.returned (.agg #[.string (qd (sgn j)),.func (.func (rdF j)) #[] #[],.func (.func (hoF j)) #[] #[],.bool (opB j),.string (qd x.ep),vr,.int .u8 x.c,.string (qd x.n),.bool x.b,.string (qd x.m),.bool x.d,.string (qd x.k),vl,.string (qd t),.bool st,.int .i64 (a:Int),.int .i64 (p:Int),.int .i64 er])) W:=
 ⟨hb,vr,vl,by unfold clV;rw[h1,h2],t1,t2,f1,f2⟩
theorem qhf:(Tryz.prog.info? 61).map (·.size)=some 18:=by kernel_rfl
theorem fin88 {R:Ending→QW→Prop} (tmps:Array QV) (W:QW) (B:Nat) (cs:Array QV) (hcs:cs.size=18)
  (h2:tmps.getD 4 undef=.pointer (some ⟨B,0,none⟩)) (e1:W.heap[B]? = some (.cells cs 61 (0,0))) (hR:R (.returned (.agg cs)) W) :
  bodyPost Tryz.prog Tryz.f88 R .ret { tmps:=tmps,defers:=[] } W:=
 bodyPost_ret (results_cell_row rfl _ _ B 61 _ (0,0) _ h2 e1 Tryz.underlying61 rfl (by rw[qhf,hcs])) rfl hR
theorem qht {W:World} {B:Nat} {c:Array Value} {t:TypeId} (h:W.heap[B]? = some (.cells c t (0,0))):W.rangeAt B 0 c.toList:=fun j v hv=>by
 rw[Nat.zero_add];exact qc j h (by simpa using hv)
theorem qgn {W:World} {B n:Nat} {c:Array Value} {t:TypeId} (h:W.heap[B]? = some (.cells c t (0,0))) (hn:n≤c.size):W.there B 0 n:=fun j hj=>by
 rw[Nat.zero_add];refine⟨?_,qf j h⟩;rw[qc j h (Array.getElem?_eq_getElem (by omega))]
 rfl
theorem qdn:∀ (vs:List Value) (W:World) (B o:Nat),W.setCells B o vs=putL W B o vs
 | [],_,_,_=>rfl
 | v::vs,W,B,o=>qdn vs _ B (o+1)
theorem qvt:∀ (vs:List Value) (cs:Array Value) (o i:Nat),o+vs.length≤cs.size→(qfj cs o vs)[i]? = if o≤i∧i<o+vs.length then vs[i-o]? else cs[i]?
 | [],cs,o,i,h=>by
  rw[if_neg (by simp only[List.length_nil];omega)]
  rfl
 | v::vs,cs,o,i,h=>by
  rw[List.length_cons]at h ⊢;show(qfj (cs.setIfInBounds o v) (o+1) vs)[i]? = _;rw[qvt vs (cs.setIfInBounds o v) (o+1) i (by simp;omega)]
  by_cases h1:o+1≤i∧i<o+1+vs.length
  ·rw[if_pos h1,if_pos (by omega),show i-o=(i-(o+1))+1 by omega,List.getElem?_cons_succ]
  ·rw[if_neg h1,Array.getElem?_setIfInBounds]
   by_cases h2:o=i
   ·subst h2;rw[if_pos rfl,if_pos (by omega),if_pos (by omega),Nat.sub_self,List.getElem?_cons_zero]
   ·rw[if_neg h2,if_neg (by omega)]
theorem qpk (cs:Array Value) (vs:List Value) (h:cs.size=vs.length):qfj cs 0 vs=vs.toArray:=by
 apply Array.ext_getElem?;intro i;rw[qvt vs cs 0 i (by omega),Nat.sub_zero,show vs.toArray[i]? = vs[i]? by simp]
 split
 ·rfl
 ·rename_i h1;rw[Array.getElem?_eq_none (by omega),List.getElem?_eq_none (by omega)]
theorem RC.copy {w W:World} {r c:Array Value} (h:RC w W r c) (hr:r.size=c.size):(W.setCells w.heap.size 0 c.toList).heap[w.heap.size]? = some (.cells c 61 (0,0))∧Below w.heap.size w (W.setCells w.heap.size 0 c.toList) ∧
  ∀ (u:Value) (ts:List QB),qx W u ts→qbs (w.heap.size+2) u→qx (W.setCells w.heap.size 0 c.toList) u ts:=by
 rw[qdn];have T:=qcg c.toList W w.heap.size 0;refine⟨?_,h.bel.trans (T.below (Nat.le_refl _) h.bel.size),fun u ts h1 h2=>qdt h1 h2 (fun j h3 h4=>T.block j h4 (by omega)) T.size⟩
 have k:=qcn c.toList W w.heap.size 0 _ _ h.res;rw[qpk r c.toList (by simpa using hr)]at k
 simpa using k
set_option maxHeartbeats 8000000
set_option maxRecDepth 100000
theorem qxc (s:QY) (a:Nat) (w:World) (hs:s.size≤256) (ha:a≤s.size) (h8:(opGo (s.data.toList.drop a) 8).1=8) :
  Calls Tryz.prog 88 #[.string s,.int .i64 (a:Int)] w (qqx (clP s.data.toList a) w):=by
 have O1:=fun W=>qkx s a W hs ha;have HC:Hid (clP s.data.toList a=⟨8,pep0,[],false,a,a+(opGo (s.data.toList.drop a) 8).2,misL s.size (a+(opGo (s.data.toList.drop a) 8).2)⟩):=qb (by unfold clP;rw[if_pos h8,qg])
 rw[HC.out];rw[h8,if_pos rfl,if_pos rfl]at O1;have HM:Hid (misL s.size (a+(opGo (s.data.toList.drop a) 8).2)≠0):=qb (by unfold misL;split<;>decide)
 have n1:(misL s.size (a+(opGo (s.data.toList.drop a) 8).2)==0)=false:=by have:=HM.out;simpa using this
 have hml:=(qhm (s.data.toList.drop a) 8 (by omega)).2.1
 rw[List.length_drop,qg]at hml;generalize misL s.size (a+(opGo (s.data.toList.drop a) 8).2)=er at *;generalize (opGo (s.data.toList.drop a) 8).2=m at *;obtain⟨p,hp⟩:∃ p,a+m=p:=⟨_,rfl⟩;rw[hp]at O1 ⊢;have hps:p≤s.size:=by omega
 clear hp
 change ∀ W,Calls Tryz.prog 115 #[.string s,.int .i64 (a:Int)] W fun e w'=>e=.returned (.tuple #[.agg #[.string ⟨#[]⟩,.nilFunc,.nilFunc,.bool false],.int .i64 (p:Int),.int .i64 er])∧Below W.heap.size W w' at O1
 have O1:=qb O1;clear h8 HC;have R0:=RC.start w a;go_enter Tryz.func88,Tryz.ntmps88
 (go_wp2_with fail);generalize (w.alloc _).alloc _=V0 at *;refine(O1.out _).mono ?_;rintro e w1 ⟨rfl,b1⟩;have R2:=R0.below b1;obtain⟨x0,x1,x2,x3,x4,x5,x6,x7,x8,x9,x10,x11,x12,x13,x14,x15,x16,x17,x_0,x_1,x_2,x_3,x_4,x_5,x_6,x_7,x_8,x_9,x_10,x_11,x_12,x_13,x_14,x_15,x_16,x_17⟩:=qdc R2.top;obtain⟨W6,hW6,R6,_⟩:=R2.op6 (.string ⟨#[]⟩) .nilFunc .nilFunc (.bool false) (.int .i64 (p:Int)) (.int .i64 er);have HW6:=qb hW6;have HR6:=qb R6;clear R0 R2 b1 O1 hW6 R6;go_upto_region 3 with fail
 rw[←HW6.out];clear x0 x_0 x1 x_1 x2 x_2 x3 x_3 x4 x_4 x5 x_5 x6 x_6 x7 x_7 x8 x_8 x9 x_9 x10 x_10 x11 x_11 x12 x_12 x13 x_13 x14 x_14 x15 x_15 x16 x_16 x17 x_17 HW6;obtain⟨x0,x1,x2,x3,x4,x5,x6,x7,x8,x9,x10,x11,x12,x13,x14,x15,x16,x17,x_0,x_1,x_2,x_3,x_4,x_5,x_6,x_7,x_8,x_9,x_10,x_11,x_12,x_13,x_14,x_15,x_16,x_17⟩:=qdc HR6.out.top;obtain⟨C9,B9,_⟩:=HR6.out.copy rfl;have HC9:=qb C9;have HB9:=qb B9;have RG:=qb (qht HR6.out.top);have TH:=qb (qgn (n:=18) HR6.out.res (Nat.le_refl _));clear C9 B9;go_upto_region 7 with fail
 refine wp_region_lit (wpList_load_mid rfl 61 (.tmp 5) rfl (w.heap.size+1) 0 rfl _ _ RG.out Tryz.underlying61 rfl qhf ?_);refine wpList_store_mid rfl 61 (.tmp 4) (.tmp 49) rfl w.heap.size 0 _ rfl rfl TH.out qhf (by simp[Value.oneCell']) (wpList_nil ?_)
 trace_state;(go_wp2_with fail);refine fin88 _ _ w.heap.size _ rfl rfl HC9.out ?_;exact qbrd a p er HB9.out
end Go.Proofs.YtabmfdedbpmfmaaGreat
