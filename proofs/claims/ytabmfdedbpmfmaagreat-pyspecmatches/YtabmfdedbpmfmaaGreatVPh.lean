/- Walks: a row of runs. -/
import Derived.Test.YtabmfdedbpmfmaaGreatVPg
namespace Go.Proofs.YtabmfdedbpmfmaaGreat
open Go.RowKit Go.Shelf
open AllReadyIn renaming cons → qbtj, nil → qbtl
open _root_.Array renaming getElem?_eq_some_iff → qbth
open Below renaming heap_alloc → qbvb, heap_setCell → qbtz
open World renaming alloc_heap_new → qbtk, size_alloc → qbtq
open Go renaming World → QW
set_option linter.unusedVariables false
set_option maxHeartbeats 4000000
set_option maxRecDepth 100000
attribute [local go_sem] Oper.semAt_some
section
variable {F:Fence} {n l:Nat} {P:Program} {ops:Array Oper} {Q:Exit→Act→World→Prop} {md:Region.Mode}
theorem qbmd {o:Oper} (hro:F.round=none) (hd:∀ c,o.op≠.defer c) {a:Act} {w:QW} {K:Act→QW→Prop} (h:Oper.wpIn F n P o a w K Q):Oper.wpIn (F.inRound l) n P o a w K Q:=by
 unfold Oper.wpIn at *;refine⟨h.1,?_⟩;have h2:=h.2;rw[Oper.semAt_plain F _ _ hd]at h2;rw[Oper.semAt_plain (F.inRound l) _ _ hd];exact h2
theorem qbcl (hro:F.round=none) (hd:∀ (i:Nat) (o:Oper),ops[i]? = some o→∀ c,o.op≠.defer c) {i:Nat} {K:Act→QW→Prop} {a:Act} {w:QW} (h:wpOpIn F n P ops Q i K a w):wpOpIn (F.inRound l) n P ops Q i K a w:=by
 unfold wpOpIn at *;cases ho:ops[i]? with
 | none=>simpa[ho] using h
 | some o=>
  simp only[ho]at h ⊢;split
  ·rename_i hw;simp only[hw,if_true]at h;exact qbmd hro (hd i o ho) h
  ·rename_i hw;simp only[hw]at h;exact h
theorem qnn (hro:F.round=none) (hd:∀ (i:Nat) (o:Oper),ops[i]? = some o→∀ c,o.op≠.defer c) :
  ∀ (fuel:Nat) (listed:Array Bool) (a:Act) (w:QW),wpAnyIn F n P md ops Q fuel listed a w→wpAnyIn (F.inRound l) n P md ops Q fuel listed a w
 | 0,_,_,_,h=>h
 | fuel+1,listed,a,w,h=>⟨h.1,fun i hi=>wpOpIn_mono (fun a' w' h'=>qnn hro hd fuel _ a' w' h') (qbcl hro hd (h.2 i hi))⟩
theorem qbb {o:Oper} {a:Act} {w:QW} {K:Act→QW→Prop} {E:Prop}
  (hg:o.guard=none) (s x:Operand) (t:TypeId) (hop:o.op=Op.call { callee:=Callee.builtin Builtin.append,args:=#[s,x],argTypes:=#[t,t] })
  (base:Nat) (e:TypeId) (i:TypeInfo) (z:Value) (size bytes:Nat) (h1:P.underlying t=some (.slice e)) (h2:P.info? e=some i) (h3:i.zero=some z) (h4:i.size=size) (h5:i.bytes=bytes) (h6:z.cells.size=size) (h7:0<size)
  (v:Value) (k:Nat) (xs:List Value) (hs:a.eval s=v) (hown:w.ownsRow base e size v k xs) (ad:Addr) (m c:Nat) (news:List Value) (hx:a.eval x=.slice (some ad) m c) (hn:news.length=m*size)
  (hc:∀ j u,news[j]? = some u→w.cell? (ad.add j)=some u) (h1c:∀ u∈news,u.oneCell'=true) (b1:k+m≤maxLen) (b2:(k+m)*bytes≤140737488355328) (b3:base≤w.heap.size)
  (hK:∀ v' w',w'.ownsRow base e size v' (k+m) (xs++news)→w.grownBy w' v.ownBlock→(v'=.slice none 0 0↔v=.slice none 0 0∧m=0)→K (a.put o.dst v') w') :
  if Region.wanted o (yielded ops a.tmps)=true then Oper.wpIn F n P o a w K Q else E:=by
 have hw:Region.wanted o (yielded ops a.tmps)=true:=by simp[Region.wanted,hg]
 rw[if_pos hw];obtain⟨v',w',hrun,r1,r2,r3⟩:=run_append_own (P:=P) w base t o.type e i z size bytes h1 h2 h3 h4 h5 h6 h7 v k xs hown ad m c news hn hc h1c b1 b2 b3;unfold Oper.wpIn;refine⟨?_,?_⟩
 ·simp[Oper.about,hop,resolve,Target.leads,Sem.run_pure]
 ·rw[Oper.semAt_plain F _ _ (by rw[hop];intro c hc';cases hc')]
  simp[execOp,hop,resolve,invoke,builtin,hs,hx,hrun,Result.andThen];exact hK v' w' r1 r2 r3
end
def noDefer:Op→Bool
 | .defer _=>false
 | _=>true
theorem qblp {ops:Array Oper} (h:ops.all (fun o=>noDefer o.op)=true):∀ (i:Nat) (o:Oper),ops[i]? = some o→∀ c,o.op≠.defer c:=by
 intro i o ho c hc;obtain⟨hi,he⟩:=qbth.1 ho;have:=Array.all_eq_true.1 h i hi;rw[he,hc]at this;cases this
theorem qbj (w:QW) (e:TypeId) (x:Value):∀ j u,[x][j]? = some u→(w.alloc (.cells #[x] e)).cell? ((⟨w.heap.size,0,none⟩:Addr).add j)=some u:=by
 intro j u hj;have h:=fun j=>World.cell?_alloc_mark w #[x] e (0,0) j
 match j,hj with
 | 0,hj=>simp at hj;subst hj;exact h 0
theorem qcw (x:QY):∀ u∈[Value.string x],u.oneCell'=true:=by
 intro u hu;simp at hu;subst hu;rfl
theorem Tryz.info9:(Tryz.prog.info? 9).map (fun i=>(i.zero,i.size,i.bytes))=some (some (.string .empty),1,16):=by kernel_rfl
def qfk (z:Nat) (xs:List (Nat×Nat)):Nat:=match xs.getLast? with|some x=>x.2|none=>z
theorem qbrc (z:Nat):qfk z []=z:=rfl
theorem qjx (z:Nat) (xs:List (Nat×Nat)) (x:Nat×Nat):qfk z (xs++[x])=x.2:=by simp[qfk]
def vals (l:QB) (xs:List (Nat×Nat)):List Value:=xs.map fun x=>.string (qd (qbt (seg l x.1 x.2)))
theorem qbpv (l:QB) (pre:List (Nat×Nat)) (x:Nat×Nat):vals l (pre++[x])=vals l pre++[.string (qd (qbt (seg l x.1 x.2)))]:=by simp[vals]
theorem qpz (l:QB) (xs:List (Nat×Nat)):(vals l xs).length=xs.length:=by simp[vals]
def qbnm (s p:QY) (a:Nat) (kc:Int) (B:Nat) (w:QW) (r:Ending) (w':QW):Prop:=
 ∃ v,r=.returned v∧w'.ownsRow w.heap.size 9 1 v (qbf s.data.toList kc p.data.toList a).length (vals s.data.toList (qbf s.data.toList kc p.data.toList a))∧RdAt w' B s (qfk a (qbf s.data.toList kc p.data.toList a))∧Turn B w w'
theorem qfg {W:QW} {b c:Nat} {e:TypeId} {size:Nat} {v:Value} {n:Nat} {xs:List Value} (h:W.ownsRow c e size v n xs) (hb:b≤c):W.ownsRow b e size v n xs:=by
 refine⟨h.1,?_⟩;rcases h.2 with h2|⟨g,cap,cur,hv,hg,r⟩
 ·exact .inl h2
 ·exact .inr ⟨g,cap,cur,hv,Nat.le_trans hb hg,r⟩
theorem fin34 {R:Ending→QW→Prop} (tmps:Array Value) (Ds:List Nat) (W:QW) (n₀:Nat) (v:Value) (h1:tmps.getD 6 undef=v)
  (hnd:Ds.Nodup) (hD:∀ D∈Ds,n₀≤D∧W.heap[D]? = some (.deferred (some []))) (hR:∀ W',Past n₀ W W'→R (.returned v) W') :
  bodyPostM Fence.wide 5 Tryz.prog Tryz.f122 R .ret { tmps:=tmps,defers:=qbnv Ds } W:=by
 show LeavesInM _ _ _ _ _ _ _ _ _;refine qjj n₀ Ds W hnd hD ?_;intro W' hW';rw[Array.getD_eq_getD_getElem?]at h1;refine⟨_,?_,hR W' hW'⟩;simp[results,Tryz.results122,go_sem,h1]
theorem row_in (B : Nat) (s p:QY) (a:Nat) (kc:Int) (w:QW) (h:RdAt w B s a) (ha:a≤s.size) (hs:s.size≤64) (hp:p.size≤64) :
 CallsIn Fence.wide 5 Tryz.prog 122 #[.pointer (some ⟨B,0,none⟩),.int .i64 kc,.string p] w (qbnm s p a kc B w):=by
  obtain⟨i0,hi,hz0,hz1,hz2⟩:=info_parts Tryz.info9;refine callsIn_of_wp_marks Tryz.func122 rfl trivial (wpIn_wide.2 ?_) rfl;simp only[Tryz.ntmps122,List.size_toArray,List.length_cons,List.length_nil,Nat.reduceAdd,Nat.reduceSub,Array.replicate_succ,Array.replicate_zero,List.push_toArray,List.append_toArray,List.nil_append,List.cons_append];have hBl:=h.lt;have hrl:=qjv s.data.toList kc p.data.toList _ a rfl;rw[qg]at hrl;have b2:=((Below.refl w.heap.size w).alloc (Nat.le_refl _) (.cells #[.pointer (some ⟨B,0,none⟩)] 148)).alloc (by simp) (.cells #[.slice none 0 0] 37)
  have e0:((w.alloc (.cells #[.pointer (some ⟨B,0,none⟩)] 148)).alloc (.cells #[.slice none 0 0] 37)).heap[w.heap.size]? = some (.cells #[.pointer (some ⟨B,0,none⟩)] 148 (0,0)):=(qbvb _ _ _ (by simp)).trans (qbtk w _)
  have e1:=qbtk (w.alloc (.cells #[.pointer (some ⟨B,0,none⟩)] 148)) (.cells #[.slice none 0 0] 37);simp only[qbtq]at e1;have eB:=(b2.block B hBl).trans h;have hz2':((w.alloc (.cells #[.pointer (some ⟨B,0,none⟩)] 148)).alloc (.cells #[.slice none 0 0] 37)).heap.size=w.heap.size+1+1:=by simp
  (go_wp2_with fail);generalize (w.alloc (.cells #[.pointer (some ⟨B,0,none⟩)] 148)).alloc (.cells #[.slice none 0 0] 37)=W2 at *;have c0:=qc 0 eB rfl;have c1:=qc 1 eB rfl;have c2:=qdj e0;obtain⟨W3,hW3⟩:∃ W3,W3=((((W2.alloc (.cells #[.string s] 9)).alloc (.cells #[.int .i64 (a:Int)] 3)).alloc (.cells #[.int .i64 kc] 3)).alloc (.cells #[.string p] 9)).drew:=⟨_,rfl⟩;have bb:Below W2.heap.size W2 W3:=by rw[hW3];exact(((((Below.refl W2.heap.size W2).alloc (Nat.le_refl _) (.cells #[.string s] 9)).alloc (by simp) (.cells #[.int .i64 (a:Int)] 3)).alloc (by simp;omega) (.cells #[.int .i64 kc] 3)).alloc (by simp;omega) (.cells #[.string p] 9)).drew
  have g0:=(bb.block w.heap.size (qbth.1 e0).1).trans e0;have g1:=(bb.block (w.heap.size+1) (qbth.1 e1).1).trans e1;have gB:=(bb.block B (qbth.1 eB).1).trans eB
  have g2:W3.heap[w.heap.size+1+1]? = some (.cells #[.string s] 9 (0,0)):=by
    rw[hW3,←hz2'];exact(qbvb _ _ _ (by simp;omega)).trans ((qbvb _ _ _ (by simp;omega)).trans ((qbvb _ _ _ (by simp)).trans (qbtk W2 _)))
  have g3:W3.heap[w.heap.size+1+1+1]? = some (.cells #[.int .i64 (a:Int)] 3 (0,0)):=by
    rw[hW3,←hz2'];have k:=qbtk (W2.alloc (.cells #[.string s] 9)) (.cells #[.int .i64 (a:Int)] 3);rw[qbtq]at k;exact(qbvb _ _ _ (by simp)).trans ((qbvb _ _ _ (by simp)).trans k)
  have g4:W3.heap[w.heap.size+1+1+1+1]? = some (.cells #[.int .i64 kc] 3 (0,0)):=by
    rw[hW3,←hz2'];have k:=qbtk ((W2.alloc (.cells #[.string s] 9)).alloc (.cells #[.int .i64 (a:Int)] 3)) (.cells #[.int .i64 kc] 3);rw[qbtq,qbtq]at k;exact(qbvb _ _ _ (by simp)).trans k
  have g5:W3.heap[w.heap.size+1+1+1+1+1]? = some (.cells #[.string p] 9 (0,0)):=by
    rw[hW3,←hz2'];have k:=qbtk (((W2.alloc (.cells #[.string s] 9)).alloc (.cells #[.int .i64 (a:Int)] 3)).alloc (.cells #[.int .i64 kc] 3)) (.cells #[.string p] 9);rw[qbtq,qbtq,qbtq]at k;exact k
  have hz3:W3.heap.size=w.heap.size+1+1+1+1+1+1:=by rw[hW3];show((((W2.alloc _).alloc _).alloc _).alloc _).heap.size=_;simp[hz2']
  have B3:Below w.heap.size w W3:=b2.trans (bb.mono (by omega))
  have s1:=qb (qdj g0);have s2:=qb (qc 0 gB rfl);have s3:=qb (qc 1 gB rfl);have G0:=qb g0;have G1:=qb g1;have G2:=qb g2;have G3:=qb g3;have G4:=qb g4;have G5:=qb g5;have GB:=qb gB;have HW3:=qb hW3;clear g0 g1 g2 g3 g4 g5 gB hW3;have hn1:w.heap.size<W2.heap.size:=by omega
  have hn2:B<W2.heap.size:=by omega
  have t1:=fun o1 o2 o3 o4:Obj=>qdj ((((((Below.refl W2.heap.size W2).alloc (Nat.le_refl _) o1).alloc (by simp) o2).alloc (by simp;omega) o3).alloc (by simp;omega) o4).block w.heap.size hn1 |>.trans e0)
  have t2:=fun o1 o2 o3 o4:Obj=>qc 0 ((((((Below.refl W2.heap.size W2).alloc (Nat.le_refl _) o1).alloc (by simp) o2).alloc (by simp;omega) o3).alloc (by simp;omega) o4).block B hn2 |>.trans eB) rfl
  have t3:=fun o1 o2 o3 o4:Obj=>qc 1 ((((((Below.refl W2.heap.size W2).alloc (Nat.le_refl _) o1).alloc (by simp) o2).alloc (by simp;omega) o3).alloc (by simp;omega) o4).block B hn2 |>.trans eB) rfl
  go_region_held3 (fun w'=>w'.cell? ⟨w.heap.size,0,none⟩=some (.pointer (some ⟨B,0,none⟩))∧w'.cell? ⟨B,0,none⟩=some (.string s)∧w'.cell? ⟨B,1,none⟩=some (.int .i64 (a:Int)))
    (first|go_keep|(exact⟨t1 _ _ _ _,t2 _ _ _ _,t3 _ _ _ _⟩))
    ((first
      | (go_at_call 142;refine(runs_any _ _ _ _ _).mono ?_;rintro e w3 ⟨rfl,rfl⟩)
      | fail))
  (go_wp2_with fail);rw[←HW3.out];have L4:Hid (Lies W3 [(B,.cells #[.string s,.int .i64 (qfk a []:Int)] 122 (0,0)),(w.heap.size,.cells #[.pointer (some ⟨B,0,none⟩)] 148),(w.heap.size+1+1,.cells #[.string s] 9),(w.heap.size+1+1+1+1,.cells #[.int .i64 kc] 3),(w.heap.size+1+1+1+1+1,.cells #[.string p] 9)]):=Lies.cons GB.out (Lies.cons G0.out (Lies.cons G2.out (Lies.cons G4.out (Lies.cons G5.out (Lies.nil _)))));clear t1 t2 t3 s1 s2 s3 HW3 bb e0 e1 eB c0 c1 c2 b2 hn1 hn2 GB G0 G2
  have hps:∀ (z:Nat),∀ q∈[(B,Obj.cells #[.string s,.int .i64 (z:Int)] 122 (0,0)),(w.heap.size,.cells #[.pointer (some ⟨B,0,none⟩)] 148),(w.heap.size+1+1,.cells #[.string s] 9),(w.heap.size+1+1+1+1,.cells #[.int .i64 kc] 3),(w.heap.size+1+1+1+1+1,.cells #[.string p] 9)],q.1<W3.heap.size:=by
    intro z q hq;simp only[List.mem_cons,List.not_mem_nil,or_false]at hq;rcases hq with rfl|rfl|rfl|rfl|rfl<;>simp only<;>omega
  refine(wpIn_wide (n:=5)).1 ?_
  refine wpIn_rangeFunc_ownG rfl (by omega) (gf:=163) (lb:=#[.pointer (some ⟨w.heap.size+1+1+1,0,none⟩),.pointer (some ⟨w.heap.size+1+1,0,none⟩),.pointer (some ⟨w.heap.size+1+1+1+1,0,none⟩),.pointer (some ⟨w.heap.size+1+1+1+1+1,0,none⟩)]) rfl trivial (enters_of Tryz.func163 (by kernel_rfl) rfl)
    (qbmg 4 (by omega) (w.heap.size+1+1+1) (w.heap.size+1+1) (w.heap.size+1+1+1+1) (w.heap.size+1+1+1+1+1) s p a kc ha hs W3 G3.out L4.out.tail.tail.head G4.out G5.out) qkv.trans (three_b (by omega) (by omega) (by omega)) (Below.refl _ _) (fun _=>rfl)
    (fun pre W=>(∃ v,Boxed W (w.heap.size+1) 37 v∧W.ownsRow W3.heap.size 9 1 v pre.length (vals s.data.toList pre)∧True)∧Lies W [(B,.cells #[.string s,.int .i64 (qfk a pre:Int)] 122 (0,0)),(w.heap.size,.cells #[.pointer (some ⟨B,0,none⟩)] 148),(w.heap.size+1+1,.cells #[.string s] 9),(w.heap.size+1+1+1+1,.cells #[.int .i64 kc] 3),(w.heap.size+1+1+1+1+1,.cells #[.string p] 9)]∧Turn B w W)
    (fun _ _ _=>False)
    (fun pre X Y row h hg hr=>⟨(Own.from (holdsRow_own W3.heap.size (w.heap.size+1) 37 9 1 (fun pre=>pre.length) (fun pre=>vals s.data.toList pre) (fun _ _=>True)) W3.heap.size) pre X Y row h.1 hg hr,qvx (β:=Unit) W3.heap.size _ (hps _) () X Y row h.2.1 hg hr,qtr (β:=Unit) (B0:=W3.heap.size) (by omega) () X Y row h.2.2 hg hr⟩)
    (fun _ _ _ _ _ h _ _=>h)
    ⟨⟨_,G1.out,World.ownsRow_nil _ _ _ _,trivial⟩,L4.out,Turn.ofBelow B3⟩ ?a1 ?assign ?body ?done ?stop
  case assign=>
    intro l x W K hK;gi_wp2
    exact hK
  case body =>
    rintro lx pre x Wi ⟨⟨v,hv,hrow,_⟩,hL,hT⟩ hlen;have PL:=qb (fun W=>qzb (s.extract x.1 x.2) W (by rw[qfr,qr,seg];simp only[List.length_drop,List.length_take,qg];unfold maxLen;omega))
    rw[qdd]at PL;have HT:Hid (vals s.data.toList (pre++[x])=vals s.data.toList pre++[.string (qd (qbt (seg s.data.toList x.1 x.2)))]):=qbpv _ _ _;generalize qd (qbt (seg s.data.toList x.1 x.2))=T at *;gi_wp2
    refine wpIn_region_any (by kernel_rfl) ?_
    refine qnn (F:=Fence.wide) rfl ?hd _ _ _ _ ?_
    case hd=>exact qblp (by kernel_rfl)
    change wpAnyIn _ _ _ _ _ _ _ _ _ (World.drew _)
    have hv4:Boxed Wi.drew (w.heap.size+1) 37 v:=hv;have hrow4:=qb hrow.drew;have hL4:Lies Wi.drew _:=hL;have hT4:Turn B w Wi.drew:=hT.trans (Turn.drewN B Wi 1);have hk4:=KeepsOthers.drew Wi;have h34:qkv (w.heap.size+1+1) (w.heap.size+1+1+1+1) (w.heap.size+1+1+1+1+1) Wi Wi.drew:=qkv.refl _ _ _ _;clear hv hrow hL hT;generalize Wi.drew=W4 at *
    obtain ⟨ao,cap,rfl⟩:∃ ao cap,v=.slice ao pre.length cap:=by
      rcases hrow4.out.2 with ⟨rfl,h0⟩|⟨g,cap,_,rfl,_⟩
      · exact⟨none,0,by rw[h0]⟩
      · exact⟨_,cap,rfl⟩
    have hsz4:=hT4.size;have cP:=qdj hL4.tail.head;have cV:=hv4.cell;have cPa:∀ o:Obj,(W4.alloc o).cell? ⟨w.heap.size,0,none⟩=some (.pointer (some ⟨B,0,none⟩)):=fun o=>qdj (hL4.alloc o).tail.head;have cVa:∀ o:Obj,(W4.alloc o).cell? ⟨w.heap.size+1,0,none⟩=some (.slice ao pre.length cap):=fun o=>(hv4.alloc o).cell;have hN4:W3.heap.size≤W4.heap.size:=by have:=(qbth.1 hL4.tail.tail.tail.tail.head).1;omega
    have hnr:∀ b:Nat,b<W3.heap.size→(Value.slice ao pre.length cap).ownBlock≠some b:=by
      intro b hb e;rcases hrow4.out.2 with ⟨h1,_⟩|⟨g,cap',cur,h1,hg,_⟩
      · rw[h1]at e;cases e
      · rw[h1]at e
        simp only[Value.ownBlock,Option.some.injEq]at e;subst e;omega
    have HG:Hid (∀ (tmp:Obj) (w1:QW),(W4.alloc tmp).grownBy w1 (Value.slice ao pre.length cap).ownBlock→∀ b,b<W3.heap.size→w1.heap[b]? = W4.heap[b]?):=by
      intro tmp w1 hg b hb;exact(hg.block b (by simp;omega) (fun e=>hnr b hb e.symm)).trans (qbvb _ _ _ (by omega))
    have HCL:Hid (∀ (tmp:Obj) (w1:QW),(W4.alloc tmp).grownBy w1 (Value.slice ao pre.length cap).ownBlock→w1.cell? ⟨w.heap.size,0,none⟩=some (.pointer (some ⟨B,0,none⟩))∧w1.cell? ⟨w.heap.size+1,0,none⟩=some (.slice ao pre.length cap)∧w1.frozen? ⟨w.heap.size+1,0,none⟩=false∧w1.cell? ⟨B,1,none⟩=some (.int .i64 (qfk a pre:Int))∧w1.frozen? ⟨B,1,none⟩=false):=by
      intro tmp w1 hg;have kb:=HG.out tmp w1 hg;have k1:Boxed w1 (w.heap.size+1) 37 (.slice ao pre.length cap):=(kb _ (by omega)).trans hv4
      have k2:=(kb _ (by omega)).trans hL4.tail.head
      have k3:=(kb _ (by omega)).trans hL4.head
      exact⟨qdj k2,k1.cell,k1.frozen,qc 1 k3 rfl,qf 1 k3⟩
    have FIN:Hid (∀ (ac:Act) (g' cap':Nat) (tmp:Obj) (w1:QW),w1.ownsRow W3.heap.size 9 1 (.slice (some ⟨g',0,none⟩) (pre.length+1) cap') (pre.length+1) (vals s.data.toList pre++[.string T])→(W4.alloc tmp).grownBy w1 (Value.slice ao pre.length cap).ownBlock→ownPostG W3.heap.size (qkv (w.heap.size+1+1) (w.heap.size+1+1+1+1) (w.heap.size+1+1+1+1+1)) (fun pre W=>(∃ v,Boxed W (w.heap.size+1) 37 v∧W.ownsRow W3.heap.size 9 1 v pre.length (vals s.data.toList pre)∧True)∧Lies W [(B,.cells #[.string s,.int .i64 (qfk a pre:Int)] 122 (0,0)),(w.heap.size,.cells #[.pointer (some ⟨B,0,none⟩)] 148),(w.heap.size+1+1,.cells #[.string s] 9),(w.heap.size+1+1+1+1,.cells #[.int .i64 kc] 3),(w.heap.size+1+1+1+1+1,.cells #[.string p] 9)]∧Turn B w W) (fun _ _ _=>False) (pre++[x]) Wi .normal ac ((w1.setCell ⟨w.heap.size+1,0,none⟩ (.slice (some ⟨g',0,none⟩) (pre.length+1) cap')).setCell ⟨B,1,none⟩ (.int .i64 (x.2:Int)))):=by
      intro ac g' cap' tmp w1 hown' hg;have kb:=HG.out tmp w1 hg;have q0:w.heap.size+1≠B:=by omega
      have kk:∀ b,b<W3.heap.size→b≠B→b≠w.heap.size+1→((w1.setCell ⟨w.heap.size+1,0,none⟩ (.slice (some ⟨g',0,none⟩) (pre.length+1) cap')).setCell ⟨B,1,none⟩ (.int .i64 (x.2:Int))).heap[b]? = W4.heap[b]?:=fun b h1 h2 h3=>(qbtz _ _ _ b h2).trans ((qbtz _ _ _ b h3).trans (kb b h1))
      have a1:KeepsOthers W4 w1:=(KeepsOthers.alloc W4 tmp).trans (KeepsOthers.of_grownBy hg fun j o ej hj=>by
        rcases(hrow4.out.alloc tmp).2 with ⟨h1,_⟩|⟨g,cap',cur,h1,_,hgb,_⟩
        · rw[h1]at ej;cases ej
        · rw[h1]at ej
          simp only[Value.ownBlock,Option.some.injEq]at ej;subst ej;rw[hgb]at hj;cases hj;rfl)
      have t1:Turn B w w1:=qnw (hT4.alloc tmp) hg (fun k e=>by
        by_cases hk:k<W3.heap.size
        · exact absurd e (hnr k hk)
        · omega)
      have b1:Below w.heap.size w1 (w1.setCell ⟨w.heap.size+1,0,none⟩ (.slice (some ⟨g',0,none⟩) (pre.length+1) cap')):=(Below.refl _ _).setCell (p:=⟨w.heap.size+1,0,none⟩) (by simp only;omega) _
      have t2:Turn B w (w1.setCell ⟨w.heap.size+1,0,none⟩ (.slice (some ⟨g',0,none⟩) (pre.length+1) cap')):=⟨b1.os.trans t1.os,b1.tape.trans t1.tape,b1.output.trans t1.output,Nat.le_trans t1.size b1.size,fun k hk hn=>(b1.block k hk).trans (t1.block k hk hn)⟩;refine⟨(hk4.from _).trans (((a1.trans (KeepsOthers.setCell _ _ _)).trans (KeepsOthers.setCell _ _ _)).from _),h34.trans ⟨kk _ (by omega) (by omega) (by omega),kk _ (by omega) (by omega) (by omega),kk _ (by omega) (by omega) (by omega)⟩,⟨.slice (some ⟨g',0,none⟩) (pre.length+1) cap',?_,?_,trivial⟩,?_,t2.trans (Turn.set B 1 _ _)⟩
      · exact(qbtz _ _ _ _ q0).trans (qw 0 _ ((kb _ (by omega)).trans hv4))
      · rw[HT.out,List.length_append]
        exact ownsRow_setCell_below (ownsRow_setCell_below hown' (a:=⟨w.heap.size+1,0,none⟩) (by simp only;omega) _) (a:=⟨B,1,none⟩) (by simp only;omega) _
      · rw[qjx]
        exact Lies.cons (qw 1 _ ((qbtz _ _ _ _ (Ne.symm q0)).trans ((kb _ (by omega)).trans hL4.head))) (Lies.cons ((kk _ (by omega) (by omega) (by omega)).trans hL4.tail.head) (Lies.cons ((kk _ (by omega) (by omega) (by omega)).trans hL4.tail.tail.head) (Lies.cons ((kk _ (by omega) (by omega) (by omega)).trans hL4.tail.tail.tail.head) (Lies.cons ((kk _ (by omega) (by omega) (by omega)).trans hL4.tail.tail.tail.tail.head) (Lies.nil _)))))
    refine wpAnyIn_take (i:=2) (v:=?_) rfl rfl (by kernel_rfl) (by kernel_rfl) (by kernel_rfl) (fun _ _ _ h=>h) ⟨Or.inl ⟨by rfl,?_⟩,fun _=>rfl⟩ ?_
    rotate_left
    · intro w;go_simp
      try with_reducible rfl
    refine wpAnyIn_take (i:=6) (v:=?_) rfl rfl (by kernel_rfl) (by kernel_rfl) (by kernel_rfl) (fun _ _ _ h=>h) ⟨Or.inl ⟨by rfl,?_⟩,fun _=>rfl⟩ ?_
    rotate_left
    · intro w;go_simp
      try with_reducible rfl
    refine wpAnyIn_ready (rs:=[0,1,3]) (by kernel_rfl) (by simp) ?_
    refine qbtj rfl (fun K hK=>?_) ?_
    · go_simp
      refine hK _ _ ?_;clear hK K;refine wpAnyIn_ready (rs:=[1,3]) (by kernel_rfl) (by simp) ?_
      refine qbtj rfl (fun K hK=>?_) ?_
      · go_simp
        refine hK _ _ ?_;clear hK K;refine wpAnyIn_ready (rs:=[3]) (by kernel_rfl) (by simp) ?_
        refine qbtj rfl (fun K hK=>?_) ?_
        · go_simp
          refine⟨trivial,?_⟩;refine(callsIn_wide.2 (PL.out _)).mono ?_;rintro e w' ⟨rfl,hw'⟩;rw[hw'];clear hw' w';refine hK _ _ ?_;clear hK K;refine wpAnyIn_ready (rs:=[4]) (by kernel_rfl) (by simp) ?_
          refine qbtj rfl (fun K hK=>?_) ?_
          · go_simp
            refine hK _ _ ?_;clear hK K;refine wpAnyIn_ready (rs:=[5]) (by kernel_rfl) (by simp) ?_
            refine qbtj rfl (fun K hK=>?_) ?_
            · refine qbb rfl _ _ 37 rfl W3.heap.size 9 i0 (.string .empty) 1 16 Tryz.underlying37 hi hz0 hz1 hz2 rfl (by decide) _ _ _ rfl (hrow4.out.alloc _) ⟨W4.heap.size,0,none⟩ 1 1 [.string T] rfl rfl (qbj _ _ _) (qcw _) (by unfold maxLen;omega) (by omega) (by simp;omega) ?_
              intro v' w1 hown' hgrow _;obtain⟨g',cap',rfl⟩:=ownsRow_succ hown';obtain⟨h1a,h1b,h1c,h1d,h1e⟩:=HCL.out _ _ hgrow;refine hK _ _ ?_;clear hK K;refine wpAnyIn_ready (rs:=[7]) (by kernel_rfl) (by simp) ?_
              refine qbtj rfl (fun K hK=>?_) ?_
              · go_simp
                refine hK _ _ ?_;clear hK K;refine wpAnyIn_ready (rs:=[8]) (by kernel_rfl) (by simp) ?_
                refine qbtj rfl (fun K hK=>?_) ?_
                · go_simp
                  refine hK _ _ ?_;clear hK K;refine wpAnyIn_ready (rs:=[9]) (by kernel_rfl) (by simp) ?_
                  refine qbtj rfl (fun K hK=>?_) ?_
                  · go_simp
                    refine hK _ _ ?_;clear hK K;refine wpAnyIn_ready (rs:=[10]) (by kernel_rfl) (by simp) ?_
                    refine qbtj rfl (fun K hK=>?_) ?_
                    · go_simp
                      refine hK _ _ ?_;clear hK K;refine wpAnyIn_done (by kernel_rfl) ?_ _
                      exact FIN.out { tmps:=#[],defers:=[] } _ _ _ _ hown' hgrow
                    exact qbtl
                  exact qbtl
                exact qbtl
              exact qbtl
            exact qbtl
          exact qbtl
        exact qbtl
      refine qbtj rfl (fun K hK=>?_) ?_
      · go_simp
        refine⟨trivial,?_⟩;refine(callsIn_wide.2 (PL.out _)).mono ?_;rintro e w' ⟨rfl,hw'⟩;rw[hw'];clear hw' w';refine hK _ _ ?_;clear hK K;refine wpAnyIn_ready (rs:=[1,4]) (by kernel_rfl) (by simp) ?_
        refine qbtj rfl (fun K hK=>?_) ?_
        · go_simp
          refine hK _ _ ?_;clear hK K;refine wpAnyIn_ready (rs:=[4]) (by kernel_rfl) (by simp) ?_
          refine qbtj rfl (fun K hK=>?_) ?_
          · go_simp
            refine hK _ _ ?_;clear hK K;refine wpAnyIn_ready (rs:=[5]) (by kernel_rfl) (by simp) ?_
            refine qbtj rfl (fun K hK=>?_) ?_
            · refine qbb rfl _ _ 37 rfl W3.heap.size 9 i0 (.string .empty) 1 16 Tryz.underlying37 hi hz0 hz1 hz2 rfl (by decide) _ _ _ rfl (hrow4.out.alloc _) ⟨W4.heap.size,0,none⟩ 1 1 [.string T] rfl rfl (qbj _ _ _) (qcw _) (by unfold maxLen;omega) (by omega) (by simp;omega) ?_
              intro v' w1 hown' hgrow _;obtain⟨g',cap',rfl⟩:=ownsRow_succ hown';obtain⟨h1a,h1b,h1c,h1d,h1e⟩:=HCL.out _ _ hgrow;refine hK _ _ ?_;clear hK K;refine wpAnyIn_ready (rs:=[7]) (by kernel_rfl) (by simp) ?_
              refine qbtj rfl (fun K hK=>?_) ?_
              · go_simp
                refine hK _ _ ?_;clear hK K;refine wpAnyIn_ready (rs:=[8]) (by kernel_rfl) (by simp) ?_
                refine qbtj rfl (fun K hK=>?_) ?_
                · go_simp
                  refine hK _ _ ?_;clear hK K;refine wpAnyIn_ready (rs:=[9]) (by kernel_rfl) (by simp) ?_
                  refine qbtj rfl (fun K hK=>?_) ?_
                  · go_simp
                    refine hK _ _ ?_;clear hK K;refine wpAnyIn_ready (rs:=[10]) (by kernel_rfl) (by simp) ?_
                    refine qbtj rfl (fun K hK=>?_) ?_
                    · go_simp
                      refine hK _ _ ?_;clear hK K;refine wpAnyIn_done (by kernel_rfl) ?_ _
                      exact FIN.out { tmps:=#[],defers:=[] } _ _ _ _ hown' hgrow
                    exact qbtl
                  exact qbtl
                exact qbtl
              exact qbtl
            exact qbtl
          exact qbtl
        refine qbtj rfl (fun K hK=>?_) ?_
        · go_simp
          refine hK _ _ ?_;clear hK K;refine wpAnyIn_ready (rs:=[1]) (by kernel_rfl) (by simp) ?_
          refine qbtj rfl (fun K hK=>?_) ?_
          · go_simp
            refine hK _ _ ?_;clear hK K;refine wpAnyIn_ready (rs:=[5]) (by kernel_rfl) (by simp) ?_
            refine qbtj rfl (fun K hK=>?_) ?_
            · refine qbb rfl _ _ 37 rfl W3.heap.size 9 i0 (.string .empty) 1 16 Tryz.underlying37 hi hz0 hz1 hz2 rfl (by decide) _ _ _ rfl (hrow4.out.alloc _) ⟨W4.heap.size,0,none⟩ 1 1 [.string T] rfl rfl (qbj _ _ _) (qcw _) (by unfold maxLen;omega) (by omega) (by simp;omega) ?_
              intro v' w1 hown' hgrow _;obtain⟨g',cap',rfl⟩:=ownsRow_succ hown';obtain⟨h1a,h1b,h1c,h1d,h1e⟩:=HCL.out _ _ hgrow;refine hK _ _ ?_;clear hK K;refine wpAnyIn_ready (rs:=[7]) (by kernel_rfl) (by simp) ?_
              refine qbtj rfl (fun K hK=>?_) ?_
              · go_simp
                refine hK _ _ ?_;clear hK K;refine wpAnyIn_ready (rs:=[8]) (by kernel_rfl) (by simp) ?_
                refine qbtj rfl (fun K hK=>?_) ?_
                · go_simp
                  refine hK _ _ ?_;clear hK K;refine wpAnyIn_ready (rs:=[9]) (by kernel_rfl) (by simp) ?_
                  refine qbtj rfl (fun K hK=>?_) ?_
                  · go_simp
                    refine hK _ _ ?_;clear hK K;refine wpAnyIn_ready (rs:=[10]) (by kernel_rfl) (by simp) ?_
                    refine qbtj rfl (fun K hK=>?_) ?_
                    · go_simp
                      refine hK _ _ ?_;clear hK K;refine wpAnyIn_done (by kernel_rfl) ?_ _
                      exact FIN.out { tmps:=#[],defers:=[] } _ _ _ _ hown' hgrow
                    exact qbtl
                  exact qbtl
                exact qbtl
              exact qbtl
            exact qbtl
          exact qbtl
        exact qbtl
      exact qbtl
    refine qbtj rfl (fun K hK=>?_) ?_
    · go_simp
      refine hK _ _ ?_;clear hK K;refine wpAnyIn_ready (rs:=[0,3]) (by kernel_rfl) (by simp) ?_
      refine qbtj rfl (fun K hK=>?_) ?_
      · go_simp
        refine hK _ _ ?_;clear hK K;refine wpAnyIn_ready (rs:=[3]) (by kernel_rfl) (by simp) ?_
        refine qbtj rfl (fun K hK=>?_) ?_
        · go_simp
          refine⟨trivial,?_⟩;refine(callsIn_wide.2 (PL.out _)).mono ?_;rintro e w' ⟨rfl,hw'⟩;rw[hw'];clear hw' w';refine hK _ _ ?_;clear hK K;refine wpAnyIn_ready (rs:=[4]) (by kernel_rfl) (by simp) ?_
          refine qbtj rfl (fun K hK=>?_) ?_
          · go_simp
            refine hK _ _ ?_;clear hK K;refine wpAnyIn_ready (rs:=[5]) (by kernel_rfl) (by simp) ?_
            refine qbtj rfl (fun K hK=>?_) ?_
            · refine qbb rfl _ _ 37 rfl W3.heap.size 9 i0 (.string .empty) 1 16 Tryz.underlying37 hi hz0 hz1 hz2 rfl (by decide) _ _ _ rfl (hrow4.out.alloc _) ⟨W4.heap.size,0,none⟩ 1 1 [.string T] rfl rfl (qbj _ _ _) (qcw _) (by unfold maxLen;omega) (by omega) (by simp;omega) ?_
              intro v' w1 hown' hgrow _;obtain⟨g',cap',rfl⟩:=ownsRow_succ hown';obtain⟨h1a,h1b,h1c,h1d,h1e⟩:=HCL.out _ _ hgrow;refine hK _ _ ?_;clear hK K;refine wpAnyIn_ready (rs:=[7]) (by kernel_rfl) (by simp) ?_
              refine qbtj rfl (fun K hK=>?_) ?_
              · go_simp
                refine hK _ _ ?_;clear hK K;refine wpAnyIn_ready (rs:=[8]) (by kernel_rfl) (by simp) ?_
                refine qbtj rfl (fun K hK=>?_) ?_
                · go_simp
                  refine hK _ _ ?_;clear hK K;refine wpAnyIn_ready (rs:=[9]) (by kernel_rfl) (by simp) ?_
                  refine qbtj rfl (fun K hK=>?_) ?_
                  · go_simp
                    refine hK _ _ ?_;clear hK K;refine wpAnyIn_ready (rs:=[10]) (by kernel_rfl) (by simp) ?_
                    refine qbtj rfl (fun K hK=>?_) ?_
                    · go_simp
                      refine hK _ _ ?_;clear hK K;refine wpAnyIn_done (by kernel_rfl) ?_ _
                      exact FIN.out { tmps:=#[],defers:=[] } _ _ _ _ hown' hgrow
                    exact qbtl
                  exact qbtl
                exact qbtl
              exact qbtl
            exact qbtl
          exact qbtl
        exact qbtl
      refine qbtj rfl (fun K hK=>?_) ?_
      · go_simp
        refine⟨trivial,?_⟩;refine(callsIn_wide.2 (PL.out _)).mono ?_;rintro e w' ⟨rfl,hw'⟩;rw[hw'];clear hw' w';refine hK _ _ ?_;clear hK K;refine wpAnyIn_ready (rs:=[0,4]) (by kernel_rfl) (by simp) ?_
        refine qbtj rfl (fun K hK=>?_) ?_
        · go_simp
          refine hK _ _ ?_;clear hK K;refine wpAnyIn_ready (rs:=[4]) (by kernel_rfl) (by simp) ?_
          refine qbtj rfl (fun K hK=>?_) ?_
          · go_simp
            refine hK _ _ ?_;clear hK K;refine wpAnyIn_ready (rs:=[5]) (by kernel_rfl) (by simp) ?_
            refine qbtj rfl (fun K hK=>?_) ?_
            · refine qbb rfl _ _ 37 rfl W3.heap.size 9 i0 (.string .empty) 1 16 Tryz.underlying37 hi hz0 hz1 hz2 rfl (by decide) _ _ _ rfl (hrow4.out.alloc _) ⟨W4.heap.size,0,none⟩ 1 1 [.string T] rfl rfl (qbj _ _ _) (qcw _) (by unfold maxLen;omega) (by omega) (by simp;omega) ?_
              intro v' w1 hown' hgrow _;obtain⟨g',cap',rfl⟩:=ownsRow_succ hown';obtain⟨h1a,h1b,h1c,h1d,h1e⟩:=HCL.out _ _ hgrow;refine hK _ _ ?_;clear hK K;refine wpAnyIn_ready (rs:=[7]) (by kernel_rfl) (by simp) ?_
              refine qbtj rfl (fun K hK=>?_) ?_
              · go_simp
                refine hK _ _ ?_;clear hK K;refine wpAnyIn_ready (rs:=[8]) (by kernel_rfl) (by simp) ?_
                refine qbtj rfl (fun K hK=>?_) ?_
                · go_simp
                  refine hK _ _ ?_;clear hK K;refine wpAnyIn_ready (rs:=[9]) (by kernel_rfl) (by simp) ?_
                  refine qbtj rfl (fun K hK=>?_) ?_
                  · go_simp
                    refine hK _ _ ?_;clear hK K;refine wpAnyIn_ready (rs:=[10]) (by kernel_rfl) (by simp) ?_
                    refine qbtj rfl (fun K hK=>?_) ?_
                    · go_simp
                      refine hK _ _ ?_;clear hK K;refine wpAnyIn_done (by kernel_rfl) ?_ _
                      exact FIN.out { tmps:=#[],defers:=[] } _ _ _ _ hown' hgrow
                    exact qbtl
                  exact qbtl
                exact qbtl
              exact qbtl
            exact qbtl
          exact qbtl
        refine qbtj rfl (fun K hK=>?_) ?_
        · go_simp
          refine hK _ _ ?_;clear hK K;refine wpAnyIn_ready (rs:=[0,5]) (by kernel_rfl) (by simp) ?_
          refine qbtj rfl (fun K hK=>?_) ?_
          · go_simp
            refine hK _ _ ?_;clear hK K;refine wpAnyIn_ready (rs:=[5]) (by kernel_rfl) (by simp) ?_
            refine qbtj rfl (fun K hK=>?_) ?_
            · refine qbb rfl _ _ 37 rfl W3.heap.size 9 i0 (.string .empty) 1 16 Tryz.underlying37 hi hz0 hz1 hz2 rfl (by decide) _ _ _ rfl (hrow4.out.alloc _) ⟨W4.heap.size,0,none⟩ 1 1 [.string T] rfl rfl (qbj _ _ _) (qcw _) (by unfold maxLen;omega) (by omega) (by simp;omega) ?_
              intro v' w1 hown' hgrow _;obtain⟨g',cap',rfl⟩:=ownsRow_succ hown';obtain⟨h1a,h1b,h1c,h1d,h1e⟩:=HCL.out _ _ hgrow;refine hK _ _ ?_;clear hK K;refine wpAnyIn_ready (rs:=[7]) (by kernel_rfl) (by simp) ?_
              refine qbtj rfl (fun K hK=>?_) ?_
              · go_simp
                refine hK _ _ ?_;clear hK K;refine wpAnyIn_ready (rs:=[8]) (by kernel_rfl) (by simp) ?_
                refine qbtj rfl (fun K hK=>?_) ?_
                · go_simp
                  refine hK _ _ ?_;clear hK K;refine wpAnyIn_ready (rs:=[9]) (by kernel_rfl) (by simp) ?_
                  refine qbtj rfl (fun K hK=>?_) ?_
                  · go_simp
                    refine hK _ _ ?_;clear hK K;refine wpAnyIn_ready (rs:=[10]) (by kernel_rfl) (by simp) ?_
                    refine qbtj rfl (fun K hK=>?_) ?_
                    · go_simp
                      refine hK _ _ ?_;clear hK K;refine wpAnyIn_done (by kernel_rfl) ?_ _
                      exact FIN.out { tmps:=#[],defers:=[] } _ _ _ _ hown' hgrow
                    exact qbtl
                  exact qbtl
                exact qbtl
              exact qbtl
            exact qbtl
          refine qbtj rfl (fun K hK=>?_) ?_
          · refine qbb rfl _ _ 37 rfl W3.heap.size 9 i0 (.string .empty) 1 16 Tryz.underlying37 hi hz0 hz1 hz2 rfl (by decide) _ _ _ rfl (hrow4.out.alloc _) ⟨W4.heap.size,0,none⟩ 1 1 [.string T] rfl rfl (qbj _ _ _) (qcw _) (by unfold maxLen;omega) (by omega) (by simp;omega) ?_
            intro v' w1 hown' hgrow _;obtain⟨g',cap',rfl⟩:=ownsRow_succ hown';obtain⟨h1a,h1b,h1c,h1d,h1e⟩:=HCL.out _ _ hgrow;refine hK _ _ ?_;clear hK K;refine wpAnyIn_ready (rs:=[0,7]) (by kernel_rfl) (by simp) ?_
            refine qbtj rfl (fun K hK=>?_) ?_
            · go_simp
              refine hK _ _ ?_;clear hK K;refine wpAnyIn_ready (rs:=[7]) (by kernel_rfl) (by simp) ?_
              refine qbtj rfl (fun K hK=>?_) ?_
              · go_simp
                refine hK _ _ ?_;clear hK K;refine wpAnyIn_ready (rs:=[8]) (by kernel_rfl) (by simp) ?_
                refine qbtj rfl (fun K hK=>?_) ?_
                · go_simp
                  refine hK _ _ ?_;clear hK K;refine wpAnyIn_ready (rs:=[9]) (by kernel_rfl) (by simp) ?_
                  refine qbtj rfl (fun K hK=>?_) ?_
                  · go_simp
                    refine hK _ _ ?_;clear hK K;refine wpAnyIn_ready (rs:=[10]) (by kernel_rfl) (by simp) ?_
                    refine qbtj rfl (fun K hK=>?_) ?_
                    · go_simp
                      refine hK _ _ ?_;clear hK K;refine wpAnyIn_done (by kernel_rfl) ?_ _
                      exact FIN.out { tmps:=#[],defers:=[] } _ _ _ _ hown' hgrow
                    exact qbtl
                  exact qbtl
                exact qbtl
              exact qbtl
            refine qbtj rfl (fun K hK=>?_) ?_
            · go_simp
              refine hK _ _ ?_;clear hK K;refine wpAnyIn_ready (rs:=[0]) (by kernel_rfl) (by simp) ?_
              refine qbtj rfl (fun K hK=>?_) ?_
              · go_simp
                refine hK _ _ ?_;clear hK K;refine wpAnyIn_ready (rs:=[8]) (by kernel_rfl) (by simp) ?_
                refine qbtj rfl (fun K hK=>?_) ?_
                · go_simp
                  refine hK _ _ ?_;clear hK K;refine wpAnyIn_ready (rs:=[9]) (by kernel_rfl) (by simp) ?_
                  refine qbtj rfl (fun K hK=>?_) ?_
                  · go_simp
                    refine hK _ _ ?_;clear hK K;refine wpAnyIn_ready (rs:=[10]) (by kernel_rfl) (by simp) ?_
                    refine qbtj rfl (fun K hK=>?_) ?_
                    · go_simp
                      refine hK _ _ ?_;clear hK K;refine wpAnyIn_done (by kernel_rfl) ?_ _
                      exact FIN.out { tmps:=#[],defers:=[] } _ _ _ _ hown' hgrow
                    exact qbtl
                  exact qbtl
                exact qbtl
              exact qbtl
            exact qbtl
          exact qbtl
        exact qbtl
      exact qbtl
    refine qbtj rfl (fun K hK=>?_) ?_
    · go_simp
      refine⟨trivial,?_⟩;refine(callsIn_wide.2 (PL.out _)).mono ?_;rintro e w' ⟨rfl,hw'⟩;rw[hw'];clear hw' w';refine hK _ _ ?_;clear hK K;refine wpAnyIn_ready (rs:=[0,1,4]) (by kernel_rfl) (by simp) ?_
      refine qbtj rfl (fun K hK=>?_) ?_
      · go_simp
        refine hK _ _ ?_;clear hK K;refine wpAnyIn_ready (rs:=[1,4]) (by kernel_rfl) (by simp) ?_
        refine qbtj rfl (fun K hK=>?_) ?_
        · go_simp
          refine hK _ _ ?_;clear hK K;refine wpAnyIn_ready (rs:=[4]) (by kernel_rfl) (by simp) ?_
          refine qbtj rfl (fun K hK=>?_) ?_
          · go_simp
            refine hK _ _ ?_;clear hK K;refine wpAnyIn_ready (rs:=[5]) (by kernel_rfl) (by simp) ?_
            refine qbtj rfl (fun K hK=>?_) ?_
            · refine qbb rfl _ _ 37 rfl W3.heap.size 9 i0 (.string .empty) 1 16 Tryz.underlying37 hi hz0 hz1 hz2 rfl (by decide) _ _ _ rfl (hrow4.out.alloc _) ⟨W4.heap.size,0,none⟩ 1 1 [.string T] rfl rfl (qbj _ _ _) (qcw _) (by unfold maxLen;omega) (by omega) (by simp;omega) ?_
              intro v' w1 hown' hgrow _;obtain⟨g',cap',rfl⟩:=ownsRow_succ hown';obtain⟨h1a,h1b,h1c,h1d,h1e⟩:=HCL.out _ _ hgrow;refine hK _ _ ?_;clear hK K;refine wpAnyIn_ready (rs:=[7]) (by kernel_rfl) (by simp) ?_
              refine qbtj rfl (fun K hK=>?_) ?_
              · go_simp
                refine hK _ _ ?_;clear hK K;refine wpAnyIn_ready (rs:=[8]) (by kernel_rfl) (by simp) ?_
                refine qbtj rfl (fun K hK=>?_) ?_
                · go_simp
                  refine hK _ _ ?_;clear hK K;refine wpAnyIn_ready (rs:=[9]) (by kernel_rfl) (by simp) ?_
                  refine qbtj rfl (fun K hK=>?_) ?_
                  · go_simp
                    refine hK _ _ ?_;clear hK K;refine wpAnyIn_ready (rs:=[10]) (by kernel_rfl) (by simp) ?_
                    refine qbtj rfl (fun K hK=>?_) ?_
                    · go_simp
                      refine hK _ _ ?_;clear hK K;refine wpAnyIn_done (by kernel_rfl) ?_ _
                      exact FIN.out { tmps:=#[],defers:=[] } _ _ _ _ hown' hgrow
                    exact qbtl
                  exact qbtl
                exact qbtl
              exact qbtl
            exact qbtl
          exact qbtl
        refine qbtj rfl (fun K hK=>?_) ?_
        · go_simp
          refine hK _ _ ?_;clear hK K;refine wpAnyIn_ready (rs:=[1]) (by kernel_rfl) (by simp) ?_
          refine qbtj rfl (fun K hK=>?_) ?_
          · go_simp
            refine hK _ _ ?_;clear hK K;refine wpAnyIn_ready (rs:=[5]) (by kernel_rfl) (by simp) ?_
            refine qbtj rfl (fun K hK=>?_) ?_
            · refine qbb rfl _ _ 37 rfl W3.heap.size 9 i0 (.string .empty) 1 16 Tryz.underlying37 hi hz0 hz1 hz2 rfl (by decide) _ _ _ rfl (hrow4.out.alloc _) ⟨W4.heap.size,0,none⟩ 1 1 [.string T] rfl rfl (qbj _ _ _) (qcw _) (by unfold maxLen;omega) (by omega) (by simp;omega) ?_
              intro v' w1 hown' hgrow _;obtain⟨g',cap',rfl⟩:=ownsRow_succ hown';obtain⟨h1a,h1b,h1c,h1d,h1e⟩:=HCL.out _ _ hgrow;refine hK _ _ ?_;clear hK K;refine wpAnyIn_ready (rs:=[7]) (by kernel_rfl) (by simp) ?_
              refine qbtj rfl (fun K hK=>?_) ?_
              · go_simp
                refine hK _ _ ?_;clear hK K;refine wpAnyIn_ready (rs:=[8]) (by kernel_rfl) (by simp) ?_
                refine qbtj rfl (fun K hK=>?_) ?_
                · go_simp
                  refine hK _ _ ?_;clear hK K;refine wpAnyIn_ready (rs:=[9]) (by kernel_rfl) (by simp) ?_
                  refine qbtj rfl (fun K hK=>?_) ?_
                  · go_simp
                    refine hK _ _ ?_;clear hK K;refine wpAnyIn_ready (rs:=[10]) (by kernel_rfl) (by simp) ?_
                    refine qbtj rfl (fun K hK=>?_) ?_
                    · go_simp
                      refine hK _ _ ?_;clear hK K;refine wpAnyIn_done (by kernel_rfl) ?_ _
                      exact FIN.out { tmps:=#[],defers:=[] } _ _ _ _ hown' hgrow
                    exact qbtl
                  exact qbtl
                exact qbtl
              exact qbtl
            exact qbtl
          exact qbtl
        exact qbtl
      refine qbtj rfl (fun K hK=>?_) ?_
      · go_simp
        refine hK _ _ ?_;clear hK K;refine wpAnyIn_ready (rs:=[0,4]) (by kernel_rfl) (by simp) ?_
        refine qbtj rfl (fun K hK=>?_) ?_
        · go_simp
          refine hK _ _ ?_;clear hK K;refine wpAnyIn_ready (rs:=[4]) (by kernel_rfl) (by simp) ?_
          refine qbtj rfl (fun K hK=>?_) ?_
          · go_simp
            refine hK _ _ ?_;clear hK K;refine wpAnyIn_ready (rs:=[5]) (by kernel_rfl) (by simp) ?_
            refine qbtj rfl (fun K hK=>?_) ?_
            · refine qbb rfl _ _ 37 rfl W3.heap.size 9 i0 (.string .empty) 1 16 Tryz.underlying37 hi hz0 hz1 hz2 rfl (by decide) _ _ _ rfl (hrow4.out.alloc _) ⟨W4.heap.size,0,none⟩ 1 1 [.string T] rfl rfl (qbj _ _ _) (qcw _) (by unfold maxLen;omega) (by omega) (by simp;omega) ?_
              intro v' w1 hown' hgrow _;obtain⟨g',cap',rfl⟩:=ownsRow_succ hown';obtain⟨h1a,h1b,h1c,h1d,h1e⟩:=HCL.out _ _ hgrow;refine hK _ _ ?_;clear hK K;refine wpAnyIn_ready (rs:=[7]) (by kernel_rfl) (by simp) ?_
              refine qbtj rfl (fun K hK=>?_) ?_
              · go_simp
                refine hK _ _ ?_;clear hK K;refine wpAnyIn_ready (rs:=[8]) (by kernel_rfl) (by simp) ?_
                refine qbtj rfl (fun K hK=>?_) ?_
                · go_simp
                  refine hK _ _ ?_;clear hK K;refine wpAnyIn_ready (rs:=[9]) (by kernel_rfl) (by simp) ?_
                  refine qbtj rfl (fun K hK=>?_) ?_
                  · go_simp
                    refine hK _ _ ?_;clear hK K;refine wpAnyIn_ready (rs:=[10]) (by kernel_rfl) (by simp) ?_
                    refine qbtj rfl (fun K hK=>?_) ?_
                    · go_simp
                      refine hK _ _ ?_;clear hK K;refine wpAnyIn_done (by kernel_rfl) ?_ _
                      exact FIN.out { tmps:=#[],defers:=[] } _ _ _ _ hown' hgrow
                    exact qbtl
                  exact qbtl
                exact qbtl
              exact qbtl
            exact qbtl
          exact qbtl
        refine qbtj rfl (fun K hK=>?_) ?_
        · go_simp
          refine hK _ _ ?_;clear hK K;refine wpAnyIn_ready (rs:=[0,5]) (by kernel_rfl) (by simp) ?_
          refine qbtj rfl (fun K hK=>?_) ?_
          · go_simp
            refine hK _ _ ?_;clear hK K;refine wpAnyIn_ready (rs:=[5]) (by kernel_rfl) (by simp) ?_
            refine qbtj rfl (fun K hK=>?_) ?_
            · refine qbb rfl _ _ 37 rfl W3.heap.size 9 i0 (.string .empty) 1 16 Tryz.underlying37 hi hz0 hz1 hz2 rfl (by decide) _ _ _ rfl (hrow4.out.alloc _) ⟨W4.heap.size,0,none⟩ 1 1 [.string T] rfl rfl (qbj _ _ _) (qcw _) (by unfold maxLen;omega) (by omega) (by simp;omega) ?_
              intro v' w1 hown' hgrow _;obtain⟨g',cap',rfl⟩:=ownsRow_succ hown';obtain⟨h1a,h1b,h1c,h1d,h1e⟩:=HCL.out _ _ hgrow;refine hK _ _ ?_;clear hK K;refine wpAnyIn_ready (rs:=[7]) (by kernel_rfl) (by simp) ?_
              refine qbtj rfl (fun K hK=>?_) ?_
              · go_simp
                refine hK _ _ ?_;clear hK K;refine wpAnyIn_ready (rs:=[8]) (by kernel_rfl) (by simp) ?_
                refine qbtj rfl (fun K hK=>?_) ?_
                · go_simp
                  refine hK _ _ ?_;clear hK K;refine wpAnyIn_ready (rs:=[9]) (by kernel_rfl) (by simp) ?_
                  refine qbtj rfl (fun K hK=>?_) ?_
                  · go_simp
                    refine hK _ _ ?_;clear hK K;refine wpAnyIn_ready (rs:=[10]) (by kernel_rfl) (by simp) ?_
                    refine qbtj rfl (fun K hK=>?_) ?_
                    · go_simp
                      refine hK _ _ ?_;clear hK K;refine wpAnyIn_done (by kernel_rfl) ?_ _
                      exact FIN.out { tmps:=#[],defers:=[] } _ _ _ _ hown' hgrow
                    exact qbtl
                  exact qbtl
                exact qbtl
              exact qbtl
            exact qbtl
          refine qbtj rfl (fun K hK=>?_) ?_
          · refine qbb rfl _ _ 37 rfl W3.heap.size 9 i0 (.string .empty) 1 16 Tryz.underlying37 hi hz0 hz1 hz2 rfl (by decide) _ _ _ rfl (hrow4.out.alloc _) ⟨W4.heap.size,0,none⟩ 1 1 [.string T] rfl rfl (qbj _ _ _) (qcw _) (by unfold maxLen;omega) (by omega) (by simp;omega) ?_
            intro v' w1 hown' hgrow _;obtain⟨g',cap',rfl⟩:=ownsRow_succ hown';obtain⟨h1a,h1b,h1c,h1d,h1e⟩:=HCL.out _ _ hgrow;refine hK _ _ ?_;clear hK K;refine wpAnyIn_ready (rs:=[0,7]) (by kernel_rfl) (by simp) ?_
            refine qbtj rfl (fun K hK=>?_) ?_
            · go_simp
              refine hK _ _ ?_;clear hK K;refine wpAnyIn_ready (rs:=[7]) (by kernel_rfl) (by simp) ?_
              refine qbtj rfl (fun K hK=>?_) ?_
              · go_simp
                refine hK _ _ ?_;clear hK K;refine wpAnyIn_ready (rs:=[8]) (by kernel_rfl) (by simp) ?_
                refine qbtj rfl (fun K hK=>?_) ?_
                · go_simp
                  refine hK _ _ ?_;clear hK K;refine wpAnyIn_ready (rs:=[9]) (by kernel_rfl) (by simp) ?_
                  refine qbtj rfl (fun K hK=>?_) ?_
                  · go_simp
                    refine hK _ _ ?_;clear hK K;refine wpAnyIn_ready (rs:=[10]) (by kernel_rfl) (by simp) ?_
                    refine qbtj rfl (fun K hK=>?_) ?_
                    · go_simp
                      refine hK _ _ ?_;clear hK K;refine wpAnyIn_done (by kernel_rfl) ?_ _
                      exact FIN.out { tmps:=#[],defers:=[] } _ _ _ _ hown' hgrow
                    exact qbtl
                  exact qbtl
                exact qbtl
              exact qbtl
            refine qbtj rfl (fun K hK=>?_) ?_
            · go_simp
              refine hK _ _ ?_;clear hK K;refine wpAnyIn_ready (rs:=[0]) (by kernel_rfl) (by simp) ?_
              refine qbtj rfl (fun K hK=>?_) ?_
              · go_simp
                refine hK _ _ ?_;clear hK K;refine wpAnyIn_ready (rs:=[8]) (by kernel_rfl) (by simp) ?_
                refine qbtj rfl (fun K hK=>?_) ?_
                · go_simp
                  refine hK _ _ ?_;clear hK K;refine wpAnyIn_ready (rs:=[9]) (by kernel_rfl) (by simp) ?_
                  refine qbtj rfl (fun K hK=>?_) ?_
                  · go_simp
                    refine hK _ _ ?_;clear hK K;refine wpAnyIn_ready (rs:=[10]) (by kernel_rfl) (by simp) ?_
                    refine qbtj rfl (fun K hK=>?_) ?_
                    · go_simp
                      refine hK _ _ ?_;clear hK K;refine wpAnyIn_done (by kernel_rfl) ?_ _
                      exact FIN.out { tmps:=#[],defers:=[] } _ _ _ _ hown' hgrow
                    exact qbtl
                  exact qbtl
                exact qbtl
              exact qbtl
            exact qbtl
          exact qbtl
        exact qbtl
      refine qbtj rfl (fun K hK=>?_) ?_
      · go_simp
        refine hK _ _ ?_;clear hK K;refine wpAnyIn_ready (rs:=[0,1]) (by kernel_rfl) (by simp) ?_
        refine qbtj rfl (fun K hK=>?_) ?_
        · go_simp
          refine hK _ _ ?_;clear hK K;refine wpAnyIn_ready (rs:=[1]) (by kernel_rfl) (by simp) ?_
          refine qbtj rfl (fun K hK=>?_) ?_
          · go_simp
            refine hK _ _ ?_;clear hK K;refine wpAnyIn_ready (rs:=[5]) (by kernel_rfl) (by simp) ?_
            refine qbtj rfl (fun K hK=>?_) ?_
            · refine qbb rfl _ _ 37 rfl W3.heap.size 9 i0 (.string .empty) 1 16 Tryz.underlying37 hi hz0 hz1 hz2 rfl (by decide) _ _ _ rfl (hrow4.out.alloc _) ⟨W4.heap.size,0,none⟩ 1 1 [.string T] rfl rfl (qbj _ _ _) (qcw _) (by unfold maxLen;omega) (by omega) (by simp;omega) ?_
              intro v' w1 hown' hgrow _;obtain⟨g',cap',rfl⟩:=ownsRow_succ hown';obtain⟨h1a,h1b,h1c,h1d,h1e⟩:=HCL.out _ _ hgrow;refine hK _ _ ?_;clear hK K;refine wpAnyIn_ready (rs:=[7]) (by kernel_rfl) (by simp) ?_
              refine qbtj rfl (fun K hK=>?_) ?_
              · go_simp
                refine hK _ _ ?_;clear hK K;refine wpAnyIn_ready (rs:=[8]) (by kernel_rfl) (by simp) ?_
                refine qbtj rfl (fun K hK=>?_) ?_
                · go_simp
                  refine hK _ _ ?_;clear hK K;refine wpAnyIn_ready (rs:=[9]) (by kernel_rfl) (by simp) ?_
                  refine qbtj rfl (fun K hK=>?_) ?_
                  · go_simp
                    refine hK _ _ ?_;clear hK K;refine wpAnyIn_ready (rs:=[10]) (by kernel_rfl) (by simp) ?_
                    refine qbtj rfl (fun K hK=>?_) ?_
                    · go_simp
                      refine hK _ _ ?_;clear hK K;refine wpAnyIn_done (by kernel_rfl) ?_ _
                      exact FIN.out { tmps:=#[],defers:=[] } _ _ _ _ hown' hgrow
                    exact qbtl
                  exact qbtl
                exact qbtl
              exact qbtl
            exact qbtl
          exact qbtl
        refine qbtj rfl (fun K hK=>?_) ?_
        · go_simp
          refine hK _ _ ?_;clear hK K;refine wpAnyIn_ready (rs:=[0,5]) (by kernel_rfl) (by simp) ?_
          refine qbtj rfl (fun K hK=>?_) ?_
          · go_simp
            refine hK _ _ ?_;clear hK K;refine wpAnyIn_ready (rs:=[5]) (by kernel_rfl) (by simp) ?_
            refine qbtj rfl (fun K hK=>?_) ?_
            · refine qbb rfl _ _ 37 rfl W3.heap.size 9 i0 (.string .empty) 1 16 Tryz.underlying37 hi hz0 hz1 hz2 rfl (by decide) _ _ _ rfl (hrow4.out.alloc _) ⟨W4.heap.size,0,none⟩ 1 1 [.string T] rfl rfl (qbj _ _ _) (qcw _) (by unfold maxLen;omega) (by omega) (by simp;omega) ?_
              intro v' w1 hown' hgrow _;obtain⟨g',cap',rfl⟩:=ownsRow_succ hown';obtain⟨h1a,h1b,h1c,h1d,h1e⟩:=HCL.out _ _ hgrow;refine hK _ _ ?_;clear hK K;refine wpAnyIn_ready (rs:=[7]) (by kernel_rfl) (by simp) ?_
              refine qbtj rfl (fun K hK=>?_) ?_
              · go_simp
                refine hK _ _ ?_;clear hK K;refine wpAnyIn_ready (rs:=[8]) (by kernel_rfl) (by simp) ?_
                refine qbtj rfl (fun K hK=>?_) ?_
                · go_simp
                  refine hK _ _ ?_;clear hK K;refine wpAnyIn_ready (rs:=[9]) (by kernel_rfl) (by simp) ?_
                  refine qbtj rfl (fun K hK=>?_) ?_
                  · go_simp
                    refine hK _ _ ?_;clear hK K;refine wpAnyIn_ready (rs:=[10]) (by kernel_rfl) (by simp) ?_
                    refine qbtj rfl (fun K hK=>?_) ?_
                    · go_simp
                      refine hK _ _ ?_;clear hK K;refine wpAnyIn_done (by kernel_rfl) ?_ _
                      exact FIN.out { tmps:=#[],defers:=[] } _ _ _ _ hown' hgrow
                    exact qbtl
                  exact qbtl
                exact qbtl
              exact qbtl
            exact qbtl
          refine qbtj rfl (fun K hK=>?_) ?_
          · refine qbb rfl _ _ 37 rfl W3.heap.size 9 i0 (.string .empty) 1 16 Tryz.underlying37 hi hz0 hz1 hz2 rfl (by decide) _ _ _ rfl (hrow4.out.alloc _) ⟨W4.heap.size,0,none⟩ 1 1 [.string T] rfl rfl (qbj _ _ _) (qcw _) (by unfold maxLen;omega) (by omega) (by simp;omega) ?_
            intro v' w1 hown' hgrow _;obtain⟨g',cap',rfl⟩:=ownsRow_succ hown';obtain⟨h1a,h1b,h1c,h1d,h1e⟩:=HCL.out _ _ hgrow;refine hK _ _ ?_;clear hK K;refine wpAnyIn_ready (rs:=[0,7]) (by kernel_rfl) (by simp) ?_
            refine qbtj rfl (fun K hK=>?_) ?_
            · go_simp
              refine hK _ _ ?_;clear hK K;refine wpAnyIn_ready (rs:=[7]) (by kernel_rfl) (by simp) ?_
              refine qbtj rfl (fun K hK=>?_) ?_
              · go_simp
                refine hK _ _ ?_;clear hK K;refine wpAnyIn_ready (rs:=[8]) (by kernel_rfl) (by simp) ?_
                refine qbtj rfl (fun K hK=>?_) ?_
                · go_simp
                  refine hK _ _ ?_;clear hK K;refine wpAnyIn_ready (rs:=[9]) (by kernel_rfl) (by simp) ?_
                  refine qbtj rfl (fun K hK=>?_) ?_
                  · go_simp
                    refine hK _ _ ?_;clear hK K;refine wpAnyIn_ready (rs:=[10]) (by kernel_rfl) (by simp) ?_
                    refine qbtj rfl (fun K hK=>?_) ?_
                    · go_simp
                      refine hK _ _ ?_;clear hK K;refine wpAnyIn_done (by kernel_rfl) ?_ _
                      exact FIN.out { tmps:=#[],defers:=[] } _ _ _ _ hown' hgrow
                    exact qbtl
                  exact qbtl
                exact qbtl
              exact qbtl
            refine qbtj rfl (fun K hK=>?_) ?_
            · go_simp
              refine hK _ _ ?_;clear hK K;refine wpAnyIn_ready (rs:=[0]) (by kernel_rfl) (by simp) ?_
              refine qbtj rfl (fun K hK=>?_) ?_
              · go_simp
                refine hK _ _ ?_;clear hK K;refine wpAnyIn_ready (rs:=[8]) (by kernel_rfl) (by simp) ?_
                refine qbtj rfl (fun K hK=>?_) ?_
                · go_simp
                  refine hK _ _ ?_;clear hK K;refine wpAnyIn_ready (rs:=[9]) (by kernel_rfl) (by simp) ?_
                  refine qbtj rfl (fun K hK=>?_) ?_
                  · go_simp
                    refine hK _ _ ?_;clear hK K;refine wpAnyIn_ready (rs:=[10]) (by kernel_rfl) (by simp) ?_
                    refine qbtj rfl (fun K hK=>?_) ?_
                    · go_simp
                      refine hK _ _ ?_;clear hK K;refine wpAnyIn_done (by kernel_rfl) ?_ _
                      exact FIN.out { tmps:=#[],defers:=[] } _ _ _ _ hown' hgrow
                    exact qbtl
                  exact qbtl
                exact qbtl
              exact qbtl
            exact qbtl
          exact qbtl
        exact qbtl
      exact qbtl
    exact qbtl
  case done=>
    rintro D ys W hD rfl ⟨⟨v,hv,hrow,_⟩,hL,hT⟩ hK;have cV:=hv.cell;gi_wp2
    (go_wp2_with fail);refine fin34 _ [D] W w.heap.size v rfl (by simp) (by intro E hE;rw[List.mem_singleton.1 hE];exact⟨by omega,hK⟩) ?_
    intro W' hp;exact⟨v,rfl,qfg (hp.own hrow) (by omega),hp.2 _ _ hL.head rfl,hT.past hp (Nat.le_refl _)⟩
  case stop=>
    rintro D c ys W _ _ h _;exact h.elim
theorem qbpf (B:Nat) (s p:QY) (a:Nat) (kc:Int) (w:QW) (h:RdAt w B s a) (ha:a≤s.size) (hs:s.size≤64) (hp:p.size≤64) :
  Calls Tryz.prog 122 #[.pointer (some ⟨B,0,none⟩),.int .i64 kc,.string p] w (qbnm s p a kc B w):=
 (callsIn_wide (n:=5)).1 (row_in B s p a kc w h ha hs hp)
end Go.Proofs.YtabmfdedbpmfmaaGreat
