/- Walks: the iterator over runs of a class with separators bet -/
import Derived.Test.YtabmfdedbpmfmaaGreatUPd
namespace Go.Proofs.YtabmfdedbpmfmaaGreat
open Go.RowKit Go.Shelf
open _root_.Array renaming getElem?_eq_some_iff → qbsp
open Below renaming heap_alloc → qbtj, heap_setCell → qbth
open List renaming mem_cons_of_mem → qbsz
open World renaming alloc_heap_new → qbsr
open Go renaming World → QW
set_option linter.unusedVariables false
set_option maxHeartbeats 4000000
set_option maxRecDepth 100000
attribute [local go_sem] Oper.semAt_some
theorem qvh {β : Type} {B B0:Nat} {w:QW} (hB:w.heap.size≤B0):OwnFrom B0 (fun (_:β) W=>Turn B w W):=by
 rintro s X Y row h hg hrow;exact qpc h hg (fun k e=>Nat.le_trans hB (hrow k e).1)
def qbng (Ds:List Nat):List Deferred:=Ds.map fun D=>{ target:=.collected D,args:=#[] }
def Past (n₀:Nat) (W W':QW):Prop:=Below n₀ W W'∧∀ (b:Nat) (o:Obj),W.heap[b]? = some o→o.isCells=true→W'.heap[b]? = some o
theorem Past.refl (n₀:Nat) (W:QW):Past n₀ W W:=⟨Below.refl _ _,fun _ _ h _=>h⟩
theorem Past.trans {n₀:Nat} {A B C:QW} (h:Past n₀ A B) (k:Past n₀ B C):Past n₀ A C:=⟨h.1.trans k.1,fun b o h1 h2=>k.2 b o (h.2 b o h1 h2) h2⟩
theorem Past.own {n₀ base:Nat} {e:TypeId} {size:Nat} {v:Value} {k:Nat} {xs:List Value} {W W':QW} (h:Past n₀ W W') (hr:W.ownsRow base e size v k xs):W'.ownsRow base e size v k xs:=by
 refine⟨hr.1,?_⟩;rcases hr.2 with h2|⟨g,cap,cur,hv,hg,hh,r⟩
 ·exact .inl h2
 ·exact .inr ⟨g,cap,cur,hv,hg,h.2 g _ hh rfl,r⟩
theorem qjf {fn:Func} {tmps:Array Value} {R:Ending→QW→Prop} (n₀:Nat):∀ (Ds:List Nat) (W:QW),Ds.Nodup→(∀ D∈Ds,n₀≤D∧W.heap[D]? = some (.deferred (some []))) →
  (∀ W',Past n₀ W W'→LeavesIn Fence.wide 5 Tryz.prog fn tmps R [] .returning W')→LeavesInM Fence.wide 5 Tryz.prog fn tmps R (qbng Ds) .returning W
 | [],W,_,_,h=>h W (Past.refl _ _)
 | D::Ds,W,hnd,hD,h=>by
  have hd:=hD D List.mem_cons_self;have hne:∀ E∈Ds,E≠D:=fun E hE e=>by subst e;exact(List.nodup_cons.1 hnd).1 hE
  refine⟨by simp,.inl ⟨_,_,rfl,run_takeDeferred hd.2,?_⟩⟩
  refine qjf n₀ Ds _ (List.nodup_cons.1 hnd).2 (fun E hE=>⟨(hD E (qbsz _ hE)).1,(World.putObj_heap_other (hne E hE)).trans (hD E (qbsz _ hE)).2⟩) ?_;intro W' hW';refine h W' (Past.trans ⟨?_,?_⟩ hW')
  ·exact belowK_b (w:={ W with heap:=W.heap.take n₀ }) (n₀:=n₀) (by have:=(qbsp.1 hd.2).1;simp;omega) W D _ _ (by simp;omega) hd.2 rfl rfl
  ·intro b o hb ho
   by_cases e:b=D
   ·subst e;rw[hd.2]at hb;cases hb;cases ho
   ·exact(World.putObj_heap_other e).trans hb
theorem Turn.past {B n₀:Nat} {w W W':QW} (h:Turn B w W) (hp:Past n₀ W W') (hn:w.heap.size≤n₀):Turn B w W':=
 ⟨hp.1.os.trans h.os,hp.1.tape.trans h.tape,hp.1.output.trans h.output,Nat.le_trans h.size hp.1.size,fun k hk hne=>(hp.1.block k (by omega)).trans (h.block k hk hne)⟩
theorem fin62 {R:Ending→QW→Prop} (tmps:Array Value) (Ds:List Nat) (W:QW) (n₀ B1 B2:Nat) (x t:QY)
  (h1:tmps.getD 4 undef=.pointer (some ⟨B1,0,none⟩)) (h2:tmps.getD 5 undef=.pointer (some ⟨B2,0,none⟩)) (e1:W.heap[B1]? = some (.cells #[.string x] 9 (0,0))) (e2:W.heap[B2]? = some (.cells #[.string t] 9 (0,0)))
  (hnd:Ds.Nodup) (hD:∀ D∈Ds,n₀≤D∧W.heap[D]? = some (.deferred (some [])))
  (hR:∀ W',Past n₀ W W'→R (.returned (.tuple #[.string x,.string t])) W') :
  bodyPostM Fence.wide 5 Tryz.prog Tryz.f144 R .ret { tmps:=tmps,defers:=qbng Ds } W:=by
 show LeavesInM _ _ _ _ _ _ _ _ _;refine qjf n₀ Ds W hnd hD ?_;intro W' hW';have r0:=qdj (hW'.2 _ _ e1 rfl);have r1:=qdj (hW'.2 _ _ e2 rfl);rw[Array.getD_eq_getD_getElem?]at h1 h2;refine⟨_,?_,hR W' hW'⟩;simp[results,Tryz.results144,go_sem,h1,h2,r0,r1]
 try rfl
def qbl (l:QB) (a:Nat) (ws:List QB):Option (QB):=ws.find? fun x=>pfxB (l.drop (qbd l a)) x
def qwj (s:QY) (a:Nat) (ws:List QB) (B:Nat) (w:QW) (r:Ending) (w':QW):Prop:=
 match qbl s.data.toList a ws with
 | none=>r=.returned (.tuple #[.string ⟨#[]⟩,.string ⟨#[]⟩])∧RdAt w' B s a∧Turn B w w'
 | some x=>r=.returned (.tuple #[.string (qd x),.string (qd (qr (digT s.data.toList (qbd s.data.toList a+x.length))))])∧RdAt w' B s (digP s.data.toList (qbd s.data.toList a+x.length))∧Turn B w w'
theorem stage_in (B:Nat) (s:QY) (a A c:Nat) (ws:List QB) (w:QW) (h:RdAt w B s a) (ha:a≤s.size) (hs:s.size≤64) (hA:qhf w A ws) (hws:ws.length≤64) (hwl:∀ x∈ws,x.length≤64) (hAB:A≠B) :
 CallsIn Fence.wide 5 Tryz.prog 144 #[.pointer (some ⟨B,0,none⟩),.slice (some ⟨A,0,none⟩) ws.length c] w (qwj s a ws B w):=by
  refine callsIn_of_wp_marks Tryz.func144 rfl trivial (wpIn_wide.2 ?_) rfl;simp only[Tryz.ntmps144,List.size_toArray,List.length_cons,List.length_nil,Nat.reduceAdd,Nat.reduceSub,Array.replicate_succ,Array.replicate_zero,List.push_toArray,List.append_toArray,List.nil_append,List.cons_append];have hBl:=h.lt;have hAl:=(qbsp.1 hA).1;have hm:=qgk s.data.toList a (by rw[qg];exact ha)
  rw[qg]at hm;have b3:Below w.heap.size w (((w.alloc (.cells #[.pointer (some ⟨B,0,none⟩)] 148)).alloc (.cells #[.string ⟨#[]⟩] 9)).alloc (.cells #[.string ⟨#[]⟩] 9)):=(((Below.refl _ w).alloc (Nat.le_refl _) _).alloc (by simp) _).alloc (by simp;omega) _
  have MK:=qb (qlz B s a _ (h.below b3) hs);have hMI:(0:Int)≤(qbd s.data.toList a:Int):=Int.natCast_nonneg _;have hMJ:(qbd s.data.toList a:Int)≤(s.size:Int):=by omega
  have HR0:Hid (s.extract (qbd s.data.toList a) s.size=qd (s.data.toList.drop (qbd s.data.toList a))):=qfs s _;have HW:Hid (qbl s.data.toList a ws=ws.find? fun x=>pfxB (s.data.toList.drop (qbd s.data.toList a)) x):=rfl
  have HPost:Hid (qwj s a ws B w=fun r w'=>match qbl s.data.toList a ws with
    | none=>r=.returned (.tuple #[.string ⟨#[]⟩,.string ⟨#[]⟩])∧RdAt w' B s a∧Turn B w w'
    | some x=>r=.returned (.tuple #[.string (qd x),.string (qd (qr (digT s.data.toList (qbd s.data.toList a+x.length))))])∧RdAt w' B s (digP s.data.toList (qbd s.data.toList a+x.length))∧Turn B w w'):=rfl
  generalize qwj s a ws B w=PP at *;generalize qbd s.data.toList a=M at *;(go_wp2_with fail);refine MK.out.mono ?_;rintro r w1 ⟨rfl,n1,hw1⟩;have hz1:w1.heap.size=w.heap.size+1+1+1:=by rw[hw1,qbw];simp
  have B1:Below w.heap.size w w1:=by rw[hw1];exact b3.trans (qx _ _ _)
  have e0:w1.heap[w.heap.size]? = some (.cells #[.pointer (some ⟨B,0,none⟩)] 148 (0,0)):=by
    rw[hw1,qbw];exact(qbtj _ _ _ (by simp;omega)).trans ((qbtj _ _ _ (by simp)).trans (qbsr w _))
  have e1:w1.heap[w.heap.size+1]? = some (.cells #[.string ⟨#[]⟩] 9 (0,0)):=by
    rw[hw1,qbw];have k:=qbsr (w.alloc (.cells #[.pointer (some ⟨B,0,none⟩)] 148)) (.cells #[.string ⟨#[]⟩] 9);simp only[World.size_alloc]at k;exact(qbtj _ _ _ (by simp)).trans k
  have e2:w1.heap[w.heap.size+1+1]? = some (.cells #[.string ⟨#[]⟩] 9 (0,0)):=by
    rw[hw1,qbw];have k:=qbsr ((w.alloc (.cells #[.pointer (some ⟨B,0,none⟩)] 148)).alloc (.cells #[.string ⟨#[]⟩] 9)) (.cells #[.string ⟨#[]⟩] 9);simp only[World.size_alloc]at k;exact k
  have eB:=(B1.block B hBl).trans h;have eA:=(B1.block A hAl).trans hA;clear hw1 MK b3;have W2B:=(B1.alloc B1.size (.cells #[.int .i64 (M:Int)] 3));have L2:=qb ((Lies.cons eB (Lies.cons e0 (Lies.cons e1 (Lies.cons e2 (Lies.cons eA (Lies.nil _)))))).alloc (.cells #[.int .i64 (M:Int)] 3));have e3:=qbsr w1 (.cells #[.int .i64 (M:Int)] 3);have hz2:(w1.alloc (.cells #[.int .i64 (M:Int)] 3)).heap.size=w.heap.size+1+1+1+1:=by simp[hz1]
  rw[hz1]at e3;clear e0 e1 e2 eB eA;go_wp2_with fail
  try rw[hz1]
  generalize w1.alloc (.cells #[.int .i64 (M:Int)] 3)=W2 at *;clear B1 hz1;have c0:=qc 0 L2.out.head rfl;have c1:=qc 0 L2.out.tail.head rfl;have c2:=qc 0 e3 rfl
  go_region_held3 (fun w'=>w'.cell? ⟨w.heap.size,0,none⟩=some (.pointer (some ⟨B,0,none⟩))∧w'.cell? ⟨B,0,none⟩=some (.string s)∧w'.cell? ⟨w.heap.size+1+1+1,0,none⟩=some (.int .i64 (M:Int)))
    (first|go_keep|exact⟨s1,s2,s3⟩|(go_split_ands;exact⟨s1,s2,s3⟩))
    ((first
      | (go_at_call 166;refine(qbps _ _ _ _ _ _ rfl).mono ?_;rintro e w3 ⟨rfl,hw3⟩;have bb:=(((Below.refl W2.heap.size W2).drew.alloc (Nat.le_refl _) (.cells #[.string (s.extract M s.size)] 9)).alloc (by simp) (.cells #[.slice (some ⟨A,0,none⟩) ws.length c] 37));rw[←hw3]at bb;have L3:=L2.out.below bb (fun p hp=>L2.out.lt p hp);have e33:=(bb.block _ (qbsp.1 e3).1).trans e3;have s1:=qc 0 L3.tail.head rfl;have s2:=qc 0 L3.head rfl;have s3:=qc 0 e33 rfl)
      | fail))
  (go_wp2_with fail);have e4:=qbsr W2 (.cells #[.string (s.extract M s.size)] 9);have e5:=qbsr (W2.alloc (.cells #[.string (s.extract M s.size)] 9)) (.cells #[.slice (some ⟨A,0,none⟩) ws.length c] 37);have e4':=(qbtj (W2.alloc (.cells #[.string (s.extract M s.size)] 9)) (.cells #[.slice (some ⟨A,0,none⟩) ws.length c] 37) W2.heap.size (by simp)).trans e4
  simp only[World.size_alloc,hz2]at e4' e5;have L3:=qb ((L2.out.alloc (.cells #[.string (s.extract M s.size)] 9)).alloc (.cells #[.slice (some ⟨A,0,none⟩) ws.length c] 37));have e3':=(((Lies.cons e3 (Lies.nil W2)).alloc (.cells #[.string (s.extract M s.size)] 9)).alloc (.cells #[.slice (some ⟨A,0,none⟩) ws.length c] 37)).head;have B3:=((W2B.alloc W2B.size (.cells #[.string (s.extract M s.size)] 9)).alloc (by have:=W2B.size;simp;omega) (.cells #[.slice (some ⟨A,0,none⟩) ws.length c] 37)).drew
  obtain⟨W3,hW3⟩:∃ W3,W3=((W2.alloc (.cells #[.string (s.extract M s.size)] 9)).alloc (.cells #[.slice (some ⟨A,0,none⟩) ws.length c] 37)).drew:=⟨_,rfl⟩;have hz3:W3.heap.size=w.heap.size+1+1+1+1+1+1:=by rw[hW3];show((W2.alloc _).alloc _).heap.size=_;simp[hz2]
  have L4:Hid (Lies W3 [(B,.cells #[.string s,.int .i64 (a:Int)] 122 (0,0)),(w.heap.size,.cells #[.pointer (some ⟨B,0,none⟩)] 148),(w.heap.size+1,.cells #[.string ⟨#[]⟩] 9),(w.heap.size+1+1,.cells #[.string ⟨#[]⟩] 9),(A,.cells (ws.map fun x=>Value.string (qd x)).toArray 9),(w.heap.size+1+1+1,.cells #[.int .i64 (M:Int)] 3),(w.heap.size+1+1+1+1,.cells #[.string (s.extract M s.size)] 9),(w.heap.size+1+1+1+1+1,.cells #[.slice (some ⟨A,0,none⟩) ws.length c] 37)]):=by
    rw[hW3];exact Lies.cons L3.out.head (Lies.cons L3.out.tail.head (Lies.cons L3.out.tail.tail.head (Lies.cons L3.out.tail.tail.tail.head (Lies.cons L3.out.tail.tail.tail.tail.head (Lies.cons e3' (Lies.cons e4' (Lies.cons e5 (Lies.nil _))))))))
  rw[←hW3]at B3 ⊢;clear hW3 L3 L2 e3 e4 e5 e4' e3' W2B hz2 s1 s2 s3 c0 c1 c2 e33 bb hw3;have hps:∀ q∈[(B,Obj.cells #[.string s,.int .i64 (a:Int)] 122 (0,0)),(w.heap.size,.cells #[.pointer (some ⟨B,0,none⟩)] 148),(w.heap.size+1,.cells #[.string ⟨#[]⟩] 9),(w.heap.size+1+1,.cells #[.string ⟨#[]⟩] 9),(A,.cells (ws.map fun x=>Value.string (qd x)).toArray 9),(w.heap.size+1+1+1,.cells #[.int .i64 (M:Int)] 3),(w.heap.size+1+1+1+1,.cells #[.string (s.extract M s.size)] 9),(w.heap.size+1+1+1+1+1,.cells #[.slice (some ⟨A,0,none⟩) ws.length c] 37)],q.1<W3.heap.size:=fun q hq=>L4.out.lt q hq
  have hps2:∀ (p:Nat) (x t:QY),∀ q∈[(B,Obj.cells #[.string s,.int .i64 (p:Int)] 122 (0,0)),(w.heap.size+1,.cells #[.string x] 9),(w.heap.size+1+1,.cells #[.string t] 9)],q.1<W3.heap.size:=by
    intro p x t q hq;simp only[List.mem_cons,List.not_mem_nil,or_false]at hq;rcases hq with rfl|rfl|rfl<;>simp only<;>omega
  have hrs:(s.extract M s.size).size≤64:=by rw[qfx,qn];simp[seg];omega
  have HRR:Hid ((s.extract M s.size).data.toList=s.data.toList.drop M):=by show _=_;rw[HR0.out,qj]
  clear HR0;generalize s.extract M s.size=rr at *;refine(wpIn_wide (n:=5)).1 ?_
  refine wpIn_rangeFunc_ownG rfl (by omega) (gf:=180) (lb:=#[.pointer (some ⟨w.heap.size+1+1+1+1+1,0,none⟩),.pointer (some ⟨w.heap.size+1+1+1+1,0,none⟩)]) rfl trivial (enters_of Tryz.func180 (by kernel_rfl) rfl)
    (qbgm 4 (by omega) (w.heap.size+1+1+1+1+1) (w.heap.size+1+1+1+1) A c rr hrs ws hws hwl W3 L4.out.tail.tail.tail.tail.tail.tail.tail.head L4.out.tail.tail.tail.tail.tail.tail.head L4.out.tail.tail.tail.tail.head) Two.trans (two_b (by omega) (by omega)) (Below.refl _ _) (fun _=>rfl)
    (fun pre W=>Lies W [(B,.cells #[.string s,.int .i64 (a:Int)] 122 (0,0)),(w.heap.size,.cells #[.pointer (some ⟨B,0,none⟩)] 148),(w.heap.size+1,.cells #[.string ⟨#[]⟩] 9),(w.heap.size+1+1,.cells #[.string ⟨#[]⟩] 9),(A,.cells (ws.map fun x=>Value.string (qd x)).toArray 9),(w.heap.size+1+1+1,.cells #[.int .i64 (M:Int)] 3),(w.heap.size+1+1+1+1,.cells #[.string rr] 9),(w.heap.size+1+1+1+1+1,.cells #[.slice (some ⟨A,0,none⟩) ws.length c] 37)]∧(∀ x∈pre,pfxB rr.data.toList x=false)∧Turn B w W)
    (fun cc ys W=>cc=.ret∧∃ pre x,ys=pre++[x]∧(∀ y∈pre,pfxB rr.data.toList y=false)∧pfxB rr.data.toList x=true∧Lies W [(B,.cells #[.string s,.int .i64 (digP s.data.toList (M+x.length):Int)] 122 (0,0)),(w.heap.size+1,.cells #[.string (qd x)] 9),(w.heap.size+1+1,.cells #[.string (qd (qr (digT s.data.toList (M+x.length))))] 9)]∧Turn B w W)
    (fun pre X Y row h hg hr=>⟨qtw (β:=Unit) W3.heap.size _ hps () X Y row h.1 hg hr,h.2.1,qvh (β:=Unit) (B0:=W3.heap.size) (by omega) () X Y row h.2.2 hg hr⟩)
    (fun cc ys X Y row h hg hr=>by
      obtain⟨hc,pre,x,e1,e2,e3,h4,h5⟩:=h;exact⟨hc,pre,x,e1,e2,e3,qtw (β:=Unit) W3.heap.size _ (hps2 _ _ _) () X Y row h4 hg hr,qvh (β:=Unit) (B0:=W3.heap.size) (by omega) () X Y row h5 hg hr⟩)
    ⟨L4.out,by simp,Turn.ofBelow B3⟩ ?a1 ?assign ?body ?done ?stop
  case assign=>
    intro l x W K hK;gi_wp2
    exact hK
  case body=>
    rintro lx pre x Wi ⟨hL,hbad,hT⟩ hlen;have cP:=qdj hL.tail.head;have cM:=qdj hL.tail.tail.tail.tail.tail.head;cases hx:pfxB rr.data.toList x
    · gi_wp2
      exact ⟨KeepsFrom.refl _ _,Two.refl _ _ _,hL,fun y hy=>by
        rcases List.mem_append.1 hy with hy|hy
        · exact hbad y hy
        · rw[List.mem_singleton.1 hy];exact hx,hT⟩
    · have hxl:M+x.length≤s.size:=by
        have:=(List.isPrefixOf_iff_prefix.1 hx).length_le;rw[HRR.out,List.length_drop,qg]at this;omega
      have hRd:RdAt Wi B s a:=hL.head;obtain⟨c0,c1,f1⟩:=hRd.seen;have sx:=qn x;have z1:=qf 0 hL.tail.tail.head;have z2:=qf 0 hL.tail.tail.tail.head;have HRd2:=qb (hRd.place (M+x.length));have cP2:(Wi.setCell ⟨B,1,none⟩ (.int .i64 ((M+x.length:Nat):Int))).cell? ⟨w.heap.size,0,none⟩=some (.pointer (some ⟨B,0,none⟩)):=qdj ((qbth _ _ _ _ (by simp only;omega)).trans hL.tail.head)
      have DG:=qb (qtf B s (M+x.length) _ HRd2.out hxl hs);gi_wp2_with fail
      refine⟨trivial,(CallsIn.inRound lx (callsIn_wide.2 DG.out)).mono ?_⟩;rintro r w5 ⟨rfl,hr5,t5⟩;have tB:Turn B Wi w5:=(Turn.set B 1 Wi _).trans t5;have q1:=(tB.block (w.heap.size+1) (by have:=hT.size;have:=hL.lt _ (qbsz _ (qbsz _ List.mem_cons_self));simpa using this) (by omega)).trans hL.tail.tail.head
      have q2:=(tB.block (w.heap.size+1+1) (by have:=hL.lt _ (qbsz _ (qbsz _ (qbsz _ List.mem_cons_self)));simpa using this) (by omega)).trans hL.tail.tail.tail.head
      have g1:=qdj q1;have g2:=qdj q2;have y1:=qf 0 q1;have y2:=qf 0 q2;have TR:=qb (fun W=>qjq (qd (digT s.data.toList (M+x.length))) W (by rw[qn,digT,seg];simp only[List.length_drop,List.length_take,qg];unfold maxLen;omega))
      rw[qj]at TR;gi_wp2_with fail
      refine⟨trivial,(CallsIn.inRound lx (callsIn_wide.2 (TR.out _))).mono ?_⟩;rintro r w6 ⟨rfl,hw6⟩;rw[hw6];clear hw6 w6;gi_wp2_with fail
      have hkk:KeepsFrom W3.heap.size Wi w5:=KeepsFrom.of_grownBy tB.grown (fun j e=>by injection e with e;omega)
      refine⟨(hkk.trans ((KeepsOthers.setCell _ _ _).from _)).trans ((KeepsOthers.setCell _ _ _).from _),rfl,pre,x,rfl,hbad,hx,?_,?_⟩
      · refine Lies.cons ?_ (Lies.cons ?_ (Lies.cons ?_ (Lies.nil _)))
        · exact(qbth _ _ _ _ (by simp only;omega)).trans ((qbth _ _ _ _ (by simp only;omega)).trans hr5)
        · exact(qbth _ _ _ _ (by simp only;omega)).trans (qw 0 (.string (qd x)) q1)
        · exact qw 0 _ ((qbth _ _ _ _ (by simp only;omega)).trans q2)
      · have hb:=(hT.trans tB)
        have b1:Below w.heap.size w5 ((w5.setCell ⟨w.heap.size+1,0,none⟩ (.string (qd x))).setCell ⟨w.heap.size+1+1,0,none⟩ (.string (qd (qr (digT s.data.toList (M+x.length)))))):=((Below.refl _ _).setCell (p:=⟨w.heap.size+1,0,none⟩) (by simp only;omega) _).setCell (p:=⟨w.heap.size+1+1,0,none⟩) (by simp only;omega) _
        exact⟨b1.os.trans hb.os,b1.tape.trans hb.tape,b1.output.trans hb.output,Nat.le_trans hb.size b1.size,fun k hk hn=>(b1.block k hk).trans (hb.block k hk hn)⟩
  case done=>
    rintro D ys W hD rfl ⟨hL,hbad,hT⟩ hK
    have hN:qbl s.data.toList a ys=none:=by
      rw[HW.out,List.find?_eq_none];intro x hx;have:=hbad x hx;rw[HRR.out]at this;simp[this]
    have HN:=qb hN;clear hN;have q1:=hL.tail.tail.head;have q2:=hL.tail.tail.tail.head;have g1:=qdj q1;have g2:=qdj q2;have y1:=qf 0 q1;have y2:=qf 0 q2;gi_wp2
    (go_wp2_with fail);refine fin62 _ [D] _ w.heap.size (w.heap.size+1) (w.heap.size+1+1) ⟨#[]⟩ ⟨#[]⟩ rfl rfl ((qbth _ _ _ _ (by simp only;omega)).trans (qw 0 (.string ⟨#[]⟩) q1)) (qw 0 _ ((qbth _ _ _ _ (by simp only;omega)).trans q2)) (by simp) (by intro E hE;rw[List.mem_singleton.1 hE];exact⟨by omega,((KeepsOthers.setCell _ _ _).trans (KeepsOthers.setCell _ _ _)).same D _ hK rfl⟩) ?_
    intro W' hp;rw[HPost.out,HN.out];have b1:Below w.heap.size W ((W.setCell ⟨w.heap.size+1,0,none⟩ (.string ⟨#[]⟩)).setCell ⟨w.heap.size+1+1,0,none⟩ (.string ⟨#[]⟩)):=((Below.refl _ _).setCell (p:=⟨w.heap.size+1,0,none⟩) (by simp only;omega) _).setCell (p:=⟨w.heap.size+1+1,0,none⟩) (by simp only;omega) _
    have hT2:Turn B w ((W.setCell ⟨w.heap.size+1,0,none⟩ (.string ⟨#[]⟩)).setCell ⟨w.heap.size+1+1,0,none⟩ (.string ⟨#[]⟩)):=⟨b1.os.trans hT.os,b1.tape.trans hT.tape,b1.output.trans hT.output,Nat.le_trans hT.size b1.size,fun k hk hn=>(b1.block k hk).trans (hT.block k hk hn)⟩;exact⟨rfl,hp.2 _ _ ((b1.block B hBl).trans hL.head) rfl,hT2.past hp (Nat.le_refl _)⟩
  case stop=>
    rintro D cc ys W hD hpre ⟨rfl,pre,x,rfl,hbad,hx,hL,hT⟩ hK
    have hN:qbl s.data.toList a ws=some x:=by
      obtain⟨rest,hrest⟩:=hpre;rw[HW.out,←hrest,List.append_assoc,List.find?_append]
      have h1:pre.find? (fun x=>pfxB (s.data.toList.drop M) x)=none:=by
        rw[List.find?_eq_none];intro y hy;have:=hbad y hy;rw[HRR.out]at this;simp[this]
      rw[HRR.out]at hx;rw[h1];simp[hx]
    have HN:=qb hN;clear hN;gi_wp2
    refine fin62 _ [D] W w.heap.size (w.heap.size+1) (w.heap.size+1+1) (qd x) _ rfl rfl hL.tail.head hL.tail.tail.head (by simp) (by intro E hE;rw[List.mem_singleton.1 hE];exact⟨by omega,hK⟩) ?_
    intro W' hp;rw[HPost.out,HN.out];exact⟨rfl,hp.2 _ _ hL.head rfl,hT.past hp (Nat.le_refl _)⟩
theorem qbpq (B:Nat) (s:QY) (a A c:Nat) (ws:List QB) (w:QW) (h:RdAt w B s a) (ha:a≤s.size) (hs:s.size≤64) (hA:qhf w A ws) (hws:ws.length≤64) (hwl:∀ x∈ws,x.length≤64) (hAB:A≠B) :
  Calls Tryz.prog 144 #[.pointer (some ⟨B,0,none⟩),.slice (some ⟨A,0,none⟩) ws.length c] w (qwj s a ws B w):=
 (callsIn_wide (n:=5)).1 (stage_in B s a A c ws w h ha hs hA hws hwl hAB)
open List renaming length_drop → qbsj
set_option maxHeartbeats 1000000
set_option maxRecDepth 100000
def qbq:List QB:=[[97,108,112,104,97],[97],[98,101,116,97],[98],[112,114,101,118,105,101,119],[112,114,101],[99],[114,99]]
def qdn:List QB:=[[112,111,115,116],[114,101,118],[114]]
def qbk:List QB:=[[100,101,118]]
def stN (l:QB) (a:Nat) (ws:List QB):QB:=match qbl l a ws with|none=>[]|some x=>qr (digT l (qbd l a+x.length))
def stP (l:QB) (a:Nat) (ws:List QB):Nat:=match qbl l a ws with|none=>a|some x=>digP l (qbd l a+x.length)
def preC (l:QB) (a:Nat):Int:=match qbl l a qbq with|none=>0|some x=>if x=[97,108,112,104,97]∨x=[97] then 97 else if x=[98,101,116,97]∨x=[98] then 98 else 114
theorem qbnm (l:QB) (a:Nat) (h:a≤l.length):qbd l a≤digE l a∧digE l a≤l.length:=by
 have:=qgk l a h;have hr:=qhx 1 (l.drop (qbd l a));rw[qbsj]at hr;unfold digE;omega
theorem qbnj (l:QB) (a:Nat) (h:a≤l.length):a≤digP l a∧digP l a≤l.length:=by
 have:=qbnm l a h;have:=qgk l a h;unfold digP;split<;>omega
theorem qnw (l:QB) (a:Nat) (ws:List QB) (h:a≤l.length):a≤stP l a ws∧stP l a ws≤l.length:=by
 unfold stP;cases hw:qbl l a ws with
 | none=>simp only;omega
 | some x=>
  simp only;unfold qbl at hw;have hx:=List.find?_some hw;have hl:=(List.isPrefixOf_iff_prefix.1 hx).length_le;rw[qbsj]at hl;have hm:=qgk l a h;have:=qbnj l (qbd l a+x.length) (by omega)
  omega
theorem qqr (B:Nat) (s:QY) (a A c:Nat) (ws:List QB) (w:World) (h:RdAt w B s a) (ha:a≤s.size) (hs:s.size≤64) (hA:qhf w A ws) (hws:ws.length≤64) (hwl:∀ x∈ws,x.length≤64) (hAB:A≠B) :
  Calls Tryz.prog 144 #[.pointer (some ⟨B,0,none⟩),.slice (some ⟨A,0,none⟩) ws.length c] w fun r w'=>r=.returned (.tuple #[.string (qd ((qbl s.data.toList a ws).getD [])),.string (qd (stN s.data.toList a ws))])∧RdAt w' B s (stP s.data.toList a ws)∧Turn B w w':=by
 refine(qbpq B s a A c ws w h ha hs hA hws hwl hAB).mono ?_;intro r w' hp;unfold qwj at hp;unfold stN stP;cases hw:qbl s.data.toList a ws with
 | none=>rw[hw]at hp;exact hp
 | some x=>rw[hw]at hp;exact hp
theorem pre_any (B:Nat) (s:QY) (a:Nat) (w:World) (h:RdAt w B s a) (ha:a≤s.size) (hs:s.size≤64) :
  Calls Tryz.prog 124 #[.pointer (some ⟨B,0,none⟩)] w fun r w'=>r=.returned (.tuple #[.int .u8 (preC s.data.toList a),.string (qd (stN s.data.toList a qbq))])∧RdAt w' B s (stP s.data.toList a qbq)∧Turn B w w':=by
 have hBl:=h.lt;have b1:=(Below.refl w.heap.size w).alloc (Nat.le_refl _) (.cells #[.string ⟨#[97,108,112,104,97]⟩,.string ⟨#[97]⟩,.string ⟨#[98,101,116,97]⟩,.string ⟨#[98]⟩,.string ⟨#[112,114,101,118,105,101,119]⟩,.string ⟨#[112,114,101]⟩,.string ⟨#[99]⟩,.string ⟨#[114,99]⟩] 9);have S1:=qb (qqr B s a w.heap.size 8 qbq _ (h.below b1) ha hs (qbsr w _) (by decide) (by decide) (by omega))
 have HC:Hid (preC s.data.toList a=match qbl s.data.toList a qbq with|none=>0|some x=>if x=[97,108,112,104,97]∨x=[97] then 97 else if x=[98,101,116,97]∨x=[98] then 98 else 114):=rfl;have HN:Hid (qbl s.data.toList a qbq=none→stN s.data.toList a qbq=[]):=by
  intro hw;unfold stN;rw[hw]
 generalize stN s.data.toList a qbq=T at *;generalize stP s.data.toList a qbq=P at *;generalize preC s.data.toList a=C at *;have hl8:qbq.length=8:=rfl;rw[hl8]at S1;cases hw:qbl s.data.toList a qbq with
 | none=>
  have hC:=HC.out;rw[hw]at hC S1;simp only at hC;subst hC;have hT:=HN.out hw;subst hT;go_enter Tryz.func124,Tryz.ntmps124
  (go_wp2_with fail);refine S1.out.mono ?_;rintro r w2 ⟨rfl,h2,t2⟩;rw[show(Option.getD (none:Option (QB)) [])=[] from rfl,show qd []=⟨#[]⟩ from rfl];(go_wp2_with fail);go_ret2
  exact⟨rfl,h2,(Turn.ofBelow b1).trans t2⟩
 | some x=>
  have hx:x∈qbq:=List.mem_of_find?_eq_some hw;have hC:=HC.out;rw[hw]at hC S1;simp only at hC;clear hw HC HN;simp only[qbq,List.mem_cons,List.not_mem_nil,or_false]at hx;rcases hx with rfl|rfl|rfl|rfl|rfl|rfl|rfl|rfl
  all_goals
   subst hC;go_enter Tryz.func124,Tryz.ntmps124
   (go_wp2_with fail);refine S1.out.mono ?_;rintro r w2 ⟨rfl,h2,t2⟩;simp only[Option.getD_some,qd];(go_wp2_with fail);go_ret2
   exact⟨rfl,h2,(Turn.ofBelow b1).trans t2⟩
theorem qbbv {l:QB} {a:Nat} {ws:List QB} {x:QB} (h:qbl l a ws=some x) (hn:[] ∉ ws):x≠[]:=by
 rintro rfl;exact hn (List.mem_of_find?_eq_some h)
theorem qbcb {x:QB} (h:x≠[]):((qd x).toList==[])=false:=eqE (qd x) (by rw[qn];exact List.length_pos_iff.2 h)
theorem qlw {l:QB} {a:Nat} {ws:List QB} (h:qbl l a ws=none):stN l a ws=[]:=by unfold stN;rw[h]
theorem dev_any (B:Nat) (s:QY) (a:Nat) (w:World) (h:RdAt w B s a) (ha:a≤s.size) (hs:s.size≤64) :
  Calls Tryz.prog 126 #[.pointer (some ⟨B,0,none⟩)] w fun r w'=>r=.returned (.tuple #[.bool (qbl s.data.toList a qbk).isSome,.string (qd (stN s.data.toList a qbk))])∧RdAt w' B s (stP s.data.toList a qbk)∧Turn B w w':=by
 have hBl:=h.lt;have b1:=(Below.refl w.heap.size w).alloc (Nat.le_refl _) (.cells #[.string ⟨#[100,101,118]⟩] 9);have S1:=qb (qqr B s a w.heap.size 1 qbk _ (h.below b1) ha hs (qbsr w _) (by decide) (by decide) (by omega))
 generalize stN s.data.toList a qbk=T at *;generalize stP s.data.toList a qbk=P at *;have hl8:qbk.length=1:=rfl;rw[hl8]at S1;cases hw:qbl s.data.toList a qbk with
 | none=>
  rw[hw]at S1;go_enter Tryz.func126,Tryz.ntmps126
  (go_wp2_with fail);refine S1.out.mono ?_;rintro r w2 ⟨rfl,h2,t2⟩;rw[show(Option.getD (none:Option (QB)) [])=[] from rfl,show qd []=⟨#[]⟩ from rfl];(go_wp2_with fail);go_ret2
  exact⟨rfl,h2,(Turn.ofBelow b1).trans t2⟩
 | some x=>
  have hne:=qbcb (qbbv hw (by decide))
  rw[hw]at S1;clear hw;go_enter Tryz.func126,Tryz.ntmps126
  (go_wp2_with fail);refine S1.out.mono ?_;rintro r w2 ⟨rfl,h2,t2⟩;rw[Option.getD_some];(go_wp2_with fail);go_ret2
  refine⟨?_,h2,(Turn.ofBelow b1).trans t2⟩;simp
def qhn (l:QB) (a:Nat):Bool:=pfxB (l.drop a) [45]&&!(digT l a).isEmpty
def posB (l:QB) (a:Nat):Bool:=if qhn l a then true else (qbl l a qdn).isSome
def posN (l:QB) (a:Nat):QB:=if qhn l a then qr (digT l a) else stN l a qdn
def posP (l:QB) (a:Nat):Nat:=if qhn l a then digP l a else stP l a qdn
theorem qbnz {l:QB} {a:Nat} (ha:a≤l.length) (h:digT l a=[]):digP l a=a:=by
 have hm:=qbnm l a ha;have:(digT l a).length=digE l a-qbd l a:=qsv l _ _ hm.2;rw[h]at this;unfold digP;rw[if_neg (by simp at this;omega)]
theorem digT_len (l:QB) (a:Nat):(digT l a).length≤l.length:=by unfold digT seg;simp only[qbsj,List.length_take];omega
theorem qbdc (l:QB) (a:Nat) (h:a≤l.length):a≤posP l a∧posP l a≤l.length:=by
 unfold posP;split
 ·exact qbnj l a h
 ·exact qnw l a qdn h
theorem post_any (B:Nat) (s:QY) (a:Nat) (w:World) (h:RdAt w B s a) (ha:a≤s.size) (hs:s.size≤64) :
  Calls Tryz.prog 125 #[.pointer (some ⟨B,0,none⟩)] w fun r w'=>r=.returned (.tuple #[.bool (posB s.data.toList a),.string (qd (posN s.data.toList a))])∧RdAt w' B s (posP s.data.toList a)∧Turn B w w':=by
 have hBl:=h.lt;have R1:=qb (qvv B s a w h ha);have H:=qb h;have P1:=qb (fun W=>qkf (qd (s.data.toList.drop a)) ⟨#[45]⟩ W (by rw[qn,qbsj,qg];unfold maxLen;omega) (by decide))
 rw[qj]at P1;have hdl:=digT_len s.data.toList a;rw[qg]at hdl;have D1:=qb (fun W (hW:RdAt W B s a)=>qtf B s a W hW ha hs);have T1:=qb (fun W=>qjq (qd (digT s.data.toList a)) W (by rw[qn];unfold maxLen;omega))
 rw[qj]at T1;have S1:=qb (fun (W:World) (hW:RdAt W B s a)=>(show Calls Tryz.prog 144 #[.pointer (some ⟨B,0,none⟩),.slice (some ⟨W.heap.size,0,none⟩) 3 3] (W.alloc (.cells #[.string ⟨#[112,111,115,116]⟩,.string ⟨#[114,101,118]⟩,.string ⟨#[114]⟩] 9)) _ from qqr B s a W.heap.size 3 qdn _ (hW.below ((Below.refl W.heap.size W).alloc (Nat.le_refl _) _)) ha hs (qbsr W _) (by decide) (by decide) (by have:=hW.lt;omega)))
 have HB:Hid (posB s.data.toList a=if qhn s.data.toList a then true else (qbl s.data.toList a qdn).isSome):=rfl;have HN:Hid (posN s.data.toList a=if qhn s.data.toList a then qr (digT s.data.toList a) else stN s.data.toList a qdn):=rfl;have HP:Hid (posP s.data.toList a=if qhn s.data.toList a then digP s.data.toList a else stP s.data.toList a qdn):=rfl;have HD:Hid (qhn s.data.toList a=(pfxB (s.data.toList.drop a) [45]&&!(digT s.data.toList a).isEmpty)):=rfl;have HZ:=qb (fun h=>qbnz (l:=s.data.toList) (a:=a) (by rw[qg];exact ha) h)
 generalize posB s.data.toList a=rB at *;generalize posN s.data.toList a=rN at *;generalize posP s.data.toList a=rP at *;have hpd:(⟨#[45]⟩:QY).data.toList=[45]:=rfl;rw[hpd]at P1;clear hpd;cases hd:pfxB (s.data.toList.drop a) [45]
 ·have hdash:qhn s.data.toList a=false:=by rw[HD.out,hd];rfl
  have hN:=HN.out;have hP:=HP.out;rw[hdash,if_neg (by simp)]at hN hP
  rw[hd]at P1;clear hd;go_enter Tryz.func125,Tryz.ntmps125
  (go_wp2_with fail);refine R1.out.mono ?_;rintro r w1 ⟨rfl,n1,hw1⟩;have H1:=qb (H.out.drewN n1);have t1:=Turn.drewN B w n1;rw[←hw1]at H1 t1;clear hw1;(go_wp2_with fail);refine(P1.out _).mono ?_;rintro r w2 ⟨rfl,hw2⟩;rw[hw2];clear hw2 w2;obtain⟨WS,hWS⟩:∃ WS,WS=w1:=⟨_,rfl⟩;subst hWS;have HS:=H1;have tS:=t1;have S2:=qb (S1.out _ HS.out);have bS:=(Below.refl WS.heap.size WS).alloc (Nat.le_refl _) (.cells #[.string ⟨#[112,111,115,116]⟩,.string ⟨#[114,101,118]⟩,.string ⟨#[114]⟩] 9);cases hw:qbl s.data.toList a qdn with
  | none=>
   have hB:=HB.out;rw[hdash,hw]at hB;rw[hw]at S2;clear hw;(go_wp2_with fail);refine S2.out.mono ?_;rintro r w5 ⟨rfl,h5,t5⟩;rw[show(Option.getD (none:Option (QB)) [])=[] from rfl,show qd []=⟨#[]⟩ from rfl];(go_wp2_with fail);go_ret2
   refine⟨?_,by rw[hP];exact h5,tS.trans ((Turn.ofBelow bS).trans t5)⟩
   rw[hB,hN]
   rfl
  | some x=>
   have hne:=qbcb (qbbv hw (by decide))
   have hB:=HB.out;rw[hdash,hw]at hB;rw[hw]at S2;clear hw;(go_wp2_with fail);refine S2.out.mono ?_;rintro r w5 ⟨rfl,h5,t5⟩;rw[Option.getD_some];(go_wp2_with fail);go_ret2
   refine⟨?_,by rw[hP];exact h5,tS.trans ((Turn.ofBelow bS).trans t5)⟩
   rw[hB,hN];simp
 ·rw [hd]at P1
  by_cases hdt:digT s.data.toList a=[]
  ·have hdash:qhn s.data.toList a=false:=by rw[HD.out,hd,hdt];rfl
   have hN:=HN.out;have hP:=HP.out;rw[hdash,if_neg (by simp)]at hN hP
   have D2:=qb (fun W (hW:RdAt W B s a)=>D1.out W hW);rw[hdt,HZ.out hdt,show qd []=⟨#[]⟩ from rfl]at D2;clear hd hdt;go_enter Tryz.func125,Tryz.ntmps125
   (go_wp2_with fail);refine R1.out.mono ?_;rintro r w1 ⟨rfl,n1,hw1⟩;have H1:=qb (H.out.drewN n1);have t1:=Turn.drewN B w n1;rw[←hw1]at H1 t1;clear hw1;(go_wp2_with fail);refine(P1.out _).mono ?_;rintro r w2 ⟨rfl,hw2⟩;rw[hw2];clear hw2 w2;(go_wp2_with fail);refine(D2.out _ H1.out).mono ?_;rintro r w3 ⟨rfl,h3,t3⟩;obtain⟨WS,hWS⟩:∃ WS,WS=w3:=⟨_,rfl⟩;subst hWS;have HS:=qb h3;have tS:=t1.trans t3;have S2:=qb (S1.out _ HS.out);have bS:=(Below.refl WS.heap.size WS).alloc (Nat.le_refl _) (.cells #[.string ⟨#[112,111,115,116]⟩,.string ⟨#[114,101,118]⟩,.string ⟨#[114]⟩] 9);cases hw:qbl s.data.toList a qdn with
   | none=>
    have hB:=HB.out;rw[hdash,hw]at hB;rw[hw]at S2;clear hw;(go_wp2_with fail);refine S2.out.mono ?_;rintro r w5 ⟨rfl,h5,t5⟩;rw[show(Option.getD (none:Option (QB)) [])=[] from rfl,show qd []=⟨#[]⟩ from rfl];(go_wp2_with fail);go_ret2
    refine⟨?_,by rw[hP];exact h5,tS.trans ((Turn.ofBelow bS).trans t5)⟩
    rw[hB,hN]
    rfl
   | some x=>
    have hne:=qbcb (qbbv hw (by decide))
    have hB:=HB.out;rw[hdash,hw]at hB;rw[hw]at S2;clear hw;(go_wp2_with fail);refine S2.out.mono ?_;rintro r w5 ⟨rfl,h5,t5⟩;rw[Option.getD_some];(go_wp2_with fail);go_ret2
    refine⟨?_,by rw[hP];exact h5,tS.trans ((Turn.ofBelow bS).trans t5)⟩
    rw[hB,hN];simp
  ·have hdash:qhn s.data.toList a=true:=by
    rw[HD.out,hd];cases hx:digT s.data.toList a with
    | nil=>exact absurd hx hdt
    | cons _ _=>rfl
   have hB:=HB.out;have hN:=HN.out;have hP:=HP.out;rw[hdash,if_pos rfl]at hB hN hP;have hne:=qbcb hdt;clear hd hdt;go_enter Tryz.func125,Tryz.ntmps125
   (go_wp2_with fail);refine R1.out.mono ?_;rintro r w1 ⟨rfl,n1,hw1⟩;have H1:=qb (H.out.drewN n1);have t1:=Turn.drewN B w n1;rw[←hw1]at H1 t1;clear hw1;(go_wp2_with fail);refine(P1.out _).mono ?_;rintro r w2 ⟨rfl,hw2⟩;rw[hw2];clear hw2 w2;(go_wp2_with fail);refine(D1.out _ H1.out).mono ?_;rintro r w3 ⟨rfl,h3,t3⟩;(go_wp2_with fail);refine(T1.out _).mono ?_;rintro r w4 ⟨rfl,hw4⟩;rw[hw4];clear hw4 w4;(go_wp2_with fail);go_ret2
   refine⟨?_,by rw[hP];exact h3,t1.trans t3⟩
   rw[hB,hN]
   rfl
set_option maxHeartbeats 2000000
set_option maxRecDepth 100000
attribute [local go_sem] Oper.semAt_some
def qbf (l:QB) (k:Int) (seps:QB) (a:Nat):List (Nat×Nat):=
 if qp k (l.drop a)=0 then [] else
  (a,a+qp k (l.drop a))::if h:∃ c,l[a+qp k (l.drop a)]? = some c∧seps.contains c=true then qbf l k seps (a+qp k (l.drop a)+1) else []
 termination_by l.length-a
 decreasing_by
  obtain⟨c,hc,_⟩:=h;have:=(List.getElem?_eq_some_iff.1 hc).1;omega
theorem qhk (l:QB) (k:Int) (seps:QB) (a:Nat) (h:qp k (l.drop a)=0):qbf l k seps a=[]:=by
 rw[qbf,if_pos h]
theorem qhg (l:QB) (k:Int) (seps:QB) (a e:Nat) (he:a+qp k (l.drop a)=e) (hn:e≠a) (c:UInt8) (hc:l[e]? = some c) (hs:seps.contains c=true):qbf l k seps a=(a,e)::qbf l k seps (e+1):=by
 subst he;rw[qbf,if_neg (by omega),dif_pos ⟨c,hc,hs⟩]
theorem qkh (l:QB) (k:Int) (seps:QB) (a e:Nat) (he:a+qp k (l.drop a)=e) (hn:e≠a) (h:∀ c,l[e]? = some c→seps.contains c=false):qbf l k seps a=[(a,e)]:=by
 subst he;rw[qbf,if_neg (by omega),dif_neg]
 rintro⟨c,hc,hs⟩;rw[h c hc]at hs;cases hs
theorem qjm (l:QB) (k:Int) (seps:QB):∀ (n a:Nat),l.length-a=n→(qbf l k seps a).length≤l.length-a:=by
 intro n
 induction n using Nat.strongRecOn with
 | _ n ih=>
  intro a hn
  by_cases h0:qp k (l.drop a)=0
  ·rw[qhk l k seps a h0];simp
  ·have hle:=qhx k (l.drop a);rw[List.length_drop]at hle
   by_cases h:∃ c,l[a+qp k (l.drop a)]? = some c∧seps.contains c=true
   ·obtain⟨c,hc,hs⟩:=h;have hlt:=(List.getElem?_eq_some_iff.1 hc).1;rw[qhg l k seps a _ rfl (by omega) c hc hs]
    have:=ih (l.length-(a+qp k (l.drop a)+1)) (by omega) (a+qp k (l.drop a)+1) rfl
    simp only[List.length_cons];omega
   ·rw [qkh l k seps a _ rfl (by omega) (fun c hc=>by
     cases hs:seps.contains c
     ·rfl
     ·exact absurd ⟨c,hc,hs⟩ h)]
    simp only[List.length_cons,List.length_nil];omega
def qkm (b c d:Nat) (W W':QW):Prop:=W'.heap[b]? = W.heap[b]?∧W'.heap[c]? = W.heap[c]?∧W'.heap[d]? = W.heap[d]?
theorem qkm.refl (b c d:Nat) (W:QW):qkm b c d W W:=⟨rfl,rfl,rfl⟩
theorem qkm.trans {b c d:Nat} {A B C:QW} (h:qkm b c d A B) (k:qkm b c d B C):qkm b c d A C:=⟨k.1.trans h.1,k.2.1.trans h.2.1,k.2.2.trans h.2.2⟩
theorem three_b {b c d:Nat} {w:QW} (hb:b<w.heap.size) (hc:c<w.heap.size) (hd:d<w.heap.size):∀ (W:QW) (l:Nat) (o o':Obj),w.heap.size≤l→W.heap[l]? = some o→o.isCells=false→o.isWalk=false→qkm b c d W (W.putObj l o'):=
 fun W l o o' hl _ _ _=>⟨World.putObj_heap_other (by omega),World.putObj_heap_other (by omega),World.putObj_heap_other (by omega)⟩
theorem qbfn:∀ (seps:QB) (c:UInt8),(0≤Lib.indexByte seps c)↔seps.contains c=true
 | [],c=>by simp[Lib.indexByte]
 | d :: r,c=>by
  have ih:=qbfn r c;have hge:=Lib.indexByte_ge r c;unfold Lib.indexByte
  by_cases hd:(d==c)=true
  ·rw[if_pos hd];obtain rfl:d=c:=by simpa using hd
   simp
  ·rw [if_neg hd];have hd':(c==d)=false:=by rw[beq_eq_false_iff_ne];rintro rfl;exact hd (by simp)
   rw[List.contains_cons,hd',Bool.false_or,←ih]
   by_cases hi:(Lib.indexByte r c==-1)=true
   ·rw[if_pos hi];have:Lib.indexByte r c=-1:=by simpa using hi
    rw[this]
   ·rw[if_neg hi];have:¬ Lib.indexByte r c=-1:=by simpa using hi
    omega
theorem qbbn (s:QY) (e:Nat) (h:e<s.size):s.data.toList[e]? = some s[e]:=by
 rw[List.getElem?_eq_getElem (by rw[qg];exact h)];rfl
theorem qbmh (s:QY) (e:Nat) (h:¬ e<s.size):s.data.toList[e]? = none:=List.getElem?_eq_none (by rw[qg];omega)
theorem qsd (W:QW) (m:Nat):W.grownBy (W.drewN m) none:=⟨rfl,rfl,rfl,Nat.le_refl _,fun _ _ _=>rfl⟩
theorem qlf {β : Type} {B:Nat} {J:β→QW→Prop} (h:AbidesFrom B J) {s:β} {W:QW} (hs:J s W) (m:Nat):J s (W.drewN m):=h s W (W.drewN m) none hs (qsd W m) (fun r e=>by cases e)
theorem qlt {W:QW} {B:Nat} {t:TypeId} {v:Value} (h:Boxed W B t v) (m:Nat):Boxed (W.drewN m) B t v:=h.kept (qsd W m) (by simp)
theorem runs1_in (n:Nat) (hn:1≤n) (l Ba Bs Bc Bp:Nat) (s p:QY) (a:Nat) (kc:Int) (ha:a≤s.size) (hs:s.size≤64) (J Jx:List (Nat×Nat)→QW→Prop) (B0:Nat) (hJ:AbidesFrom B0 J)
 (hY:∀ pre x W,J pre W→pre.length<(qbf s.data.toList kc p.data.toList a).length→YieldAt Fence.wide (n-1) Tryz.prog l #[.string (s.extract x.1 x.2),.int .i64 (x.2:Int)] W fun e W'=>
 (e=.returned (.bool true)∧J (pre++[x]) W'∧qkm Bs Bc Bp W W')∨(e=.returned (.bool false)∧Jx (pre++[x]) W'))
 (W:QW) (hBa:Boxed W Ba 3 (.int .i64 (a:Int))) (hBs:Boxed W Bs 9 (.string s)) (hBc:Boxed W Bc 3 (.int .i64 kc)) (hBp:Boxed W Bp 9 (.string p)) (h0:J [] W) :
 CallsIn Fence.wide n Tryz.prog 163 #[.func (.yield l) #[] #[],.pointer (some ⟨Ba,0,none⟩),.pointer (some ⟨Bs,0,none⟩),.pointer (some ⟨Bc,0,none⟩),.pointer (some ⟨Bp,0,none⟩)] W fun e W'=>(∃ v,e=.returned v) ∧
 ((∃ ys,ys=qbf s.data.toList kc p.data.toList a∧J ys W')∨(∃ pre,pre <+: qbf s.data.toList kc p.data.toList a∧Jx pre W')):=by
  have cA0:=hBa.cell;refine callsIn_of_wp Tryz.func163 rfl trivial ?_ rfl;simp only[Tryz.ntmps163,List.size_toArray,List.length_cons,List.length_nil,Nat.reduceAdd,Nat.reduceSub,Array.replicate_succ,Array.replicate_zero,List.push_toArray,List.append_toArray,List.nil_append,List.cons_append];gi_wp2
  gi_loopw [6] (fun i wr=>∃ (k:Nat) (pre:List (Nat×Nat)),k≤s.size∧i=.int .i64 k∧J pre wr∧Boxed wr Bs 9 (.string s)∧Boxed wr Bc 3 (.int .i64 kc)∧Boxed wr Bp 9 (.string p) ∧
      Hid (qbf s.data.toList kc p.data.toList a=pre++qbf s.data.toList kc p.data.toList k))
    (fun i _=>s.size-(intOf i).toNat)
  case atStart=>exact⟨a,[],ha,rfl,h0,hBs,hBc,hBp,rfl⟩
  case round=>
    obtain⟨k,pre,hk,rfl,hJs,bS,bC,bP,HR⟩:=hrel;have cS:=bS.cell;have cC:=bC.cell;have cP:=bP.cell;have hle:=qdr kc s k hk;have C:=qjc s (k:Int) kc wr (by unfold maxLen;omega)
    rw[qdl s k kc hk]at C;have HN:=qb (qhk s.data.toList kc p.data.toList k);have HM:=qb (qhg s.data.toList kc p.data.toList k);have HL:=qb (qkh s.data.toList kc p.data.toList k);have hke:k≤k+qp kc (s.data.toList.drop k):=by omega
    have hcast:(k:Int)+(qp kc (s.data.toList.drop k):Int)=((k+qp kc (s.data.toList.drop k):Nat):Int):=by omega
    rw[hcast]at C;clear hcast;have HE:Hid (∀ e,k+qp kc (s.data.toList.drop k)=e→(e=k↔qp kc (s.data.toList.drop k)=0)):=by intro e he;omega
    generalize he:k+qp kc (s.data.toList.drop k)=e at *;have HC:=qb C;have HE2:=qb (HE.out e rfl);have HHe:=qb he;clear C HE he
    by_cases hek:e=k
    · have HX:=qb (HN.out (HE2.out.1 hek))
      have hb:((e:Int)==(k:Int))=true:=by simp[hek]
      clear hek;gi_wp2_with (refine⟨trivial,?_⟩;gi_at_call 60;refine(callsIn_wide.2 HC.out).mono ?_;rintro e w' ⟨rfl,hw'⟩;rw[hw'];clear hw' w')
      refine⟨fun _ h=>(by cases h),?_⟩
      gi_wp2
      refine bodyPost_ret (results_none rfl _ _ _) rfl ?_;exact⟨⟨_,rfl⟩,.inl ⟨pre,by rw[HR.out,HX.out];simp,hJs⟩⟩
    · have hb:((e:Int)==(k:Int))=false:=by rw[beq_eq_false_iff_ne];omega
      by_cases hlt:e<s.size
      · have hne:((e:Int)==(s.size:Int))=false:=by rw[beq_eq_false_iff_ne];omega
        have hc:((s[e].toNat:Int)).toNat.toUInt8=s[e]:=by simp
        have hI:=fun W=>qmc p (s[e].toNat:Int) W;rw[hc]at hI;have hin:=qbfn p.data.toList s[e];have HI:=qb hI;clear hI hc;generalize Lib.indexByte p.data.toList s[e]=ix at *;cases hcon:p.data.toList.contains s[e]
        · rw [hcon]at hin
          have hix:¬ 0≤ix:=fun h=>by have:=hin.1 h;cases this
          have hix':ix<0:=by omega
          have HX:=qb (HL.out e rfl hek (fun c hc=>by rw[qbbn s e hlt]at hc;cases hc;exact hcon))
          clear hin hcon hix;obtain⟨fn,tmps,assign,body,hy,hR⟩:=hY pre (k,e) wr hJs (by rw[HR.out,HX.out];simp)
          dsimp only at hy;gi_wp2_with (refine⟨trivial,?_⟩;gi_at_call 60;refine(callsIn_wide.2 HC.out).mono ?_;rintro e w' ⟨rfl,hw'⟩;rw[hw'];clear hw' w')
          refine hR.mono ?_;rintro e' W3 (⟨rfl,hJ3,hk3⟩|⟨rfl,hJx3⟩)
          · have bS3:Boxed W3 Bs 9 (.string s):=hk3.1.trans bS
            have bC3:Boxed W3 Bc 3 (.int .i64 kc):=hk3.2.1.trans bC;have bP3:Boxed W3 Bp 9 (.string p):=hk3.2.2.trans bP;clear cS cC cP;have cS:=bS3.cell;have cC:=bC3.cell;have cP:=bP3.cell;gi_wp2
            refine wpIn_wide.2 ?_;go_quiet ((go_at_call 164;exact Calls.quiet_of_same (HI.out _)))
            gi_wp2
            refine bodyPost_ret (results_none rfl _ _ _) rfl ?_;exact⟨⟨_,rfl⟩,.inl ⟨pre++[(k,e)],by rw[HR.out,HX.out],qlf hJ hJ3 _⟩⟩
          · gi_wp2
            refine bodyPost_ret (results_none rfl _ _ _) rfl ?_;exact⟨⟨_,rfl⟩,.inr ⟨pre++[(k,e)],by rw[HR.out,HX.out];exact List.prefix_refl _,hJx3⟩⟩
        · rw [hcon]at hin
          have hix:0≤ix:=hin.2 rfl;have hix':¬ ix<0:=by omega
          have HX:=qb (HM.out e rfl hek s[e] (qbbn s e hlt) hcon);clear hin hcon hix;obtain⟨fn,tmps,assign,body,hy,hR⟩:=hY pre (k,e) wr hJs (by rw[HR.out,HX.out];simp)
          dsimp only at hy;gi_wp2_with (refine⟨trivial,?_⟩;gi_at_call 60;refine(callsIn_wide.2 HC.out).mono ?_;rintro e w' ⟨rfl,hw'⟩;rw[hw'];clear hw' w')
          refine hR.mono ?_;rintro e' W3 (⟨rfl,hJ3,hk3⟩|⟨rfl,hJx3⟩)
          · have bS3:Boxed W3 Bs 9 (.string s):=hk3.1.trans bS
            have bC3:Boxed W3 Bc 3 (.int .i64 kc):=hk3.2.1.trans bC;have bP3:Boxed W3 Bp 9 (.string p):=hk3.2.2.trans bP;clear cS cC cP;have cS:=bS3.cell;have cC:=bC3.cell;have cP:=bP3.cell;gi_wp2
            refine wpIn_wide.2 ?_;go_quiet ((go_at_call 164;exact Calls.quiet_of_same (HI.out _)))
            gi_wp2
            go_roundw
            case rel=>exact⟨e+1,pre++[(k,e)],by omega,by go_num,qlf hJ hJ3 _,qlt bS3 _,qlt bC3 _,qlt bP3 _,by rw[HR.out,HX.out];simp[Hid]⟩
            case measure=>simp[intOf];omega
          · gi_wp2
            refine bodyPost_ret (results_none rfl _ _ _) rfl ?_;exact⟨⟨_,rfl⟩,.inr ⟨pre++[(k,e)],by rw[HR.out,HX.out];exact⟨_,by simp;rfl⟩,hJx3⟩⟩
      · have hne:((e:Int)==(s.size:Int))=true:=by simp;omega
        have HX:=qb (HL.out e rfl hek (fun c hc=>by rw[qbmh s e hlt]at hc;cases hc))
        obtain⟨fn,tmps,assign,body,hy,hR⟩:=hY pre (k,e) wr hJs (by rw[HR.out,HX.out];simp)
        dsimp only at hy;gi_wp2_with (refine⟨trivial,?_⟩;gi_at_call 60;refine(callsIn_wide.2 HC.out).mono ?_;rintro e w' ⟨rfl,hw'⟩;rw[hw'];clear hw' w')
        refine hR.mono ?_;rintro e' W3 (⟨rfl,hJ3,hk3⟩|⟨rfl,hJx3⟩)
        · have bS3:Boxed W3 Bs 9 (.string s):=hk3.1.trans bS
          have bC3:Boxed W3 Bc 3 (.int .i64 kc):=hk3.2.1.trans bC;have bP3:Boxed W3 Bp 9 (.string p):=hk3.2.2.trans bP;clear cS cC cP;have cS:=bS3.cell;have cC:=bC3.cell;have cP:=bP3.cell;gi_wp2
          refine wpIn_wide.2 ?_;go_quiet (fail)
          gi_wp2
          refine bodyPost_ret (results_none rfl _ _ _) rfl ?_;exact⟨⟨_,rfl⟩,.inl ⟨pre++[(k,e)],by rw[HR.out,HX.out],qlf hJ hJ3 _⟩⟩
        · gi_wp2
          refine bodyPost_ret (results_none rfl _ _ _) rfl ?_;exact⟨⟨_,rfl⟩,.inr ⟨pre++[(k,e)],by rw[HR.out,HX.out];exact List.prefix_refl _,hJx3⟩⟩
theorem qbjd (n:Nat) (hn:1≤n) (Ba Bs Bc Bp:Nat) (s p:QY) (a:Nat) (kc:Int) (ha:a≤s.size) (hs:s.size≤64) (w:QW) (hBa:Boxed w Ba 3 (.int .i64 (a:Int))) (hBs:Boxed w Bs 9 (.string s)) (hBc:Boxed w Bc 3 (.int .i64 kc)) (hBp:Boxed w Bp 9 (.string p)) :
  SeqStopsK Fence.wide n Tryz.prog 163 #[.pointer (some ⟨Ba,0,none⟩),.pointer (some ⟨Bs,0,none⟩),.pointer (some ⟨Bc,0,none⟩),.pointer (some ⟨Bp,0,none⟩)] (fun x:Nat×Nat=>#[Value.string (s.extract x.1 x.2),.int .i64 (x.2:Int)]) (qkm Bs Bc Bp) (fun ys=>ys=qbf s.data.toList kc p.data.toList a) (fun pre=>pre <+: qbf s.data.toList kc p.data.toList a) (qbf s.data.toList kc p.data.toList a).length w:=fun l J Jx W hW hJ _ hY h0=>
 runs1_in n hn l Ba Bs Bc Bp s p a kc ha hs J Jx W.heap.size hJ hY W ((hW.block Ba hBa.lt).trans hBa) ((hW.block Bs hBs.lt).trans hBs) ((hW.block Bc hBc.lt).trans hBc) ((hW.block Bp hBp.lt).trans hBp) h0
theorem runs_any (s p:QY) (a k:Int) (w:QW) :
  Calls Tryz.prog 142 #[.string s,.int .i64 a,.int .i64 k,.string p] w fun e w'=>e=.returned (.func (.func 163) #[] #[.pointer (some ⟨w.heap.size+1,0,none⟩),.pointer (some ⟨w.heap.size,0,none⟩),.pointer (some ⟨w.heap.size+1+1,0,none⟩),.pointer (some ⟨w.heap.size+1+1+1,0,none⟩)])∧w'=(((w.alloc (.cells #[.string s] 9)).alloc (.cells #[.int .i64 a] 3)).alloc (.cells #[.int .i64 k] 3)).alloc (.cells #[.string p] 9):=by
 go_enter Tryz.func142,Tryz.ntmps142
 go_wp2
 go_ret
 exact⟨rfl,rfl⟩
end Go.Proofs.YtabmfdedbpmfmaaGreat
