/- Walks: the pre-release, the post-release, the development re -/
import Derived.Test.YtabmfdedbpmfmaaGreatVPd
namespace Go.Proofs.YtabmfdedbpmfmaaGreat
open Go.RowKit Go.Shelf
open _root_.Array renaming getElem?_eq_some_iff → qbth
open Below renaming heap_alloc → qbvb, heap_setCell → qbtz
open List renaming mem_cons_of_mem → qbtr
open World renaming alloc_heap_new → qbtk
open Go renaming World → QW
set_option linter.unusedVariables false
set_option maxHeartbeats 4000000
set_option maxRecDepth 100000
attribute [local go_sem] Oper.semAt_some
theorem qtr {β : Type} {B B0:Nat} {w:QW} (hB:w.heap.size≤B0):OwnFrom B0 (fun (_:β) W=>Turn B w W):=by
 rintro s X Y row h hg hrow;exact qnw h hg (fun k e=>Nat.le_trans hB (hrow k e).1)
def qbnv (Ds:List Nat):List Deferred:=Ds.map fun D=>{ target:=.collected D,args:=#[] }
def Past (n₀:Nat) (W W':QW):Prop:=Below n₀ W W'∧∀ (b:Nat) (o:Obj),W.heap[b]? = some o→o.isCells=true→W'.heap[b]? = some o
theorem Past.refl (n₀:Nat) (W:QW):Past n₀ W W:=⟨Below.refl _ _,fun _ _ h _=>h⟩
theorem Past.trans {n₀:Nat} {A B C:QW} (h:Past n₀ A B) (k:Past n₀ B C):Past n₀ A C:=⟨h.1.trans k.1,fun b o h1 h2=>k.2 b o (h.2 b o h1 h2) h2⟩
theorem Past.own {n₀ base:Nat} {e:TypeId} {size:Nat} {v:Value} {k:Nat} {xs:List Value} {W W':QW} (h:Past n₀ W W') (hr:W.ownsRow base e size v k xs):W'.ownsRow base e size v k xs:=by
 refine⟨hr.1,?_⟩;rcases hr.2 with h2|⟨g,cap,cur,hv,hg,hh,r⟩
 ·exact .inl h2
 ·exact .inr ⟨g,cap,cur,hv,hg,h.2 g _ hh rfl,r⟩
theorem qjj {fn:Func} {tmps:Array Value} {R:Ending→QW→Prop} (n₀:Nat):∀ (Ds:List Nat) (W:QW),Ds.Nodup→(∀ D∈Ds,n₀≤D∧W.heap[D]? = some (.deferred (some []))) →
  (∀ W',Past n₀ W W'→LeavesIn Fence.wide 5 Tryz.prog fn tmps R [] .returning W')→LeavesInM Fence.wide 5 Tryz.prog fn tmps R (qbnv Ds) .returning W
 | [],W,_,_,h=>h W (Past.refl _ _)
 | D::Ds,W,hnd,hD,h=>by
  have hd:=hD D List.mem_cons_self;have hne:∀ E∈Ds,E≠D:=fun E hE e=>by subst e;exact(List.nodup_cons.1 hnd).1 hE
  refine⟨by simp,.inl ⟨_,_,rfl,run_takeDeferred hd.2,?_⟩⟩
  refine qjj n₀ Ds _ (List.nodup_cons.1 hnd).2 (fun E hE=>⟨(hD E (qbtr _ hE)).1,(World.putObj_heap_other (hne E hE)).trans (hD E (qbtr _ hE)).2⟩) ?_;intro W' hW';refine h W' (Past.trans ⟨?_,?_⟩ hW')
  ·exact belowK_b (w:={ W with heap:=W.heap.take n₀ }) (n₀:=n₀) (by have:=(qbth.1 hd.2).1;simp;omega) W D _ _ (by simp;omega) hd.2 rfl rfl
  ·intro b o hb ho
   by_cases e:b=D
   ·subst e;rw[hd.2]at hb;cases hb;cases ho
   ·exact(World.putObj_heap_other e).trans hb
theorem Turn.past {B n₀:Nat} {w W W':QW} (h:Turn B w W) (hp:Past n₀ W W') (hn:w.heap.size≤n₀):Turn B w W':=
 ⟨hp.1.os.trans h.os,hp.1.tape.trans h.tape,hp.1.output.trans h.output,Nat.le_trans h.size hp.1.size,fun k hk hne=>(hp.1.block k (by omega)).trans (h.block k hk hne)⟩
theorem fin62 {R:Ending→QW→Prop} (tmps:Array Value) (Ds:List Nat) (W:QW) (n₀ B1 B2:Nat) (x t:QY)
  (h1:tmps.getD 4 undef=.pointer (some ⟨B1,0,none⟩)) (h2:tmps.getD 5 undef=.pointer (some ⟨B2,0,none⟩)) (e1:W.heap[B1]? = some (.cells #[.string x] 9 (0,0))) (e2:W.heap[B2]? = some (.cells #[.string t] 9 (0,0)))
  (hnd:Ds.Nodup) (hD:∀ D∈Ds,n₀≤D∧W.heap[D]? = some (.deferred (some [])))
  (hR:∀ W',Past n₀ W W'→R (.returned (.tuple #[.string x,.string t])) W') :
  bodyPostM Fence.wide 5 Tryz.prog Tryz.f144 R .ret { tmps:=tmps,defers:=qbnv Ds } W:=by
 show LeavesInM _ _ _ _ _ _ _ _ _;refine qjj n₀ Ds W hnd hD ?_;intro W' hW';have r0:=qdj (hW'.2 _ _ e1 rfl);have r1:=qdj (hW'.2 _ _ e2 rfl);rw[Array.getD_eq_getD_getElem?]at h1 h2;refine⟨_,?_,hR W' hW'⟩;simp[results,Tryz.results144,go_sem,h1,h2,r0,r1]
 try rfl
def qbl (l:QB) (a:Nat) (ws:List QB):Option (QB):=ws.find? fun x=>pfxB (l.drop (qbd l a)) x
def qvr (s:QY) (a:Nat) (ws:List QB) (B:Nat) (w:QW) (r:Ending) (w':QW):Prop:=
 match qbl s.data.toList a ws with
 | none=>r=.returned (.tuple #[.string ⟨#[]⟩,.string ⟨#[]⟩])∧RdAt w' B s a∧Turn B w w'
 | some x=>r=.returned (.tuple #[.string (qd x),.string (qd (qp (digT s.data.toList (qbd s.data.toList a+x.length))))])∧RdAt w' B s (digP s.data.toList (qbd s.data.toList a+x.length))∧Turn B w w'
theorem stage_in (B:Nat) (s:QY) (a A c:Nat) (ws:List QB) (w:QW) (h:RdAt w B s a) (ha:a≤s.size) (hs:s.size≤64) (hA:qgv w A ws) (hws:ws.length≤64) (hwl:∀ x∈ws,x.length≤64) (hAB:A≠B) :
 CallsIn Fence.wide 5 Tryz.prog 144 #[.pointer (some ⟨B,0,none⟩),.slice (some ⟨A,0,none⟩) ws.length c] w (qvr s a ws B w):=by
  refine callsIn_of_wp_marks Tryz.func144 rfl trivial (wpIn_wide.2 ?_) rfl;simp only[Tryz.ntmps144,List.size_toArray,List.length_cons,List.length_nil,Nat.reduceAdd,Nat.reduceSub,Array.replicate_succ,Array.replicate_zero,List.push_toArray,List.append_toArray,List.nil_append,List.cons_append];have hBl:=h.lt;have hAl:=(qbth.1 hA).1;have hm:=qgh s.data.toList a (by rw[qg];exact ha)
  rw[qg]at hm;have b3:Below w.heap.size w (((w.alloc (.cells #[.pointer (some ⟨B,0,none⟩)] 148)).alloc (.cells #[.string ⟨#[]⟩] 9)).alloc (.cells #[.string ⟨#[]⟩] 9)):=(((Below.refl _ w).alloc (Nat.le_refl _) _).alloc (by simp) _).alloc (by simp;omega) _
  have MK:=qb (qmq B s a _ (h.below b3) hs);have hMI:(0:Int)≤(qbd s.data.toList a:Int):=Int.natCast_nonneg _;have hMJ:(qbd s.data.toList a:Int)≤(s.size:Int):=by omega
  have HR0:Hid (s.extract (qbd s.data.toList a) s.size=qd (s.data.toList.drop (qbd s.data.toList a))):=qfv s _;have HW:Hid (qbl s.data.toList a ws=ws.find? fun x=>pfxB (s.data.toList.drop (qbd s.data.toList a)) x):=rfl
  have HPost:Hid (qvr s a ws B w=fun r w'=>match qbl s.data.toList a ws with
    | none=>r=.returned (.tuple #[.string ⟨#[]⟩,.string ⟨#[]⟩])∧RdAt w' B s a∧Turn B w w'
    | some x=>r=.returned (.tuple #[.string (qd x),.string (qd (qp (digT s.data.toList (qbd s.data.toList a+x.length))))])∧RdAt w' B s (digP s.data.toList (qbd s.data.toList a+x.length))∧Turn B w w'):=rfl
  generalize qvr s a ws B w=PP at *;generalize qbd s.data.toList a=M at *;(go_wp2_with fail);refine MK.out.mono ?_;rintro r w1 ⟨rfl,n1,hw1⟩;have hz1:w1.heap.size=w.heap.size+1+1+1:=by rw[hw1,qbx];simp
  have B1:Below w.heap.size w w1:=by rw[hw1];exact b3.trans (qz _ _ _)
  have e0:w1.heap[w.heap.size]? = some (.cells #[.pointer (some ⟨B,0,none⟩)] 148 (0,0)):=by
    rw[hw1,qbx];exact(qbvb _ _ _ (by simp;omega)).trans ((qbvb _ _ _ (by simp)).trans (qbtk w _))
  have e1:w1.heap[w.heap.size+1]? = some (.cells #[.string ⟨#[]⟩] 9 (0,0)):=by
    rw[hw1,qbx];have k:=qbtk (w.alloc (.cells #[.pointer (some ⟨B,0,none⟩)] 148)) (.cells #[.string ⟨#[]⟩] 9);simp only[World.size_alloc]at k;exact(qbvb _ _ _ (by simp)).trans k
  have e2:w1.heap[w.heap.size+1+1]? = some (.cells #[.string ⟨#[]⟩] 9 (0,0)):=by
    rw[hw1,qbx];have k:=qbtk ((w.alloc (.cells #[.pointer (some ⟨B,0,none⟩)] 148)).alloc (.cells #[.string ⟨#[]⟩] 9)) (.cells #[.string ⟨#[]⟩] 9);simp only[World.size_alloc]at k;exact k
  have eB:=(B1.block B hBl).trans h;have eA:=(B1.block A hAl).trans hA;clear hw1 MK b3;have W2B:=(B1.alloc B1.size (.cells #[.int .i64 (M:Int)] 3));have L2:=qb ((Lies.cons eB (Lies.cons e0 (Lies.cons e1 (Lies.cons e2 (Lies.cons eA (Lies.nil _)))))).alloc (.cells #[.int .i64 (M:Int)] 3));have e3:=qbtk w1 (.cells #[.int .i64 (M:Int)] 3);have hz2:(w1.alloc (.cells #[.int .i64 (M:Int)] 3)).heap.size=w.heap.size+1+1+1+1:=by simp[hz1]
  rw[hz1]at e3;clear e0 e1 e2 eB eA;go_wp2_with fail
  try rw[hz1]
  generalize w1.alloc (.cells #[.int .i64 (M:Int)] 3)=W2 at *;clear B1 hz1;have c0:=qc 0 L2.out.head rfl;have c1:=qc 0 L2.out.tail.head rfl;have c2:=qc 0 e3 rfl
  go_region_held3 (fun w'=>w'.cell? ⟨w.heap.size,0,none⟩=some (.pointer (some ⟨B,0,none⟩))∧w'.cell? ⟨B,0,none⟩=some (.string s)∧w'.cell? ⟨w.heap.size+1+1+1,0,none⟩=some (.int .i64 (M:Int)))
    (first|go_keep|exact⟨s1,s2,s3⟩|(go_split_ands;exact⟨s1,s2,s3⟩))
    ((first
      | (go_at_call 166;refine(qbqt _ _ _ _ _ _ rfl).mono ?_;rintro e w3 ⟨rfl,hw3⟩;have bb:=(((Below.refl W2.heap.size W2).drew.alloc (Nat.le_refl _) (.cells #[.string (s.extract M s.size)] 9)).alloc (by simp) (.cells #[.slice (some ⟨A,0,none⟩) ws.length c] 37));rw[←hw3]at bb;have L3:=L2.out.below bb (fun p hp=>L2.out.lt p hp);have e33:=(bb.block _ (qbth.1 e3).1).trans e3;have s1:=qc 0 L3.tail.head rfl;have s2:=qc 0 L3.head rfl;have s3:=qc 0 e33 rfl)
      | fail))
  (go_wp2_with fail);have e4:=qbtk W2 (.cells #[.string (s.extract M s.size)] 9);have e5:=qbtk (W2.alloc (.cells #[.string (s.extract M s.size)] 9)) (.cells #[.slice (some ⟨A,0,none⟩) ws.length c] 37);have e4':=(qbvb (W2.alloc (.cells #[.string (s.extract M s.size)] 9)) (.cells #[.slice (some ⟨A,0,none⟩) ws.length c] 37) W2.heap.size (by simp)).trans e4
  simp only[World.size_alloc,hz2]at e4' e5;have L3:=qb ((L2.out.alloc (.cells #[.string (s.extract M s.size)] 9)).alloc (.cells #[.slice (some ⟨A,0,none⟩) ws.length c] 37));have e3':=(((Lies.cons e3 (Lies.nil W2)).alloc (.cells #[.string (s.extract M s.size)] 9)).alloc (.cells #[.slice (some ⟨A,0,none⟩) ws.length c] 37)).head;have B3:=((W2B.alloc W2B.size (.cells #[.string (s.extract M s.size)] 9)).alloc (by have:=W2B.size;simp;omega) (.cells #[.slice (some ⟨A,0,none⟩) ws.length c] 37)).drew
  obtain⟨W3,hW3⟩:∃ W3,W3=((W2.alloc (.cells #[.string (s.extract M s.size)] 9)).alloc (.cells #[.slice (some ⟨A,0,none⟩) ws.length c] 37)).drew:=⟨_,rfl⟩;have hz3:W3.heap.size=w.heap.size+1+1+1+1+1+1:=by rw[hW3];show((W2.alloc _).alloc _).heap.size=_;simp[hz2]
  have L4:Hid (Lies W3 [(B,.cells #[.string s,.int .i64 (a:Int)] 122 (0,0)),(w.heap.size,.cells #[.pointer (some ⟨B,0,none⟩)] 148),(w.heap.size+1,.cells #[.string ⟨#[]⟩] 9),(w.heap.size+1+1,.cells #[.string ⟨#[]⟩] 9),(A,.cells (ws.map fun x=>Value.string (qd x)).toArray 9),(w.heap.size+1+1+1,.cells #[.int .i64 (M:Int)] 3),(w.heap.size+1+1+1+1,.cells #[.string (s.extract M s.size)] 9),(w.heap.size+1+1+1+1+1,.cells #[.slice (some ⟨A,0,none⟩) ws.length c] 37)]):=by
    rw[hW3];exact Lies.cons L3.out.head (Lies.cons L3.out.tail.head (Lies.cons L3.out.tail.tail.head (Lies.cons L3.out.tail.tail.tail.head (Lies.cons L3.out.tail.tail.tail.tail.head (Lies.cons e3' (Lies.cons e4' (Lies.cons e5 (Lies.nil _))))))))
  rw[←hW3]at B3 ⊢;clear hW3 L3 L2 e3 e4 e5 e4' e3' W2B hz2 s1 s2 s3 c0 c1 c2 e33 bb hw3;have hps:∀ q∈[(B,Obj.cells #[.string s,.int .i64 (a:Int)] 122 (0,0)),(w.heap.size,.cells #[.pointer (some ⟨B,0,none⟩)] 148),(w.heap.size+1,.cells #[.string ⟨#[]⟩] 9),(w.heap.size+1+1,.cells #[.string ⟨#[]⟩] 9),(A,.cells (ws.map fun x=>Value.string (qd x)).toArray 9),(w.heap.size+1+1+1,.cells #[.int .i64 (M:Int)] 3),(w.heap.size+1+1+1+1,.cells #[.string (s.extract M s.size)] 9),(w.heap.size+1+1+1+1+1,.cells #[.slice (some ⟨A,0,none⟩) ws.length c] 37)],q.1<W3.heap.size:=fun q hq=>L4.out.lt q hq
  have hps2:∀ (p:Nat) (x t:QY),∀ q∈[(B,Obj.cells #[.string s,.int .i64 (p:Int)] 122 (0,0)),(w.heap.size+1,.cells #[.string x] 9),(w.heap.size+1+1,.cells #[.string t] 9)],q.1<W3.heap.size:=by
    intro p x t q hq;simp only[List.mem_cons,List.not_mem_nil,or_false]at hq;rcases hq with rfl|rfl|rfl<;>simp only<;>omega
  have hrs:(s.extract M s.size).size≤64:=by rw[qfr,qr];simp[seg];omega
  have HRR:Hid ((s.extract M s.size).data.toList=s.data.toList.drop M):=by show _=_;rw[HR0.out,qj]
  clear HR0;generalize s.extract M s.size=rr at *;refine(wpIn_wide (n:=5)).1 ?_
  refine wpIn_rangeFunc_ownG rfl (by omega) (gf:=180) (lb:=#[.pointer (some ⟨w.heap.size+1+1+1+1+1,0,none⟩),.pointer (some ⟨w.heap.size+1+1+1+1,0,none⟩)]) rfl trivial (enters_of Tryz.func180 (by kernel_rfl) rfl)
    (qbhq 4 (by omega) (w.heap.size+1+1+1+1+1) (w.heap.size+1+1+1+1) A c rr hrs ws hws hwl W3 L4.out.tail.tail.tail.tail.tail.tail.tail.head L4.out.tail.tail.tail.tail.tail.tail.head L4.out.tail.tail.tail.tail.head) Two.trans (two_b (by omega) (by omega)) (Below.refl _ _) (fun _=>rfl)
    (fun pre W=>Lies W [(B,.cells #[.string s,.int .i64 (a:Int)] 122 (0,0)),(w.heap.size,.cells #[.pointer (some ⟨B,0,none⟩)] 148),(w.heap.size+1,.cells #[.string ⟨#[]⟩] 9),(w.heap.size+1+1,.cells #[.string ⟨#[]⟩] 9),(A,.cells (ws.map fun x=>Value.string (qd x)).toArray 9),(w.heap.size+1+1+1,.cells #[.int .i64 (M:Int)] 3),(w.heap.size+1+1+1+1,.cells #[.string rr] 9),(w.heap.size+1+1+1+1+1,.cells #[.slice (some ⟨A,0,none⟩) ws.length c] 37)]∧(∀ x∈pre,pfxB rr.data.toList x=false)∧Turn B w W)
    (fun cc ys W=>cc=.ret∧∃ pre x,ys=pre++[x]∧(∀ y∈pre,pfxB rr.data.toList y=false)∧pfxB rr.data.toList x=true∧Lies W [(B,.cells #[.string s,.int .i64 (digP s.data.toList (M+x.length):Int)] 122 (0,0)),(w.heap.size+1,.cells #[.string (qd x)] 9),(w.heap.size+1+1,.cells #[.string (qd (qp (digT s.data.toList (M+x.length))))] 9)]∧Turn B w W)
    (fun pre X Y row h hg hr=>⟨qvx (β:=Unit) W3.heap.size _ hps () X Y row h.1 hg hr,h.2.1,qtr (β:=Unit) (B0:=W3.heap.size) (by omega) () X Y row h.2.2 hg hr⟩)
    (fun cc ys X Y row h hg hr=>by
      obtain⟨hc,pre,x,e1,e2,e3,h4,h5⟩:=h;exact⟨hc,pre,x,e1,e2,e3,qvx (β:=Unit) W3.heap.size _ (hps2 _ _ _) () X Y row h4 hg hr,qtr (β:=Unit) (B0:=W3.heap.size) (by omega) () X Y row h5 hg hr⟩)
    ⟨L4.out,by simp,Turn.ofBelow B3⟩ ?a1 ?assign ?body ?done ?stop
  case assign=>
    intro l x W K hK;gi_wp2
    exact hK
  case body=>
    rintro lx pre x Wi ⟨hL,hbad,hT⟩ hlen;have cP:=qdj hL.tail.head;have cM:=qdj hL.tail.tail.tail.tail.tail.head;cases hx:pfxB rr.data.toList x
    · gi_wp2
      exact ⟨KeepsFrom.refl _ _,Two.refl _ _ _,hL,fun y hy=>by
        rcases List.mem_append.1 hy with hy|hy
        · exact hbad y hy
        · rw[List.mem_singleton.1 hy];exact hx,hT⟩
    · have hxl:M+x.length≤s.size:=by
        have:=(List.isPrefixOf_iff_prefix.1 hx).length_le;rw[HRR.out,List.length_drop,qg]at this;omega
      have hRd:RdAt Wi B s a:=hL.head;obtain⟨c0,c1,f1⟩:=hRd.seen;have sx:=qr x;have z1:=qf 0 hL.tail.tail.head;have z2:=qf 0 hL.tail.tail.tail.head;have HRd2:=qb (hRd.place (M+x.length));have cP2:(Wi.setCell ⟨B,1,none⟩ (.int .i64 ((M+x.length:Nat):Int))).cell? ⟨w.heap.size,0,none⟩=some (.pointer (some ⟨B,0,none⟩)):=qdj ((qbtz _ _ _ _ (by simp only;omega)).trans hL.tail.head)
      have DG:=qb (qtp B s (M+x.length) _ HRd2.out hxl hs);gi_wp2_with fail
      refine⟨trivial,(CallsIn.inRound lx (callsIn_wide.2 DG.out)).mono ?_⟩;rintro r w5 ⟨rfl,hr5,t5⟩;have tB:Turn B Wi w5:=(Turn.set B 1 Wi _).trans t5;have q1:=(tB.block (w.heap.size+1) (by have:=hT.size;have:=hL.lt _ (qbtr _ (qbtr _ List.mem_cons_self));simpa using this) (by omega)).trans hL.tail.tail.head
      have q2:=(tB.block (w.heap.size+1+1) (by have:=hL.lt _ (qbtr _ (qbtr _ (qbtr _ List.mem_cons_self)));simpa using this) (by omega)).trans hL.tail.tail.tail.head
      have g1:=qdj q1;have g2:=qdj q2;have y1:=qf 0 q1;have y2:=qf 0 q2;have TR:=qb (fun W=>qjt (qd (digT s.data.toList (M+x.length))) W (by rw[qr,digT,seg];simp only[List.length_drop,List.length_take,qg];unfold maxLen;omega))
      rw[qj]at TR;gi_wp2_with fail
      refine⟨trivial,(CallsIn.inRound lx (callsIn_wide.2 (TR.out _))).mono ?_⟩;rintro r w6 ⟨rfl,hw6⟩;rw[hw6];clear hw6 w6;gi_wp2_with fail
      have hkk:KeepsFrom W3.heap.size Wi w5:=KeepsFrom.of_grownBy tB.grown (fun j e=>by injection e with e;omega)
      refine⟨(hkk.trans ((KeepsOthers.setCell _ _ _).from _)).trans ((KeepsOthers.setCell _ _ _).from _),rfl,pre,x,rfl,hbad,hx,?_,?_⟩
      · refine Lies.cons ?_ (Lies.cons ?_ (Lies.cons ?_ (Lies.nil _)))
        · exact(qbtz _ _ _ _ (by simp only;omega)).trans ((qbtz _ _ _ _ (by simp only;omega)).trans hr5)
        · exact(qbtz _ _ _ _ (by simp only;omega)).trans (qw 0 (.string (qd x)) q1)
        · exact qw 0 _ ((qbtz _ _ _ _ (by simp only;omega)).trans q2)
      · have hb:=(hT.trans tB)
        have b1:Below w.heap.size w5 ((w5.setCell ⟨w.heap.size+1,0,none⟩ (.string (qd x))).setCell ⟨w.heap.size+1+1,0,none⟩ (.string (qd (qp (digT s.data.toList (M+x.length)))))):=((Below.refl _ _).setCell (p:=⟨w.heap.size+1,0,none⟩) (by simp only;omega) _).setCell (p:=⟨w.heap.size+1+1,0,none⟩) (by simp only;omega) _
        exact⟨b1.os.trans hb.os,b1.tape.trans hb.tape,b1.output.trans hb.output,Nat.le_trans hb.size b1.size,fun k hk hn=>(b1.block k hk).trans (hb.block k hk hn)⟩
  case done=>
    rintro D ys W hD rfl ⟨hL,hbad,hT⟩ hK
    have hN:qbl s.data.toList a ys=none:=by
      rw[HW.out,List.find?_eq_none];intro x hx;have:=hbad x hx;rw[HRR.out]at this;simp[this]
    have HN:=qb hN;clear hN;have q1:=hL.tail.tail.head;have q2:=hL.tail.tail.tail.head;have g1:=qdj q1;have g2:=qdj q2;have y1:=qf 0 q1;have y2:=qf 0 q2;gi_wp2
    (go_wp2_with fail);refine fin62 _ [D] _ w.heap.size (w.heap.size+1) (w.heap.size+1+1) ⟨#[]⟩ ⟨#[]⟩ rfl rfl ((qbtz _ _ _ _ (by simp only;omega)).trans (qw 0 (.string ⟨#[]⟩) q1)) (qw 0 _ ((qbtz _ _ _ _ (by simp only;omega)).trans q2)) (by simp) (by intro E hE;rw[List.mem_singleton.1 hE];exact⟨by omega,((KeepsOthers.setCell _ _ _).trans (KeepsOthers.setCell _ _ _)).same D _ hK rfl⟩) ?_
    intro W' hp;rw[HPost.out,HN.out];have b1:Below w.heap.size W ((W.setCell ⟨w.heap.size+1,0,none⟩ (.string ⟨#[]⟩)).setCell ⟨w.heap.size+1+1,0,none⟩ (.string ⟨#[]⟩)):=((Below.refl _ _).setCell (p:=⟨w.heap.size+1,0,none⟩) (by simp only;omega) _).setCell (p:=⟨w.heap.size+1+1,0,none⟩) (by simp only;omega) _
    have hT2:Turn B w ((W.setCell ⟨w.heap.size+1,0,none⟩ (.string ⟨#[]⟩)).setCell ⟨w.heap.size+1+1,0,none⟩ (.string ⟨#[]⟩)):=⟨b1.os.trans hT.os,b1.tape.trans hT.tape,b1.output.trans hT.output,Nat.le_trans hT.size b1.size,fun k hk hn=>(b1.block k hk).trans (hT.block k hk hn)⟩;exact⟨rfl,hp.2 _ _ ((b1.block B hBl).trans hL.head) rfl,hT2.past hp (Nat.le_refl _)⟩
  case stop=>
    rintro D cc ys W hD hpre ⟨rfl,pre,x,rfl,hbad,hx,hL,hT⟩ hK
    have hN:qbl s.data.toList a ws=some x:=by
      obtain⟨rest,hrest⟩:=hpre;rw[HW.out,←hrest,List.append_assoc,List.find?_append]
      have h1:pre.find? (fun x=>pfxB (s.data.toList.drop M) x)=none:=by
        rw[List.find?_eq_none];intro y hy;have:=hbad y hy;rw[HRR.out]at this;simp[this]
      rw[HRR.out]at hx;rw[h1];simp[hx]
    have HN:=qb hN;clear hN;gi_wp2
    refine fin62 _ [D] W w.heap.size (w.heap.size+1) (w.heap.size+1+1) (qd x) _ rfl rfl hL.tail.head hL.tail.tail.head (by simp) (by intro E hE;rw[List.mem_singleton.1 hE];exact⟨by omega,hK⟩) ?_
    intro W' hp;rw[HPost.out,HN.out];exact⟨rfl,hp.2 _ _ hL.head rfl,hT.past hp (Nat.le_refl _)⟩
theorem qbrz (B:Nat) (s:QY) (a A c:Nat) (ws:List QB) (w:QW) (h:RdAt w B s a) (ha:a≤s.size) (hs:s.size≤64) (hA:qgv w A ws) (hws:ws.length≤64) (hwl:∀ x∈ws,x.length≤64) (hAB:A≠B) :
  Calls Tryz.prog 144 #[.pointer (some ⟨B,0,none⟩),.slice (some ⟨A,0,none⟩) ws.length c] w (qvr s a ws B w):=
 (callsIn_wide (n:=5)).1 (stage_in B s a A c ws w h ha hs hA hws hwl hAB)
open List renaming length_drop → qbtb
set_option maxHeartbeats 1000000
set_option maxRecDepth 100000
def qbp:List QB:=[[97,108,112,104,97],[97],[98,101,116,97],[98],[112,114,101,118,105,101,119],[112,114,101],[99],[114,99]]
def qdm:List QB:=[[112,111,115,116],[114,101,118],[114]]
def qbk:List QB:=[[100,101,118]]
def stN (l:QB) (a:Nat) (ws:List QB):QB:=match qbl l a ws with|none=>[]|some x=>qp (digT l (qbd l a+x.length))
def stP (l:QB) (a:Nat) (ws:List QB):Nat:=match qbl l a ws with|none=>a|some x=>digP l (qbd l a+x.length)
def preC (l:QB) (a:Nat):Int:=match qbl l a qbp with|none=>0|some x=>if x=[97,108,112,104,97]∨x=[97] then 97 else if x=[98,101,116,97]∨x=[98] then 98 else 114
theorem qbph (l:QB) (a:Nat) (h:a≤l.length):qbd l a≤digE l a∧digE l a≤l.length:=by
 have:=qgh l a h;have hr:=qjg 1 (l.drop (qbd l a));rw[qbtb]at hr;unfold digE;omega
theorem qbmr (l:QB) (a:Nat) (h:a≤l.length):a≤digP l a∧digP l a≤l.length:=by
 have:=qbph l a h;have:=qgh l a h;unfold digP;split<;>omega
theorem qpc (l:QB) (a:Nat) (ws:List QB) (h:a≤l.length):a≤stP l a ws∧stP l a ws≤l.length:=by
 unfold stP;cases hw:qbl l a ws with
 | none=>simp only;omega
 | some x=>
  simp only;unfold qbl at hw;have hx:=List.find?_some hw;have hl:=(List.isPrefixOf_iff_prefix.1 hx).length_le;rw[qbtb]at hl;have hm:=qgh l a h;have:=qbmr l (qbd l a+x.length) (by omega)
  omega
theorem qrd (B:Nat) (s:QY) (a A c:Nat) (ws:List QB) (w:World) (h:RdAt w B s a) (ha:a≤s.size) (hs:s.size≤64) (hA:qgv w A ws) (hws:ws.length≤64) (hwl:∀ x∈ws,x.length≤64) (hAB:A≠B) :
  Calls Tryz.prog 144 #[.pointer (some ⟨B,0,none⟩),.slice (some ⟨A,0,none⟩) ws.length c] w fun r w'=>r=.returned (.tuple #[.string (qd ((qbl s.data.toList a ws).getD [])),.string (qd (stN s.data.toList a ws))])∧RdAt w' B s (stP s.data.toList a ws)∧Turn B w w':=by
 refine(qbrz B s a A c ws w h ha hs hA hws hwl hAB).mono ?_;intro r w' hp;unfold qvr at hp;unfold stN stP;cases hw:qbl s.data.toList a ws with
 | none=>rw[hw]at hp;exact hp
 | some x=>rw[hw]at hp;exact hp
theorem pre_any (B:Nat) (s:QY) (a:Nat) (w:World) (h:RdAt w B s a) (ha:a≤s.size) (hs:s.size≤64) :
  Calls Tryz.prog 124 #[.pointer (some ⟨B,0,none⟩)] w fun r w'=>r=.returned (.tuple #[.int .u8 (preC s.data.toList a),.string (qd (stN s.data.toList a qbp))])∧RdAt w' B s (stP s.data.toList a qbp)∧Turn B w w':=by
 have hBl:=h.lt;have b1:=(Below.refl w.heap.size w).alloc (Nat.le_refl _) (.cells #[.string ⟨#[97,108,112,104,97]⟩,.string ⟨#[97]⟩,.string ⟨#[98,101,116,97]⟩,.string ⟨#[98]⟩,.string ⟨#[112,114,101,118,105,101,119]⟩,.string ⟨#[112,114,101]⟩,.string ⟨#[99]⟩,.string ⟨#[114,99]⟩] 9);have S1:=qb (qrd B s a w.heap.size 8 qbp _ (h.below b1) ha hs (qbtk w _) (by decide) (by decide) (by omega))
 have HC:Hid (preC s.data.toList a=match qbl s.data.toList a qbp with|none=>0|some x=>if x=[97,108,112,104,97]∨x=[97] then 97 else if x=[98,101,116,97]∨x=[98] then 98 else 114):=rfl;have HN:Hid (qbl s.data.toList a qbp=none→stN s.data.toList a qbp=[]):=by
  intro hw;unfold stN;rw[hw]
 generalize stN s.data.toList a qbp=T at *;generalize stP s.data.toList a qbp=P at *;generalize preC s.data.toList a=C at *;have hl8:qbp.length=8:=rfl;rw[hl8]at S1;cases hw:qbl s.data.toList a qbp with
 | none=>
  have hC:=HC.out;rw[hw]at hC S1;simp only at hC;subst hC;have hT:=HN.out hw;subst hT;go_enter Tryz.func124,Tryz.ntmps124
  (go_wp2_with fail);refine S1.out.mono ?_;rintro r w2 ⟨rfl,h2,t2⟩;rw[show(Option.getD (none:Option (QB)) [])=[] from rfl,show qd []=⟨#[]⟩ from rfl];(go_wp2_with fail);go_ret2
  exact⟨rfl,h2,(Turn.ofBelow b1).trans t2⟩
 | some x=>
  have hx:x∈qbp:=List.mem_of_find?_eq_some hw;have hC:=HC.out;rw[hw]at hC S1;simp only at hC;clear hw HC HN;simp only[qbp,List.mem_cons,List.not_mem_nil,or_false]at hx;rcases hx with rfl|rfl|rfl|rfl|rfl|rfl|rfl|rfl
  all_goals
   subst hC;go_enter Tryz.func124,Tryz.ntmps124
   (go_wp2_with fail);refine S1.out.mono ?_;rintro r w2 ⟨rfl,h2,t2⟩;simp only[Option.getD_some,qd];(go_wp2_with fail);go_ret2
   exact⟨rfl,h2,(Turn.ofBelow b1).trans t2⟩
theorem qbct {l:QB} {a:Nat} {ws:List QB} {x:QB} (h:qbl l a ws=some x) (hn:[] ∉ ws):x≠[]:=by
 rintro rfl;exact hn (List.mem_of_find?_eq_some h)
theorem qbcz {x:QB} (h:x≠[]):((qd x).toList==[])=false:=eqE (qd x) (by rw[qr];exact List.length_pos_iff.2 h)
theorem qmn {l:QB} {a:Nat} {ws:List QB} (h:qbl l a ws=none):stN l a ws=[]:=by unfold stN;rw[h]
theorem dev_any (B:Nat) (s:QY) (a:Nat) (w:World) (h:RdAt w B s a) (ha:a≤s.size) (hs:s.size≤64) :
  Calls Tryz.prog 126 #[.pointer (some ⟨B,0,none⟩)] w fun r w'=>r=.returned (.tuple #[.bool (qbl s.data.toList a qbk).isSome,.string (qd (stN s.data.toList a qbk))])∧RdAt w' B s (stP s.data.toList a qbk)∧Turn B w w':=by
 have hBl:=h.lt;have b1:=(Below.refl w.heap.size w).alloc (Nat.le_refl _) (.cells #[.string ⟨#[100,101,118]⟩] 9);have S1:=qb (qrd B s a w.heap.size 1 qbk _ (h.below b1) ha hs (qbtk w _) (by decide) (by decide) (by omega))
 generalize stN s.data.toList a qbk=T at *;generalize stP s.data.toList a qbk=P at *;have hl8:qbk.length=1:=rfl;rw[hl8]at S1;cases hw:qbl s.data.toList a qbk with
 | none=>
  rw[hw]at S1;go_enter Tryz.func126,Tryz.ntmps126
  (go_wp2_with fail);refine S1.out.mono ?_;rintro r w2 ⟨rfl,h2,t2⟩;rw[show(Option.getD (none:Option (QB)) [])=[] from rfl,show qd []=⟨#[]⟩ from rfl];(go_wp2_with fail);go_ret2
  exact⟨rfl,h2,(Turn.ofBelow b1).trans t2⟩
 | some x=>
  have hne:=qbcz (qbct hw (by decide))
  rw[hw]at S1;clear hw;go_enter Tryz.func126,Tryz.ntmps126
  (go_wp2_with fail);refine S1.out.mono ?_;rintro r w2 ⟨rfl,h2,t2⟩;rw[Option.getD_some];(go_wp2_with fail);go_ret2
  refine⟨?_,h2,(Turn.ofBelow b1).trans t2⟩;simp
def qhp (l:QB) (a:Nat):Bool:=pfxB (l.drop a) [45]&&!(digT l a).isEmpty
def posB (l:QB) (a:Nat):Bool:=if qhp l a then true else (qbl l a qdm).isSome
def posN (l:QB) (a:Nat):QB:=if qhp l a then qp (digT l a) else stN l a qdm
def posP (l:QB) (a:Nat):Nat:=if qhp l a then digP l a else stP l a qdm
theorem qbqq {l:QB} {a:Nat} (ha:a≤l.length) (h:digT l a=[]):digP l a=a:=by
 have hm:=qbph l a ha;have:(digT l a).length=digE l a-qbd l a:=qpn l _ _ hm.2;rw[h]at this;unfold digP;rw[if_neg (by simp at this;omega)]
theorem digT_len (l:QB) (a:Nat):(digT l a).length≤l.length:=by unfold digT seg;simp only[qbtb,List.length_take];omega
theorem qbdc (l:QB) (a:Nat) (h:a≤l.length):a≤posP l a∧posP l a≤l.length:=by
 unfold posP;split
 ·exact qbmr l a h
 ·exact qpc l a qdm h
theorem post_any (B:Nat) (s:QY) (a:Nat) (w:World) (h:RdAt w B s a) (ha:a≤s.size) (hs:s.size≤64) :
  Calls Tryz.prog 125 #[.pointer (some ⟨B,0,none⟩)] w fun r w'=>r=.returned (.tuple #[.bool (posB s.data.toList a),.string (qd (posN s.data.toList a))])∧RdAt w' B s (posP s.data.toList a)∧Turn B w w':=by
 have hBl:=h.lt;have R1:=qb (qtm B s a w h ha);have H:=qb h;have P1:=qb (fun W=>qkl (qd (s.data.toList.drop a)) ⟨#[45]⟩ W (by rw[qr,qbtb,qg];unfold maxLen;omega) (by decide))
 rw[qj]at P1;have hdl:=digT_len s.data.toList a;rw[qg]at hdl;have D1:=qb (fun W (hW:RdAt W B s a)=>qtp B s a W hW ha hs);have T1:=qb (fun W=>qjt (qd (digT s.data.toList a)) W (by rw[qr];unfold maxLen;omega))
 rw[qj]at T1;have S1:=qb (fun (W:World) (hW:RdAt W B s a)=>(show Calls Tryz.prog 144 #[.pointer (some ⟨B,0,none⟩),.slice (some ⟨W.heap.size,0,none⟩) 3 3] (W.alloc (.cells #[.string ⟨#[112,111,115,116]⟩,.string ⟨#[114,101,118]⟩,.string ⟨#[114]⟩] 9)) _ from qrd B s a W.heap.size 3 qdm _ (hW.below ((Below.refl W.heap.size W).alloc (Nat.le_refl _) _)) ha hs (qbtk W _) (by decide) (by decide) (by have:=hW.lt;omega)))
 have HB:Hid (posB s.data.toList a=if qhp s.data.toList a then true else (qbl s.data.toList a qdm).isSome):=rfl;have HN:Hid (posN s.data.toList a=if qhp s.data.toList a then qp (digT s.data.toList a) else stN s.data.toList a qdm):=rfl;have HP:Hid (posP s.data.toList a=if qhp s.data.toList a then digP s.data.toList a else stP s.data.toList a qdm):=rfl;have HD:Hid (qhp s.data.toList a=(pfxB (s.data.toList.drop a) [45]&&!(digT s.data.toList a).isEmpty)):=rfl;have HZ:=qb (fun h=>qbqq (l:=s.data.toList) (a:=a) (by rw[qg];exact ha) h)
 generalize posB s.data.toList a=rB at *;generalize posN s.data.toList a=rN at *;generalize posP s.data.toList a=rP at *;have hpd:(⟨#[45]⟩:QY).data.toList=[45]:=rfl;rw[hpd]at P1;clear hpd;cases hd:pfxB (s.data.toList.drop a) [45]
 ·have hdash:qhp s.data.toList a=false:=by rw[HD.out,hd];rfl
  have hN:=HN.out;have hP:=HP.out;rw[hdash,if_neg (by simp)]at hN hP
  rw[hd]at P1;clear hd;go_enter Tryz.func125,Tryz.ntmps125
  (go_wp2_with fail);refine R1.out.mono ?_;rintro r w1 ⟨rfl,n1,hw1⟩;have H1:=qb (H.out.drewN n1);have t1:=Turn.drewN B w n1;rw[←hw1]at H1 t1;clear hw1;(go_wp2_with fail);refine(P1.out _).mono ?_;rintro r w2 ⟨rfl,hw2⟩;rw[hw2];clear hw2 w2;obtain⟨WS,hWS⟩:∃ WS,WS=w1:=⟨_,rfl⟩;subst hWS;have HS:=H1;have tS:=t1;have S2:=qb (S1.out _ HS.out);have bS:=(Below.refl WS.heap.size WS).alloc (Nat.le_refl _) (.cells #[.string ⟨#[112,111,115,116]⟩,.string ⟨#[114,101,118]⟩,.string ⟨#[114]⟩] 9);cases hw:qbl s.data.toList a qdm with
  | none=>
   have hB:=HB.out;rw[hdash,hw]at hB;rw[hw]at S2;clear hw;(go_wp2_with fail);refine S2.out.mono ?_;rintro r w5 ⟨rfl,h5,t5⟩;rw[show(Option.getD (none:Option (QB)) [])=[] from rfl,show qd []=⟨#[]⟩ from rfl];(go_wp2_with fail);go_ret2
   refine⟨?_,by rw[hP];exact h5,tS.trans ((Turn.ofBelow bS).trans t5)⟩
   rw[hB,hN]
   rfl
  | some x=>
   have hne:=qbcz (qbct hw (by decide))
   have hB:=HB.out;rw[hdash,hw]at hB;rw[hw]at S2;clear hw;(go_wp2_with fail);refine S2.out.mono ?_;rintro r w5 ⟨rfl,h5,t5⟩;rw[Option.getD_some];(go_wp2_with fail);go_ret2
   refine⟨?_,by rw[hP];exact h5,tS.trans ((Turn.ofBelow bS).trans t5)⟩
   rw[hB,hN];simp
 ·rw [hd]at P1
  by_cases hdt:digT s.data.toList a=[]
  ·have hdash:qhp s.data.toList a=false:=by rw[HD.out,hd,hdt];rfl
   have hN:=HN.out;have hP:=HP.out;rw[hdash,if_neg (by simp)]at hN hP
   have D2:=qb (fun W (hW:RdAt W B s a)=>D1.out W hW);rw[hdt,HZ.out hdt,show qd []=⟨#[]⟩ from rfl]at D2;clear hd hdt;go_enter Tryz.func125,Tryz.ntmps125
   (go_wp2_with fail);refine R1.out.mono ?_;rintro r w1 ⟨rfl,n1,hw1⟩;have H1:=qb (H.out.drewN n1);have t1:=Turn.drewN B w n1;rw[←hw1]at H1 t1;clear hw1;(go_wp2_with fail);refine(P1.out _).mono ?_;rintro r w2 ⟨rfl,hw2⟩;rw[hw2];clear hw2 w2;(go_wp2_with fail);refine(D2.out _ H1.out).mono ?_;rintro r w3 ⟨rfl,h3,t3⟩;obtain⟨WS,hWS⟩:∃ WS,WS=w3:=⟨_,rfl⟩;subst hWS;have HS:=qb h3;have tS:=t1.trans t3;have S2:=qb (S1.out _ HS.out);have bS:=(Below.refl WS.heap.size WS).alloc (Nat.le_refl _) (.cells #[.string ⟨#[112,111,115,116]⟩,.string ⟨#[114,101,118]⟩,.string ⟨#[114]⟩] 9);cases hw:qbl s.data.toList a qdm with
   | none=>
    have hB:=HB.out;rw[hdash,hw]at hB;rw[hw]at S2;clear hw;(go_wp2_with fail);refine S2.out.mono ?_;rintro r w5 ⟨rfl,h5,t5⟩;rw[show(Option.getD (none:Option (QB)) [])=[] from rfl,show qd []=⟨#[]⟩ from rfl];(go_wp2_with fail);go_ret2
    refine⟨?_,by rw[hP];exact h5,tS.trans ((Turn.ofBelow bS).trans t5)⟩
    rw[hB,hN]
    rfl
   | some x=>
    have hne:=qbcz (qbct hw (by decide))
    have hB:=HB.out;rw[hdash,hw]at hB;rw[hw]at S2;clear hw;(go_wp2_with fail);refine S2.out.mono ?_;rintro r w5 ⟨rfl,h5,t5⟩;rw[Option.getD_some];(go_wp2_with fail);go_ret2
    refine⟨?_,by rw[hP];exact h5,tS.trans ((Turn.ofBelow bS).trans t5)⟩
    rw[hB,hN];simp
  ·have hdash:qhp s.data.toList a=true:=by
    rw[HD.out,hd];cases hx:digT s.data.toList a with
    | nil=>exact absurd hx hdt
    | cons _ _=>rfl
   have hB:=HB.out;have hN:=HN.out;have hP:=HP.out;rw[hdash,if_pos rfl]at hB hN hP;have hne:=qbcz hdt;clear hd hdt;go_enter Tryz.func125,Tryz.ntmps125
   (go_wp2_with fail);refine R1.out.mono ?_;rintro r w1 ⟨rfl,n1,hw1⟩;have H1:=qb (H.out.drewN n1);have t1:=Turn.drewN B w n1;rw[←hw1]at H1 t1;clear hw1;(go_wp2_with fail);refine(P1.out _).mono ?_;rintro r w2 ⟨rfl,hw2⟩;rw[hw2];clear hw2 w2;(go_wp2_with fail);refine(D1.out _ H1.out).mono ?_;rintro r w3 ⟨rfl,h3,t3⟩;(go_wp2_with fail);refine(T1.out _).mono ?_;rintro r w4 ⟨rfl,hw4⟩;rw[hw4];clear hw4 w4;(go_wp2_with fail);go_ret2
   refine⟨?_,by rw[hP];exact h3,t1.trans t3⟩
   rw[hB,hN]
   rfl
end Go.Proofs.YtabmfdedbpmfmaaGreat
