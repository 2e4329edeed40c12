/- Walks: the document's reader: a word behind a mark. -/
import Derived.Test.YtabmfdedbpmfmaaGreatVPf
import Derived.Test.YtabmfdedbpmfmaaGreatVXa
namespace Go.Proofs.YtabmfdedbpmfmaaGreat
open Go.RowKit Go.Shelf
set_option linter.unusedVariables false
set_option maxHeartbeats 1000000
set_option maxRecDepth 100000
theorem qhd (l:QB) (a:Nat) (k:Int):(qn k (l.drop a)=0)↔clsB l a k=false:=by
 unfold clsB
 by_cases h:a<l.length
 ·rw[List.drop_eq_getElem_cons h,List.getElem?_eq_getElem h];simp only[Option.map_some,Option.getD_some];rw[qn];cases isC (l[a].toNat:Int) k<;>simp
 ·rw[List.drop_eq_nil_of_le (by omega),List.getElem?_eq_none (by omega)]
  simp[qn]
theorem qvq (c:UInt8) (h:qgc c=true):isC (c.toNat:Int) 1=false:=by
 unfold qgc at h;simp only[Bool.or_eq_true,beq_iff_eq]at h;rcases h with (rfl|rfl)|rfl<;>rfl
theorem mark_cls (l:QB) (a:Nat) (h:qdg l a=true):clsB l a 1=false:=by
 unfold qdg at h;unfold clsB;cases hl:l[a]? with
 | none=>rw[hl]at h;simp at h
 | some c=>rw[hl]at h;simp only[Option.map_some,Option.getD_some]at h ⊢;exact qvq c h
theorem qbcs {l:QB} {a:Nat} (h:qdg l a=true):qbd l a=a+1:=by unfold qbd;unfold qdg at h;rw[if_pos h]
theorem qbbb {l:QB} {a:Nat} (h:qdg l a=false):qbd l a=a:=by unfold qbd;unfold qdg at h;rw[if_neg (by simp[h])]
theorem dig_t {l:QB} {b:Nat} (h1:qdg l b=true) (h2:clsB l (b+1) 1=true):digP l b=b+1+qn 1 (l.drop (b+1))∧digT l b=seg l (b+1) (b+1+qn 1 (l.drop (b+1))):=by
 have hr:qn 1 (l.drop (b+1))≠0:=fun h=>by rw[(qhd l (b+1) 1).1 h]at h2;cases h2
 unfold digP digT digE;rw[qbcs h1,if_pos (by omega)]
 exact⟨rfl,rfl⟩
theorem dig_f {l:QB} {b:Nat} (h1:qdg l b=true) (h2:clsB l (b+1) 1=false):digP l b=b∧digT l b=[]:=by
 have hr:qn 1 (l.drop (b+1))=0:=(qhd l (b+1) 1).2 h2;unfold digP digT digE;rw[qbcs h1,hr,if_neg (by omega),Nat.add_zero]
 exact⟨rfl,qbdv _ _⟩
theorem dig_n {l:QB} {b:Nat} (h1:qdg l b=false) (h2:clsB l b 1=true):digP l b=b+qn 1 (l.drop b)∧digT l b=seg l b (b+qn 1 (l.drop b)):=by
 have hr:qn 1 (l.drop b)≠0:=fun h=>by rw[(qhd l b 1).1 h]at h2;cases h2
 unfold digP digT digE;rw[qbbb h1,if_pos (by omega)]
 exact⟨rfl,rfl⟩
theorem dig_0 {l:QB} {b:Nat} (h1:qdg l b=false) (h2:clsB l b 1=false):digP l b=b∧digT l b=[]:=by
 have hr:qn 1 (l.drop b)=0:=(qhd l b 1).2 h2;unfold digP digT digE;rw[qbbb h1,hr,if_neg (by omega),Nat.add_zero]
 exact⟨rfl,qbdv _ _⟩
theorem qbfg:qp []=[48]:=rfl
theorem qmm (B:Nat) (s:QY) (b:Nat) (e p:Int) (w:World) (h:DrAt w B s b e p) (hb:b≤s.size) (hs:s.size≤64) :
  Calls Tryz.prog 58 #[.pointer (some ⟨B,0,none⟩)] w fun r w'=>r=.returned (.string (qd (qp (digT s.data.toList b))))∧DrAt w' B s (digP s.data.toList b) e p∧Turn B w w':=by
 have M0:=qb (fun w h=>qmc B s b e p 0 w h hb (by omega) hs)
 have I0:=qb (fun w h=>qdz B s b e p 0 1 w h hb (by omega) hs)
 have I1:=qb (fun w h=>qdz B s b e p 1 1 w h hb (by omega) hs)
 simp only[Nat.add_zero]at M0 I0;have H:=qb h;clear h;cases hm:qdg s.data.toList b
 ·rw [hm]at M0;cases hd:clsB s.data.toList b 1
  ·rw[hd]at I0;obtain⟨e1,e2⟩:=dig_0 hm hd;rw[e1,e2,qbfg];clear e1 e2 hm hd;go_enter Tryz.func58,Tryz.ntmps58
   (go_wp2_with fail);refine(M0.out _ H.out).mono ?_;rintro r w1 ⟨rfl,n1,rfl⟩;(go_wp2_with fail);refine(I0.out _ (H.out.drewN _)).mono ?_;rintro r w2 ⟨rfl,n2,rfl⟩;(go_wp2_with fail);go_ret
   exact⟨rfl,H.out.drewN _,Turn.drewN _ _ _⟩
  ·rw[hd]at I0;obtain⟨e1,e2⟩:=dig_n hm hd;rw[e1,e2];have DG:=qb (fun w h=>qgr B s b e p w h hb hs);clear e1 e2 hm hd;go_enter Tryz.func58,Tryz.ntmps58
   (go_wp2_with fail);refine(M0.out _ H.out).mono ?_;rintro r w1 ⟨rfl,n1,rfl⟩;(go_wp2_with fail);refine(I0.out _ (H.out.drewN _)).mono ?_;rintro r w2 ⟨rfl,n2,rfl⟩;(go_wp2_with fail);refine(DG.out _ (H.out.drewN _)).mono ?_;rintro r w3 ⟨rfl,h3,t3⟩;(go_wp2_with fail);go_ret
   exact⟨rfl,h3,(Turn.drewN _ _ _).trans t3⟩
 ·rw [hm]at M0;have hdb:=mark_cls _ _ hm;cases hd:clsB s.data.toList (b+1) 1
  ·rw[hd]at I1;rw[hdb]at I0;obtain⟨e1,e2⟩:=dig_f hm hd;rw[e1,e2,qbfg];clear e1 e2 hm hd hdb;go_enter Tryz.func58,Tryz.ntmps58
   (go_wp2_with fail);refine(M0.out _ H.out).mono ?_;rintro r w1 ⟨rfl,n1,rfl⟩;(go_wp2_with fail);refine(I1.out _ (H.out.drewN _)).mono ?_;rintro r w2 ⟨rfl,n2,rfl⟩;(go_wp2_with fail);refine(I0.out _ (H.out.drewN _)).mono ?_;rintro r w3 ⟨rfl,n3,rfl⟩;(go_wp2_with fail);go_ret
   exact⟨rfl,H.out.drewN _,Turn.drewN _ _ _⟩
  ·rw [hd]at I1;obtain⟨e1,e2⟩:=dig_t hm hd;rw[e1,e2];have hb1:b+1≤s.size:=by
    by_cases hl:b+1<s.size
    ·omega
    ·rw[qmr s _ _ hl]at hd;cases hd
   have I2:=qb (fun w h=>qdz B s (b+1) e p 0 1 w h hb1 (by omega) hs)
   simp only[Nat.add_zero]at I2;rw[hd]at I2;have DG:=qb (fun w h=>qgr B s (b+1) e p w h hb1 hs);have hw:IntKind.i64.wrap ((b:Int)+1)=(b:Int)+1:=by rw[IntKind.wrap_i64];omega
   clear e1 e2 hm hd hdb;go_enter Tryz.func58,Tryz.ntmps58
   (go_wp2_with fail);refine(M0.out _ H.out).mono ?_;rintro r w1 ⟨rfl,n1,hw1⟩;have H1:DrAt w1 B s b e p:=by rw[hw1];exact H.out.drewN _
   have T1:Turn B w w1:=by rw[hw1];exact Turn.drewN _ _ _
   clear hw1;(go_wp2_with fail);refine(I1.out _ H1).mono ?_;rintro r w2 ⟨rfl,n2,hw2⟩;have H2:DrAt w2 B s b e p:=by rw[hw2];exact H1.drewN _
   have T2:Turn B w w2:=by rw[hw2];exact T1.trans (Turn.drewN _ _ _)
   clear hw2 H1 T1;obtain⟨c0,c1,c2,c3,f1,f2,f3⟩:=H2.seen;(go_wp2_with fail);refine(I2.out _ H2.step).mono ?_;rintro r w3 ⟨rfl,n3,hw3⟩;have H3:DrAt w3 B s (b+1) e p:=by rw[hw3];exact H2.step.drewN _
   have T3:Turn B w w3:=by rw[hw3];exact T2.trans ((Turn.set _ _ _ _).trans (Turn.drewN _ _ _))
   clear hw3 H2 T2;(go_wp2_with fail);refine(DG.out _ H3).mono ?_;rintro r w4 ⟨rfl,h4,t4⟩;(go_wp2_with fail);go_ret
   exact⟨rfl,h4,T3.trans t4⟩
def letC (x:QB):Int:=if x=[97,108,112,104,97]∨x=[97] then 97 else if x=[98,101,116,97]∨x=[98] then 98 else 114
theorem qbdq (x:QB) (w:World):Calls Tryz.prog 57 #[.string (qd x)] w fun e w'=>e=.returned (.int .u8 (letC x))∧w'=w:=by
 have q:∀ y:QB,((qd x).toList==y)=decide (x=y):=fun y=>by
  rw[toL,qj];rw[Bool.eq_iff_iff];simp
 have q1:=q [97,108,112,104,97];have q2:=q [97];have q3:=q [98,101,116,97];have q4:=q [98];clear q;have HL:Hid (letC x=if x=[97,108,112,104,97]∨x=[97] then 97 else if x=[98,101,116,97]∨x=[98] then 98 else 114):=rfl;generalize letC x=L at *;generalize qd x=s at *
 by_cases h1:x=[97,108,112,104,97]
 ·rw[decide_eq_true h1]at q1;have HL:Hid (L=97):=by show _=_;rw[HL.out,if_pos (.inl h1)]
  clear h1 q2 q3 q4;go_enter Tryz.func57,Tryz.ntmps57
  (go_wp2_with fail);go_ret
  exact⟨by rw[HL.out];rfl,rfl⟩
 ·rw [decide_eq_false h1]at q1
  by_cases h2:x=[97]
  ·rw[decide_eq_true h2]at q2;have HL:Hid (L=97):=by show _=_;rw[HL.out,if_pos (.inr h2)]
   clear h1 h2 q3 q4;go_enter Tryz.func57,Tryz.ntmps57
   (go_wp2_with fail);go_ret
   exact⟨by rw[HL.out];rfl,rfl⟩
  ·rw [decide_eq_false h2]at q2
   by_cases h3:x=[98,101,116,97]
   ·rw[decide_eq_true h3]at q3;have HL:Hid (L=98):=by show _=_;rw[HL.out,if_neg (by rintro(h|h);exact h1 h;exact h2 h),if_pos (.inl h3)]
    clear h1 h2 h3 q4;go_enter Tryz.func57,Tryz.ntmps57
    (go_wp2_with fail);go_ret
    exact⟨by rw[HL.out];rfl,rfl⟩
   ·rw [decide_eq_false h3]at q3
    by_cases h4:x=[98]
    ·rw[decide_eq_true h4]at q4;have HL:Hid (L=98):=by show _=_;rw[HL.out,if_neg (by rintro(h|h);exact h1 h;exact h2 h),if_pos (.inr h4)]
     clear h1 h2 h3 h4;go_enter Tryz.func57,Tryz.ntmps57
     (go_wp2_with fail);go_ret
     exact⟨by rw[HL.out];rfl,rfl⟩
    ·rw[decide_eq_false h4]at q4;have HL:Hid (L=114):=by show _=_;rw[HL.out,if_neg (by rintro(h|h);exact h1 h;exact h2 h),if_neg (by rintro(h|h);exact h3 h;exact h4 h)]
     clear h1 h2 h3 h4;go_enter Tryz.func57,Tryz.ntmps57
     (go_wp2_with fail);go_ret
     exact⟨by rw[HL.out];rfl,rfl⟩
open Calls renaming quiet_of_same → qbts
set_option maxHeartbeats 2000000
set_option maxRecDepth 100000
theorem hasP_pfx (t x:QB):hasP t x=pfxB t x:=by
 unfold hasP
 by_cases h:x.length≤t.length
 ·rw[qbjd t x h];rw[Bool.eq_iff_iff];simp
 ·rw[qjw t x h];rw[beq_eq_false_iff_ne];intro e;have:=congrArg List.length e;simp at this;omega
theorem qbkt (l:QB) (m:Nat) (h:m≤l.length) (x:QB):qdr l (m:Int) x=pfxB (l.drop m) x:=by
 unfold qdr;rw[hasP_pfx];simp[h]
theorem qxk (f:QY→Bool) (x:QB):∀ ws:List QB,(∀ y∈ws,f (qd y)=true→¬ x.length<y.length)→(ws.map qd).foldl (qkm f) (qd x,true)=(qd x,true)
 | [],_=>rfl
 | y::ws,h=>by
  rw[List.map_cons,List.foldl_cons,qkm,if_neg]
  ·exact qxk f x ws (fun z hz=>h z (List.mem_cons_of_mem _ hz))
  ·rintro⟨h1,h2⟩;have:=h y List.mem_cons_self h1;rcases h2 with h2|h2
   ·cases h2
   ·simp only[qr]at h2;exact this h2
theorem qtl (f:QY→Bool):∀ ws:List QB,ws.Pairwise (fun x y=>f (qd x)=true→f (qd y)=true→¬ x.length<y.length) →
  qqr f (ws.map qd)=match ws.find? (fun x=>f (qd x))with|some x=>(qd x,true)|none=>(ByteArray.empty,false)
 | [],_=>rfl
 | x::ws,h=>by
  rw[List.pairwise_cons]at h;unfold qqr;rw[List.map_cons,List.foldl_cons,List.find?_cons];cases hx:f (qd x)
  ·rw[qkm,if_neg (by rintro⟨h1,_⟩;rw[hx]at h1;cases h1)]
   exact qtl f ws h.2
  ·rw[qkm,if_pos ⟨hx,.inl rfl⟩];exact qxk f x ws (fun y hy hf=>h.1 y hy hx hf)
theorem pfx_both {t x y:QB} (hx:pfxB t x=true) (hy:pfxB t y=true) (hl:x.length<y.length):x.isPrefixOf y=true:=by
 unfold pfxB at hx hy;rw[List.isPrefixOf_iff_prefix]at *;exact List.prefix_of_prefix_length_le hx hy (by omega)
def qsl (ws:List QB):Prop:=ws.Pairwise fun x y=>x.length<y.length→x.isPrefixOf y=false
theorem qbqk:qsl qbp:=by unfold qsl qbp;decide
theorem qpd:qsl qdm:=by unfold qsl qdm;decide
theorem qbqp:qsl qbk:=by unfold qsl qbk;decide
theorem word_is (l:QB) (a:Nat) (ha:a≤l.length) (ws:List QB) (h:qsl ws) :
  qqr (fun x=>qdr l ((qbd l a:Nat):Int) x.data.toList) (ws.map qd)=match qbl l a ws with|some x=>(qd x,true)|none=>(ByteArray.empty,false):=by
 have hm:=(qgh l a ha).2.1;have e:(fun x:QY=>qdr l ((qbd l a:Nat):Int) x.data.toList)=fun x=>pfxB (l.drop (qbd l a)) x.data.toList:=funext fun x=>qbkt l _ hm _;rw[e,qtl]
 ·unfold qbl;simp only[qj]
 ·refine h.imp ?_;intro x y hxy h1 h2 hl;simp only[qj]at h1 h2;have:=hxy hl;rw[pfx_both h1 h2 hl]at this;cases this
def qlr (s:QY) (a:Nat) (ws:List QB) (B:Nat) (e p:Int) (w:World) (r:Ending) (w':World):Prop:=
 match qbl s.data.toList a ws with
 | none=>r=.returned (.tuple #[.string ByteArray.empty,.bool false])∧DrAt w' B s a e p∧Turn B w w'
 | some x=>r=.returned (.tuple #[.string (qd x),.bool true])∧DrAt w' B s (qbd s.data.toList a+x.length) e p∧Turn B w w'
theorem qkp (B:Nat) (s:QY) (a A c:Nat) (e p:Int) (ws:List QB) (w:World) (h:DrAt w B s a e p) (ha:a≤s.size) (hs:s.size≤64) (hA:qgv w A ws) (hws:ws.length≤64) (hwl:∀ x∈ws,x.length≤64) (hap:qsl ws) :
  Calls Tryz.prog 56 #[.pointer (some ⟨B,0,none⟩),.slice (some ⟨A,0,none⟩) ws.length c] w (qlr s a ws B e p w):=by
 have M0:=qb (fun w h=>qmc B s a e p 0 w h ha (by omega) hs)
 simp only[Nat.add_zero]at M0;have H:=qb h;have hm:=qgh s.data.toList a (by rw[qg];exact ha)
 have HW:=word_is s.data.toList a (by rw[qg];exact ha) ws hap
 have WD:=fun W (hW:W.heap[A]? = w.heap[A]?)=>qbqv s ((qbd s.data.toList a:Nat):Int) (some ⟨A,0,none⟩) (ws.map qd) c W (by unfold maxLen;omega) (by rw[List.length_map];unfold maxLen;omega) (by
  by_cases h0:ws=[]
  ·left;rw[h0];rfl
  ·right;refine⟨A,0,rfl,fun i hi=>?_⟩;rw[List.length_map]at hi;have hc:qgv W A ws:=by unfold qgv;rw[hW];exact hA
   have:=hc.cell i hi;rw[Nat.zero_add,this];simp[List.getD,hi])
 rw [List.length_map]at WD;rw[HW]at WD;have hwx:∀ x,qbl s.data.toList a ws=some x→qbd s.data.toList a+x.length≤200:=fun x hx=>by
  have:=hwl x (List.mem_of_find?_eq_some hx);rw[qg]at hm;omega
 unfold qlr;have hmk:(qdg s.data.toList a=true∧qbd s.data.toList a=a+1)∨(qdg s.data.toList a=false∧qbd s.data.toList a=a):=by
  cases hb:qdg s.data.toList a
  ·exact .inr ⟨rfl,qbbb hb⟩
  ·exact .inl ⟨rfl,qbcs hb⟩
 clear hA h HW hap hwl;cases hx:qbl s.data.toList a ws with
 | none=>
  rw[hx]at WD;have WD:=qb WD;clear hwx hx;rcases hmk with ⟨hb,hl⟩|⟨hb,hl⟩
  ·rw[hb]at M0;have e1:(a:Int)+1=((qbd s.data.toList a:Nat):Int):=by omega
   have w1:IntKind.i64.wrap ((qbd s.data.toList a:Nat):Int)=((qbd s.data.toList a:Nat):Int):=by rw[IntKind.wrap_i64,qg]at *;omega
   clear hl hb hm;generalize ((qbd s.data.toList a:Nat):Int)=m at *;go_enter Tryz.func56,Tryz.ntmps56
   (go_wp2_with fail);refine(M0.out _ H.out).mono ?_;rintro r w1 ⟨rfl,n1,hw1⟩;have H1:DrAt w1 B s a e p:=by rw[hw1];exact H.out.drewN _
   have T1:Turn B w w1:=by rw[hw1];exact Turn.drewN _ _ _
   have A1:w1.heap[A]? = w.heap[A]?:=by rw[hw1,qbx]
   have WD1:=qb (fun n=>WD.out (w1.drewN n) (by rw[qbx];exact A1))
   clear hw1;obtain⟨c0,c1,c2,c3,f1,f2,f3⟩:=H1.seen;(go_wp2_with fail);go_quiet (first|(go_at_call 84;exact qbts (WD1.out _))|fail)
   (go_wp2_with fail);go_ret2
   exact⟨rfl,H1.drewN _,T1.trans (Turn.drewN _ _ _)⟩
  ·rw[hb]at M0;have e1:((qbd s.data.toList a:Nat):Int)=(a:Int):=by omega
   rw[e1]at WD;clear hl hb hm e1;go_enter Tryz.func56,Tryz.ntmps56
   (go_wp2_with fail);refine(M0.out _ H.out).mono ?_;rintro r w1 ⟨rfl,n1,hw1⟩;have H1:DrAt w1 B s a e p:=by rw[hw1];exact H.out.drewN _
   have T1:Turn B w w1:=by rw[hw1];exact Turn.drewN _ _ _
   have A1:w1.heap[A]? = w.heap[A]?:=by rw[hw1,qbx]
   have WD1:=qb (fun n=>WD.out (w1.drewN n) (by rw[qbx];exact A1))
   clear hw1;obtain⟨c0,c1,c2,c3,f1,f2,f3⟩:=H1.seen;(go_wp2_with fail);go_quiet (first|(go_at_call 84;exact qbts (WD1.out _))|fail)
   (go_wp2_with fail);go_ret2
   exact⟨rfl,H1.drewN _,T1.trans (Turn.drewN _ _ _)⟩
 | some x=>
  rw[hx]at WD;have WD:=qb WD;have hx2:=hwx x hx;have hxs:(qd x).size=x.length:=qr x;clear hwx hx;dsimp only;obtain⟨j,hj⟩:∃ j,j=qbd s.data.toList a+x.length:=⟨_,rfl⟩;rw[←hj];rcases hmk with ⟨hb,hl⟩|⟨hb,hl⟩
  ·rw[hb]at M0;rw[hl]at hj WD;have e1:((a+1:Nat):Int)=(a:Int)+1:=by omega
   rw[e1]at WD;have w1:IntKind.i64.wrap ((a:Int)+1)=(a:Int)+1:=by rw[IntKind.wrap_i64];omega
   have e2:(a:Int)+1+(x.length:Int)=(j:Int):=by omega
   have w2:IntKind.i64.wrap (j:Int)=(j:Int):=by rw[IntKind.wrap_i64];omega
   clear hl hb hm e1 hj hx2;go_enter Tryz.func56,Tryz.ntmps56
   (go_wp2_with fail);refine(M0.out _ H.out).mono ?_;rintro r w1 ⟨rfl,n1,hw1⟩;have H1:DrAt w1 B s a e p:=by rw[hw1];exact H.out.drewN _
   have T1:Turn B w w1:=by rw[hw1];exact Turn.drewN _ _ _
   have A1:w1.heap[A]? = w.heap[A]?:=by rw[hw1,qbx]
   have WD1:=qb (fun n=>WD.out (w1.drewN n) (by rw[qbx];exact A1))
   clear hw1;obtain⟨c0,c1,c2,c3,f1,f2,f3⟩:=H1.seen;(go_wp2_with fail);go_quiet (first|(go_at_call 84;exact qbts (WD1.out _))|fail)
   (go_wp2_with fail);go_ret2
   exact⟨rfl,(H1.drewN _).place _,T1.trans ((Turn.drewN _ _ _).trans (Turn.set _ _ _ _))⟩
  ·rw[hb]at M0;rw[hl]at hj WD;have e2:(a:Int)+(x.length:Int)=(j:Int):=by omega
   have w2:IntKind.i64.wrap (j:Int)=(j:Int):=by rw[IntKind.wrap_i64];omega
   clear hl hb hm hj hx2;go_enter Tryz.func56,Tryz.ntmps56
   (go_wp2_with fail);refine(M0.out _ H.out).mono ?_;rintro r w1 ⟨rfl,n1,hw1⟩;have H1:DrAt w1 B s a e p:=by rw[hw1];exact H.out.drewN _
   have T1:Turn B w w1:=by rw[hw1];exact Turn.drewN _ _ _
   have A1:w1.heap[A]? = w.heap[A]?:=by rw[hw1,qbx]
   have WD1:=qb (fun n=>WD.out (w1.drewN n) (by rw[qbx];exact A1))
   clear hw1;obtain⟨c0,c1,c2,c3,f1,f2,f3⟩:=H1.seen;(go_wp2_with fail);go_quiet (first|(go_at_call 84;exact qbts (WD1.out _))|fail)
   (go_wp2_with fail);go_ret2
   exact⟨rfl,(H1.drewN _).place _,T1.trans ((Turn.drewN _ _ _).trans (Turn.set _ _ _ _))⟩
end Go.Proofs.YtabmfdedbpmfmaaGreat
