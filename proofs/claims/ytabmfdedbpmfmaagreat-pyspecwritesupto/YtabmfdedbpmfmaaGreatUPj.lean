/- Walks: Parse. -/
import Derived.Test.YtabmfdedbpmfmaaGreatUPh
namespace Go.Proofs.YtabmfdedbpmfmaaGreat
open Go.RowKit Go.Shelf
open _root_.Array renaming getElem?_eq_some_iff → qbsp
open Go renaming World → QW, Value → QV
set_option linter.unusedVariables false
set_option maxHeartbeats 4000000
set_option maxRecDepth 100000
def vp1 (l:QB):Nat:=qnl l 0 [118]
def vp2 (l:QB):Nat:=epoP l (vp1 l)
def vrel (l:QB):List (Nat×Nat):=qbf l 1 [46] (vp2 l)
def vp3 (l:QB):Nat:=qfm (vp2 l) (vrel l)
def vp4 (l:QB):Nat:=stP l (vp3 l) qbq
def vp5 (l:QB):Nat:=posP l (vp4 l)
def vp6 (l:QB):Nat:=stP l (vp5 l) qbk
def vp7 (l:QB):Nat:=qnl l (vp6 l) [43]
def vpl (l:QB):Bool:=pfxB (l.drop (vp6 l)) [43]
def vloc (l:QB):List (Nat×Nat):=qbf l 5 [45,95,46] (vp7 l)
def vp8 (l:QB):Nat:=qfm (vp7 l) (vloc l)
def qff (l:QB):List (Nat×Nat):=if vpl l then vloc l else []
def verX (l:QB):Int×Nat:=
 if (vrel l).length=0 then (misL l.length (vp3 l),vp3 l) else
 if vpl l then (if (vloc l).length=0 then (misL l.length (vp8 l),vp8 l) else if vp8 l<l.length then (10,vp8 l) else (0,vp8 l)) else
 if vp7 l<l.length then (10,vp7 l) else (0,vp7 l)
theorem runs_le (l:QB) (k:Int) (seps:QB):∀ (n a:Nat),l.length-a=n→∀ x∈qbf l k seps a,a≤x.1∧x.1≤x.2∧x.2≤l.length:=by
 intro n
 induction n using Nat.strongRecOn with
 | _ n ih=>
  intro a hn x hx
  by_cases h0:qp k (l.drop a)=0
  ·rw[qhk l k seps a h0]at hx;cases hx
  ·have hle:=qhx k (l.drop a);rw[List.length_drop]at hle
   by_cases h:∃ c,l[a+qp k (l.drop a)]? = some c∧seps.contains c=true
   ·obtain ⟨c,hc,hs⟩:=h;have hlt:=(List.getElem?_eq_some_iff.1 hc).1;rw[qhg l k seps a _ rfl (by omega) c hc hs]at hx
    rcases List.mem_cons.1 hx with rfl|hx
    ·simp only;omega
    ·have:=ih _ (by omega) (a+qp k (l.drop a)+1) rfl x hx
     omega
   ·rw [qkh l k seps a _ rfl (by omega) (fun c hc=>by
     cases hs:seps.contains c with
     | false=>rfl
     | true=>exact absurd ⟨c,hc,hs⟩ h)]at hx
    rw[List.mem_singleton.1 hx];simp only;omega
theorem qkr (l:QB) (k:Int) (seps:QB) (a:Nat) (ha:a≤l.length):qfm a (qbf l k seps a)≤l.length:=by
 unfold qfm;cases h:(qbf l k seps a).getLast? with
 | none=>exact ha
 | some x=>exact(runs_le l k seps _ a rfl x (List.mem_of_getLast? h)).2.2
def pepZ:Array QV:=#[.string ⟨#[]⟩,.slice none 0 0,.int .u8 0,.string ⟨#[]⟩,.bool false,.string ⟨#[]⟩,.bool false,.string ⟨#[]⟩,.slice none 0 0]
theorem qdm {W:QW} {B:Nat} {a b c d e f g h i:QV} (k:W.heap[B]? = some (.cells #[a,b,c,d,e,f,g,h,i] 44 (0,0))) :
  W.cell? ⟨B,0,none⟩=some a∧W.cell? ⟨B,1,none⟩=some b∧W.cell? ⟨B,2,none⟩=some c∧W.cell? ⟨B,3,none⟩=some d∧W.cell? ⟨B,4,none⟩=some e∧W.cell? ⟨B,5,none⟩=some f∧W.cell? ⟨B,6,none⟩=some g∧W.cell? ⟨B,7,none⟩=some h∧W.cell? ⟨B,8,none⟩=some i:=
 ⟨qc 0 k rfl,qc 1 k rfl,qc 2 k rfl,qc 3 k rfl,qc 4 k rfl,qc 5 k rfl,qc 6 k rfl,qc 7 k rfl,qc 8 k rfl⟩
structure PV (B:Nat) (w W:QW) (s:QY) (a:Nat) (cs:Array QV) (vr:QV) (xs:List QV) (vl:QV) (ys:List QV):Prop where
 turn:Turn B w W
 res:W.heap[w.heap.size]? = some (.cells #[.string ⟨#[]⟩,.slice none 0 0,.int .u8 0,.string ⟨#[]⟩,.bool false,.string ⟨#[]⟩,.bool false,.string ⟨#[]⟩,.slice none 0 0] 44 (0,0))
 rd:RdAt W B s a
 ver:W.heap[w.heap.size+1]? = some (.cells cs 44 (0,0))
 rel:W.ownsRow (w.heap.size+1+1) 9 1 vr xs.length xs
 loc:W.ownsRow (w.heap.size+1+1) 9 1 vl ys.length ys
theorem PV.go {B:Nat} {w W W':QW} {s:QY} {a a':Nat} {cs:Array QV} {vr vl:QV} {xs ys:List QV} (h:PV B w W s a cs vr xs vl ys) (hB:B<w.heap.size) (t:Turn B W W') (r:RdAt W' B s a'):PV B w W' s a' cs vr xs vl ys:=by
 have h1:=(qbsp.1 h.res).1;have h2:=(qbsp.1 h.ver).1;exact⟨h.turn.trans t,(t.block _ h1 (by omega)).trans h.res,r,(t.block _ h2 (by omega)).trans h.ver,qbc h.rel t (by omega),qbc h.loc t (by omega)⟩
theorem PV.put {B:Nat} {w W:QW} {s:QY} {a:Nat} {cs:Array QV} {vr vl:QV} {xs ys:List QV} (h:PV B w W s a cs vr xs vl ys) (hB:B<w.heap.size) (o:Nat) (u:QV):PV B w (W.setCell ⟨w.heap.size+1,o,none⟩ u) s a (cs.setIfInBounds o u) vr xs vl ys:=by
 have b1:Below w.heap.size W (W.setCell ⟨w.heap.size+1,o,none⟩ u):=(Below.refl _ _).setCell (p:=⟨w.heap.size+1,o,none⟩) (by simp only;omega) u
 exact ⟨⟨b1.os.trans h.turn.os,b1.tape.trans h.turn.tape,b1.output.trans h.turn.output,Nat.le_trans h.turn.size b1.size,fun k hk hn=>(b1.block k hk).trans (h.turn.block k hk hn)⟩,
  (Below.heap_setCell _ _ _ _ (by simp only;omega)).trans h.res,(Below.heap_setCell _ _ _ _ (by simp only;omega)).trans h.rd,qw o u h.ver,
  ownsRow_setCell_below h.rel (a:=⟨w.heap.size+1,o,none⟩) (by simp only;omega) u,ownsRow_setCell_below h.loc (a:=⟨w.heap.size+1,o,none⟩) (by simp only;omega) u⟩
theorem PV.drewN {B:Nat} {w W:QW} {s:QY} {a:Nat} {cs:Array QV} {vr vl:QV} {xs ys:List QV} (h:PV B w W s a cs vr xs vl ys) (hB:B<w.heap.size) (n:Nat):PV B w (W.drewN n) s a cs vr xs vl ys:=
 h.go hB (Turn.drewN _ _ n) (by unfold RdAt;rw[qbw];exact h.rd)
theorem qbdv {W:QW} {base:Nat} {v:QV} {n:Nat} {xs:List QV} (h:W.ownsRow base 9 1 v n xs):∃ ao cap,v=.slice ao n cap:=by
 rcases h.2 with ⟨rfl,h0⟩|⟨g,cap,_,rfl,_⟩
 ·exact⟨none,0,by rw[h0]⟩
 ·exact⟨_,cap,rfl⟩
def pepV (e:QY) (vr:QV) (c:Int) (n:QY) (b:Bool) (m:QY) (d:Bool) (k:QY) (vl:QV):QV:=.agg #[.string e,vr,.int .u8 c,.string n,.bool b,.string m,.bool d,.string k,vl]
def VPost (s:QY) (B:Nat) (w:QW) (r:Ending) (w':QW):Prop:=
  ∃ e vr c n b m d k vl,r=.returned (.tuple #[pepV e vr c n b m d k vl,.int .i64 (verX s.data.toList).1])∧RdAt w' B s (verX s.data.toList).2∧Turn B w w'∧(∃ a i c,vr=.slice a i c)∧(∃ a i c,vl=.slice a i c) ∧
    ((verX s.data.toList).1=0→(e=qd (epoT s.data.toList (vp1 s.data.toList))∧c=preC s.data.toList (vp3 s.data.toList)∧n=qd (stN s.data.toList (vp3 s.data.toList) qbq)∧b=posB s.data.toList (vp4 s.data.toList)∧m=qd (posN s.data.toList (vp4 s.data.toList))∧d=(qbl s.data.toList (vp5 s.data.toList) qbk).isSome∧k=qd (stN s.data.toList (vp5 s.data.toList) qbk)) ∧
      w'.ownsRow (w.heap.size+1+1) 9 1 vr (vals s.data.toList (vrel s.data.toList)).length (vals s.data.toList (vrel s.data.toList))∧w'.ownsRow (w.heap.size+1+1) 9 1 vl (vals s.data.toList (qff s.data.toList)).length (vals s.data.toList (qff s.data.toList)))
theorem qzg {R:Ending→QW→Prop} (tmps:Array QV) (W:QW) (B:Nat) (x:Int) (e:QY) (vr:QV) (c:Int) (n:QY) (b:Bool) (m:QY) (d:Bool) (k:QY) (vl:QV) (op:∃ a i c,vr=.slice a i c) (ob:∃ a i c,vl=.slice a i c)
  (h2:tmps.getD 2 undef=.pointer (some ⟨B,0,none⟩)) (h3:tmps.getD 3 undef=.int .i64 x) (e1:W.heap[B]? = some (.cells #[.string e,vr,.int .u8 c,.string n,.bool b,.string m,.bool d,.string k,vl] 44 (0,0)))
  (hR:R (.returned (.tuple #[pepV e vr c n b m d k vl,.int .i64 x])) W) :
  bodyPost Tryz.prog Tryz.f96 R .ret { tmps:=tmps,defers:=[] } W:=by
 obtain⟨a1,i1,c1,rfl⟩:=op;obtain⟨a2,i2,c2,rfl⟩:=ob;obtain⟨r0,r1,r2,r3,r4,r5,r6,r7,r8⟩:=qdm e1;rw[Array.getD_eq_getD_getElem?]at h2 h3;refine⟨rfl,_,?_,hR⟩;simp[results,Tryz.results96,go_sem,h2,h3,r0,r1,r2,r3,r4,r5,r6,r7,r8]
 try rfl
theorem qdk {W:QW} {B:Nat} {z0 z1 z2 z3 z4 z5 z6 z7 z8:QV} (a b c d e f g h i:QV) (k:W.heap[B]? = some (.cells #[z0,z1,z2,z3,z4,z5,z6,z7,z8] 44 (0,0))) :
  ∃ W',W'=((((((((W.setCell ⟨B,0,none⟩ a).setCell ⟨B,1,none⟩ b).setCell ⟨B,2,none⟩ c).setCell ⟨B,3,none⟩ d).setCell ⟨B,4,none⟩ e).setCell ⟨B,5,none⟩ f).setCell ⟨B,6,none⟩ g).setCell ⟨B,7,none⟩ h).setCell ⟨B,8,none⟩ i ∧
   W'.heap[B]? = some (.cells #[a,b,c,d,e,f,g,h,i] 44 (0,0))∧Turn B W W':=by
 have k0:(W.setCell ⟨B,0,none⟩ a).heap[B]? = some (.cells #[a,z1,z2,z3,z4,z5,z6,z7,z8] 44 (0,0)):=qw 0 a k;have k1:((W.setCell ⟨B,0,none⟩ a).setCell ⟨B,1,none⟩ b).heap[B]? = some (.cells #[a,b,z2,z3,z4,z5,z6,z7,z8] 44 (0,0)):=qw 1 b k0;have k2:(((W.setCell ⟨B,0,none⟩ a).setCell ⟨B,1,none⟩ b).setCell ⟨B,2,none⟩ c).heap[B]? = some (.cells #[a,b,c,z3,z4,z5,z6,z7,z8] 44 (0,0)):=qw 2 c k1;have k3:((((W.setCell ⟨B,0,none⟩ a).setCell ⟨B,1,none⟩ b).setCell ⟨B,2,none⟩ c).setCell ⟨B,3,none⟩ d).heap[B]? = some (.cells #[a,b,c,d,z4,z5,z6,z7,z8] 44 (0,0)):=qw 3 d k2;have k4:(((((W.setCell ⟨B,0,none⟩ a).setCell ⟨B,1,none⟩ b).setCell ⟨B,2,none⟩ c).setCell ⟨B,3,none⟩ d).setCell ⟨B,4,none⟩ e).heap[B]? = some (.cells #[a,b,c,d,e,z5,z6,z7,z8] 44 (0,0)):=qw 4 e k3;have k5:((((((W.setCell ⟨B,0,none⟩ a).setCell ⟨B,1,none⟩ b).setCell ⟨B,2,none⟩ c).setCell ⟨B,3,none⟩ d).setCell ⟨B,4,none⟩ e).setCell ⟨B,5,none⟩ f).heap[B]? = some (.cells #[a,b,c,d,e,f,z6,z7,z8] 44 (0,0)):=qw 5 f k4;have k6:(((((((W.setCell ⟨B,0,none⟩ a).setCell ⟨B,1,none⟩ b).setCell ⟨B,2,none⟩ c).setCell ⟨B,3,none⟩ d).setCell ⟨B,4,none⟩ e).setCell ⟨B,5,none⟩ f).setCell ⟨B,6,none⟩ g).heap[B]? = some (.cells #[a,b,c,d,e,f,g,z7,z8] 44 (0,0)):=qw 6 g k5
 have k7:((((((((W.setCell ⟨B,0,none⟩ a).setCell ⟨B,1,none⟩ b).setCell ⟨B,2,none⟩ c).setCell ⟨B,3,none⟩ d).setCell ⟨B,4,none⟩ e).setCell ⟨B,5,none⟩ f).setCell ⟨B,6,none⟩ g).setCell ⟨B,7,none⟩ h).heap[B]? = some (.cells #[a,b,c,d,e,f,g,h,z8] 44 (0,0)):=qw 7 h k6;have k8:(((((((((W.setCell ⟨B,0,none⟩ a).setCell ⟨B,1,none⟩ b).setCell ⟨B,2,none⟩ c).setCell ⟨B,3,none⟩ d).setCell ⟨B,4,none⟩ e).setCell ⟨B,5,none⟩ f).setCell ⟨B,6,none⟩ g).setCell ⟨B,7,none⟩ h).setCell ⟨B,8,none⟩ i).heap[B]? = some (.cells #[a,b,c,d,e,f,g,h,i] 44 (0,0)):=qw 8 i k7;exact⟨_,rfl,k8,((((((((Turn.set B 0 W a).trans (Turn.set B 1 _ b)).trans (Turn.set B 2 _ c)).trans (Turn.set B 3 _ d)).trans (Turn.set B 4 _ e)).trans (Turn.set B 5 _ f)).trans (Turn.set B 6 _ g)).trans (Turn.set B 7 _ h)).trans (Turn.set B 8 _ i)⟩
theorem PV.put0 {B:Nat} {w W:QW} {s:QY} {a:Nat} {c0 c1 c2 c3 c4 c5 c6 c7 c8:QV} {vr vl:QV} {xs ys:List QV} (h:PV B w W s a #[c0,c1,c2,c3,c4,c5,c6,c7,c8] vr xs vl ys) (hB:B<w.heap.size) (u:QV):PV B w (W.setCell ⟨w.heap.size+1,0,none⟩ u) s a #[u,c1,c2,c3,c4,c5,c6,c7,c8] vr xs vl ys:=h.put hB 0 u
theorem PV.put1 {B:Nat} {w W:QW} {s:QY} {a:Nat} {c0 c1 c2 c3 c4 c5 c6 c7 c8:QV} {vr vl:QV} {xs ys:List QV} (h:PV B w W s a #[c0,c1,c2,c3,c4,c5,c6,c7,c8] vr xs vl ys) (hB:B<w.heap.size) (u:QV):PV B w (W.setCell ⟨w.heap.size+1,1,none⟩ u) s a #[c0,u,c2,c3,c4,c5,c6,c7,c8] vr xs vl ys:=h.put hB 1 u
theorem PV.put2 {B:Nat} {w W:QW} {s:QY} {a:Nat} {c0 c1 c2 c3 c4 c5 c6 c7 c8:QV} {vr vl:QV} {xs ys:List QV} (h:PV B w W s a #[c0,c1,c2,c3,c4,c5,c6,c7,c8] vr xs vl ys) (hB:B<w.heap.size) (u:QV):PV B w (W.setCell ⟨w.heap.size+1,2,none⟩ u) s a #[c0,c1,u,c3,c4,c5,c6,c7,c8] vr xs vl ys:=h.put hB 2 u
theorem PV.put3 {B:Nat} {w W:QW} {s:QY} {a:Nat} {c0 c1 c2 c3 c4 c5 c6 c7 c8:QV} {vr vl:QV} {xs ys:List QV} (h:PV B w W s a #[c0,c1,c2,c3,c4,c5,c6,c7,c8] vr xs vl ys) (hB:B<w.heap.size) (u:QV):PV B w (W.setCell ⟨w.heap.size+1,3,none⟩ u) s a #[c0,c1,c2,u,c4,c5,c6,c7,c8] vr xs vl ys:=h.put hB 3 u
theorem PV.put4 {B:Nat} {w W:QW} {s:QY} {a:Nat} {c0 c1 c2 c3 c4 c5 c6 c7 c8:QV} {vr vl:QV} {xs ys:List QV} (h:PV B w W s a #[c0,c1,c2,c3,c4,c5,c6,c7,c8] vr xs vl ys) (hB:B<w.heap.size) (u:QV):PV B w (W.setCell ⟨w.heap.size+1,4,none⟩ u) s a #[c0,c1,c2,c3,u,c5,c6,c7,c8] vr xs vl ys:=h.put hB 4 u
theorem PV.put5 {B:Nat} {w W:QW} {s:QY} {a:Nat} {c0 c1 c2 c3 c4 c5 c6 c7 c8:QV} {vr vl:QV} {xs ys:List QV} (h:PV B w W s a #[c0,c1,c2,c3,c4,c5,c6,c7,c8] vr xs vl ys) (hB:B<w.heap.size) (u:QV):PV B w (W.setCell ⟨w.heap.size+1,5,none⟩ u) s a #[c0,c1,c2,c3,c4,u,c6,c7,c8] vr xs vl ys:=h.put hB 5 u
theorem PV.put6 {B:Nat} {w W:QW} {s:QY} {a:Nat} {c0 c1 c2 c3 c4 c5 c6 c7 c8:QV} {vr vl:QV} {xs ys:List QV} (h:PV B w W s a #[c0,c1,c2,c3,c4,c5,c6,c7,c8] vr xs vl ys) (hB:B<w.heap.size) (u:QV):PV B w (W.setCell ⟨w.heap.size+1,6,none⟩ u) s a #[c0,c1,c2,c3,c4,c5,u,c7,c8] vr xs vl ys:=h.put hB 6 u
theorem PV.put7 {B:Nat} {w W:QW} {s:QY} {a:Nat} {c0 c1 c2 c3 c4 c5 c6 c7 c8:QV} {vr vl:QV} {xs ys:List QV} (h:PV B w W s a #[c0,c1,c2,c3,c4,c5,c6,c7,c8] vr xs vl ys) (hB:B<w.heap.size) (u:QV):PV B w (W.setCell ⟨w.heap.size+1,7,none⟩ u) s a #[c0,c1,c2,c3,c4,c5,c6,u,c8] vr xs vl ys:=h.put hB 7 u
theorem PV.put8 {B:Nat} {w W:QW} {s:QY} {a:Nat} {c0 c1 c2 c3 c4 c5 c6 c7 c8:QV} {vr vl:QV} {xs ys:List QV} (h:PV B w W s a #[c0,c1,c2,c3,c4,c5,c6,c7,c8] vr xs vl ys) (hB:B<w.heap.size) (u:QV):PV B w (W.setCell ⟨w.heap.size+1,8,none⟩ u) s a #[c0,c1,c2,c3,c4,c5,c6,c7,u] vr xs vl ys:=h.put hB 8 u
theorem PV.setRel {B:Nat} {w W:QW} {s:QY} {a b n:Nat} {cs:Array QV} {vr vl vr':QV} {xs ys xs':List QV} (h:PV B w W s a cs vr xs vl ys) (hn:n=xs'.length) (hr:W.ownsRow b 9 1 vr' n xs') (hb:w.heap.size+1+1≤b):PV B w W s a cs vr' xs' vl ys:=
 ⟨h.turn,h.res,h.rd,h.ver,hn▸qfk hr hb,h.loc⟩
theorem PV.setLoc {B:Nat} {w W:QW} {s:QY} {a b n:Nat} {cs:Array QV} {vr vl vl':QV} {xs ys ys':List QV} (h:PV B w W s a cs vr xs vl ys) (hn:n=ys'.length) (hr:W.ownsRow b 9 1 vl' n ys') (hb:w.heap.size+1+1≤b):PV B w W s a cs vr xs vl' ys':=
 ⟨h.turn,h.res,h.rd,h.ver,h.rel,hn▸qfk hr hb⟩
theorem PV.sized {B:Nat} {w W:QW} {s:QY} {a:Nat} {cs:Array QV} {vr vl:QV} {xs ys:List QV} (h:PV B w W s a cs vr xs vl ys):w.heap.size+1+1≤W.heap.size:=(qbsp.1 h.ver).1
theorem qzn {B:Nat} {w W:QW} {s:QY} {a:Nat} {cs:Array QV} {vr vl:QV} {xs ys:List QV} (h:PV B w W s a cs vr xs vl ys) (hB:B<w.heap.size) :
  Calls Tryz.prog 123 #[.pointer (some ⟨B,0,none⟩)] W.drew fun e w3=>e=.returned (.int .i64 (misL s.size a))∧PV B w w3 s a cs vr xs vl ys:=by
 have h1:PV B w W.drew s a cs vr xs vl ys:=h.drewN hB 1;refine(qblf B s a W.drew h1.rd).mono ?_;rintro e w3 ⟨rfl,n,rfl⟩;exact⟨rfl,h1.drewN hB n⟩
theorem PV.out {B:Nat} {w W W':QW} {s:QY} {a:Nat} {cs:Array QV} {vr vl:QV} {xs ys:List QV} (h:PV B w W s a cs vr xs vl ys) (hB:B<w.heap.size) (t:Turn w.heap.size W W') :
  Turn B w W'∧RdAt W' B s a∧W'.ownsRow (w.heap.size+1+1) 9 1 vr xs.length xs∧W'.ownsRow (w.heap.size+1+1) 9 1 vl ys.length ys:=by
 have hz:=h.sized;exact⟨⟨t.os.trans h.turn.os,t.tape.trans h.turn.tape,t.output.trans h.turn.output,Nat.le_trans h.turn.size t.size,fun k hk hn=>(t.block k (by omega) (by omega)).trans (h.turn.block k hk hn)⟩,(t.block B (by omega) (by omega)).trans h.rd,qbc h.rel t (by omega),qbc h.loc t (by omega)⟩
theorem qbhs (B:Nat) (s:QY) (w:QW) (h:RdAt w B s 0) (hs:s.size≤64) :
 Calls Tryz.prog 96 #[.pointer (some ⟨B,0,none⟩)] w (VPost s B w):=by
  have hBl:=h.lt;have HL:=qb (qg s);have l1:Hid (vp1 s.data.toList≤s.size):=by rw[←HL.out];exact(qpr _ 0 _ (by omega)).2
  have l2:Hid (vp2 s.data.toList≤s.size):=by rw[←HL.out];exact(qbll _ _ (by rw[HL.out];exact l1.out)).2
  have l3:Hid (vp3 s.data.toList≤s.size):=by rw[←HL.out];exact qkr _ _ _ _ (by rw[HL.out];exact l2.out)
  have l4:Hid (vp4 s.data.toList≤s.size):=by rw[←HL.out];exact(qnw _ _ _ (by rw[HL.out];exact l3.out)).2
  have l5:Hid (vp5 s.data.toList≤s.size):=by rw[←HL.out];exact(qbdc _ _ (by rw[HL.out];exact l4.out)).2
  have l6:Hid (vp6 s.data.toList≤s.size):=by rw[←HL.out];exact(qnw _ _ _ (by rw[HL.out];exact l5.out)).2
  have l7:Hid (vp7 s.data.toList≤s.size):=by rw[←HL.out];exact(qpr _ _ _ (by rw[HL.out];exact l6.out)).2
  have l8:Hid (vp8 s.data.toList≤s.size):=by rw[←HL.out];exact qkr _ _ _ _ (by rw[HL.out];exact l7.out)
  have C1:=qb (fun W h=>qbhd B s ⟨#[118]⟩ 0 W h (Nat.zero_le _) hs (by decide))
  have C2:=qb (fun W h=>qbpw B s (vp1 s.data.toList) W h l1.out hs);have C3:=qb (fun W h=>qbms B s ⟨#[46]⟩ (vp2 s.data.toList) 1 W h l2.out hs (by decide))
  have C4:=qb (fun W h=>pre_any B s (vp3 s.data.toList) W h l3.out hs);have C5:=qb (fun W h=>post_any B s (vp4 s.data.toList) W h l4.out hs);have C6:=qb (fun W h=>dev_any B s (vp5 s.data.toList) W h l5.out hs);have C7:=qb (fun W h=>qbhd B s ⟨#[43]⟩ (vp6 s.data.toList) W h l6.out hs (by decide))
  have C8:=qb (fun W h=>qbms B s ⟨#[45,95,46]⟩ (vp7 s.data.toList) 5 W h l7.out hs (by decide))
  have P0:Hid (PV B w ((w.alloc (.cells #[.string ⟨#[]⟩,.slice none 0 0,.int .u8 0,.string ⟨#[]⟩,.bool false,.string ⟨#[]⟩,.bool false,.string ⟨#[]⟩,.slice none 0 0] 44)).alloc (.cells #[.string ⟨#[]⟩,.slice none 0 0,.int .u8 0,.string ⟨#[]⟩,.bool false,.string ⟨#[]⟩,.bool false,.string ⟨#[]⟩,.slice none 0 0] 44)) s 0 #[.string ⟨#[]⟩,.slice none 0 0,.int .u8 0,.string ⟨#[]⟩,.bool false,.string ⟨#[]⟩,.bool false,.string ⟨#[]⟩,.slice none 0 0] (.slice none 0 0) [] (.slice none 0 0) []):=by
    have k0:=World.alloc_heap_new w (.cells #[.string ⟨#[]⟩,.slice none 0 0,.int .u8 0,.string ⟨#[]⟩,.bool false,.string ⟨#[]⟩,.bool false,.string ⟨#[]⟩,.slice none 0 0] 44);have k1:=World.alloc_heap_new (w.alloc (.cells #[.string ⟨#[]⟩,.slice none 0 0,.int .u8 0,.string ⟨#[]⟩,.bool false,.string ⟨#[]⟩,.bool false,.string ⟨#[]⟩,.slice none 0 0] 44)) (.cells #[.string ⟨#[]⟩,.slice none 0 0,.int .u8 0,.string ⟨#[]⟩,.bool false,.string ⟨#[]⟩,.bool false,.string ⟨#[]⟩,.slice none 0 0] 44);simp only[World.size_alloc]at k1;have bb:=(((Below.refl w.heap.size w).alloc (Nat.le_refl _) (.cells #[.string ⟨#[]⟩,.slice none 0 0,.int .u8 0,.string ⟨#[]⟩,.bool false,.string ⟨#[]⟩,.bool false,.string ⟨#[]⟩,.slice none 0 0] 44)).alloc (by simp) (.cells #[.string ⟨#[]⟩,.slice none 0 0,.int .u8 0,.string ⟨#[]⟩,.bool false,.string ⟨#[]⟩,.bool false,.string ⟨#[]⟩,.slice none 0 0] 44))
    exact⟨Turn.ofBelow bb,(Below.heap_alloc _ _ _ (by simp)).trans k0,(bb.block _ hBl).trans h,k1,World.ownsRow_nil _ _ _ _,World.ownsRow_nil _ _ _ _⟩
  clear h;go_enter Tryz.func96,Tryz.ntmps96
  (go_wp2_with fail);refine(C1.out _ P0.out.rd).mono ?_;rintro r W1 ⟨rfl,h1,t1⟩;have P1:=qb (P0.out.go hBl t1 (a':=vp1 s.data.toList) h1);clear h1 t1 P0;(go_wp2_with fail);refine(C2.out _ P1.out.rd).mono ?_;rintro r W2 ⟨rfl,h1,t1⟩;have P2:=qb (P1.out.go hBl t1 (a':=vp2 s.data.toList) h1);clear h1 t1 P1;obtain⟨q0,q1,q2,q3,q4,q5,q6,q7,q8⟩:=qdm P2.out.ver;have z0:=qf 0 P2.out.ver;(go_wp2_with fail);have P3:=qb (P2.out.put0 hBl (.string (qd (epoT s.data.toList (vp1 s.data.toList)))));refine(C3.out _ P3.out.rd).mono ?_;rintro r W3 ⟨vr,rfl,hown,h1,t1⟩;have hown1:W3.ownsRow (W2.setCell ⟨w.heap.size+1,0,none⟩ (.string (qd (epoT s.data.toList (vp1 s.data.toList))))).heap.size 9 1 vr (vrel s.data.toList).length (vals s.data.toList (vrel s.data.toList)):=hown;clear hown;have P4:=qb ((P3.out.go hBl t1 (a':=vp3 s.data.toList) h1).setRel (qql _ _).symm hown1 P3.out.sized);obtain⟨ao,cap,rfl⟩:=qbdv hown1;clear h1 t1 P2 P3 q0 q1 q2 q3 q4 q5 q6 q7 q8 z0 hown1;obtain⟨q0,q1,q2,q3,q4,q5,q6,q7,q8⟩:=qdm P4.out.ver;have z0:=qf 1 P4.out.ver
  by_cases hr:(vrel s.data.toList).length=0
  · have hx:Hid (verX s.data.toList=(misL s.size (vp3 s.data.toList),vp3 s.data.toList)):=by show _=_;unfold verX;rw[if_pos hr,HL.out]
    have hk:=qbmz hr;have HR:=qb hr;clear hr;generalize (vrel s.data.toList).length=NR at *;(go_wp2_with fail);have P5:=qb (P4.out.put1 hBl (.slice ao NR cap));generalize W3.setCell ⟨w.heap.size+1,1,none⟩ (.slice ao NR cap)=W4 at *;clear q0 q1 q2 q3 q4 q5 q6 q7 q8 z0 P4;obtain⟨q0,q1,q2,q3,q4,q5,q6,q7,q8⟩:=qdm P5.out.ver
    go_region_held3 (fun w'=>w'.cell? ⟨w.heap.size+1,0,none⟩=some (.string (qd (epoT s.data.toList (vp1 s.data.toList))))∧w'.cell? ⟨w.heap.size+1,1,none⟩=some (.slice ao NR cap)∧w'.cell? ⟨w.heap.size+1,2,none⟩=some (.int .u8 0)∧w'.cell? ⟨w.heap.size+1,3,none⟩=some (.string ⟨#[]⟩)∧w'.cell? ⟨w.heap.size+1,4,none⟩=some (.bool false)∧w'.cell? ⟨w.heap.size+1,5,none⟩=some (.string ⟨#[]⟩)∧w'.cell? ⟨w.heap.size+1,6,none⟩=some (.bool false)∧w'.cell? ⟨w.heap.size+1,7,none⟩=some (.string ⟨#[]⟩)∧w'.cell? ⟨w.heap.size+1,8,none⟩=some (.slice none 0 0))
      (go_keep)
      ((first
        | (go_at_call 123;refine(qzn P5.out hBl).mono ?_;rintro e w3 ⟨rfl,p6⟩;obtain⟨y0,y1,y2,y3,y4,y5,y6,y7,y8⟩:=qdm p6.ver;obtain⟨x0,x1,x2,x3,x4,x5,x6,x7,x8⟩:=qdm p6.res;have f0:=fun o=>qf o p6.res)
        | fail))
    obtain⟨W99,hW99,g99,t99⟩:=qdk (W:=w3) (.string (qd (epoT s.data.toList (vp1 s.data.toList)))) (.slice ao NR cap) (.int .u8 0) (.string ⟨#[]⟩) (.bool false) (.string ⟨#[]⟩) (.bool false) (.string ⟨#[]⟩) (.slice none 0 0) p6.res;rw[←hW99];(go_wp2_with fail);refine qzg _ _ w.heap.size _ _ _ _ _ _ _ _ _ _ ⟨_,_,_,rfl⟩ ⟨_,_,_,rfl⟩ rfl rfl g99 ?_;obtain⟨u1,u2,u3,u4⟩:=p6.out hBl t99;exact⟨_,_,_,_,_,_,_,_,_,by rw[hx.out],by rw[hx.out];exact u2,u1,⟨_,_,_,rfl⟩,⟨_,_,_,rfl⟩,fun h=>by rw[hx.out]at h;exact absurd h (qmt _ _)⟩
  · have hk := qbmk hr
    have HR:=qb hr;clear hr
    have hx0:Hid (∀ y,(vpl s.data.toList=true→(if (vloc s.data.toList).length=0 then (misL s.size (vp8 s.data.toList),vp8 s.data.toList) else if vp8 s.data.toList<s.size then (10,vp8 s.data.toList) else (0,vp8 s.data.toList))=y)→(vpl s.data.toList=false→(if vp7 s.data.toList<s.size then (10,vp7 s.data.toList) else (0,vp7 s.data.toList))=y)→verX s.data.toList=y):=by
      intro y h1 h2;unfold verX;rw[if_neg HR.out,HL.out];cases hv:vpl s.data.toList with
      | true=>rw[if_pos rfl];exact h1 hv
      | false=>rw[if_neg (by decide)];exact h2 hv
    generalize (vrel s.data.toList).length=NR at *;(go_wp2_with fail);have P5:=qb (P4.out.put1 hBl (.slice ao NR cap));clear q0 q1 q2 q3 q4 q5 q6 q7 q8 z0 P4;refine(C4.out _ P5.out.rd).mono ?_;rintro r W5 ⟨rfl,h1,t1⟩;have P7a:=qb (P5.out.go hBl t1 (a':=vp4 s.data.toList) h1);clear h1 t1 P5;obtain⟨q0,q1,q2,q3,q4,q5,q6,q7,q8⟩:=qdm P7a.out.ver;have zz:=fun o=>qf o P7a.out.ver;(go_wp2_with fail);have P7:=qb ((P7a.out.put2 hBl (.int .u8 (preC s.data.toList (vp3 s.data.toList)))).put3 hBl (.string (qd (stN s.data.toList (vp3 s.data.toList) qbq))));clear P7a;refine(C5.out _ P7.out.rd).mono ?_;rintro r W6 ⟨rfl,h1,t1⟩;have P8a:=qb (P7.out.go hBl t1 (a':=vp5 s.data.toList) h1);clear h1 t1 P7 q0 q1 q2 q3 q4 q5 q6 q7 q8 zz;obtain⟨q0,q1,q2,q3,q4,q5,q6,q7,q8⟩:=qdm P8a.out.ver;have zz:=fun o=>qf o P8a.out.ver;(go_wp2_with fail);have P8:=qb ((P8a.out.put4 hBl (.bool (posB s.data.toList (vp4 s.data.toList)))).put5 hBl (.string (qd (posN s.data.toList (vp4 s.data.toList)))));clear P8a;refine(C6.out _ P8.out.rd).mono ?_;rintro r W7 ⟨rfl,h1,t1⟩;have P9a:=qb (P8.out.go hBl t1 (a':=vp6 s.data.toList) h1);clear h1 t1 P8 q0 q1 q2 q3 q4 q5 q6 q7 q8 zz;obtain⟨q0,q1,q2,q3,q4,q5,q6,q7,q8⟩:=qdm P9a.out.ver;have zz:=fun o=>qf o P9a.out.ver;(go_wp2_with fail)
    have P9:=qb ((P9a.out.put6 hBl (.bool ((qbl s.data.toList (vp5 s.data.toList) qbk).isSome))).put7 hBl (.string (qd (stN s.data.toList (vp5 s.data.toList) qbk))));clear P9a;refine(C7.out _ P9.out.rd).mono ?_;rintro r W8 ⟨rfl,h1,t1⟩;have PA:=qb (P9.out.go hBl t1 (a':=vp7 s.data.toList) h1);clear h1 t1 P9 q0 q1 q2 q3 q4 q5 q6 q7 q8 zz;obtain⟨q0,q1,q2,q3,q4,q5,q6,q7,q8⟩:=qdm PA.out.ver;have zz:=fun o=>qf o PA.out.ver;cases hv:vpl s.data.toList with
    | true =>
      have hv1:pfxB (s.data.toList.drop (vp6 s.data.toList)) [43]=true:=hv;have HV:=qb hv;have HVL:Hid (qff s.data.toList=vloc s.data.toList):=by show _=_;unfold qff;rw[if_pos hv]
      clear hv;(go_wp2_with fail);refine(C8.out _ PA.out.rd).mono ?_;rintro r W9 ⟨vl,rfl,hown,h1,t1⟩;have hown1:W9.ownsRow W8.heap.size 9 1 vl (vloc s.data.toList).length (vals s.data.toList (vloc s.data.toList)):=hown;clear hown;have PB:=qb ((PA.out.go hBl t1 (a':=vp8 s.data.toList) h1).setLoc (qql _ _).symm hown1 PA.out.sized);obtain⟨al,cl,rfl⟩:=qbdv hown1;clear h1 t1 PA q0 q1 q2 q3 q4 q5 q6 q7 q8 zz hown1;obtain⟨q0,q1,q2,q3,q4,q5,q6,q7,q8⟩:=qdm PB.out.ver;have zz:=fun o=>qf o PB.out.ver
      by_cases hm:(vloc s.data.toList).length=0
      · have hx:Hid (verX s.data.toList=(misL s.size (vp8 s.data.toList),vp8 s.data.toList)):=hx0.out _ (fun _=>by rw[if_pos hm]) (fun h=>by rw[HV.out]at h;cases h)
        have hk2:=qbmz hm;clear hm hx0;generalize (vloc s.data.toList).length=NL at *;(go_wp2_with fail);have P5:=qb (PB.out.put8 hBl (.slice al NL cl));generalize W9.setCell ⟨w.heap.size+1,8,none⟩ (.slice al NL cl)=W10 at *;clear q0 q1 q2 q3 q4 q5 q6 q7 q8 zz PB;obtain⟨q0,q1,q2,q3,q4,q5,q6,q7,q8⟩:=qdm P5.out.ver
        go_region_held3 (fun w'=>w'.cell? ⟨w.heap.size+1,0,none⟩=some (.string (qd (epoT s.data.toList (vp1 s.data.toList))))∧w'.cell? ⟨w.heap.size+1,1,none⟩=some (.slice ao NR cap)∧w'.cell? ⟨w.heap.size+1,2,none⟩=some (.int .u8 (preC s.data.toList (vp3 s.data.toList)))∧w'.cell? ⟨w.heap.size+1,3,none⟩=some (.string (qd (stN s.data.toList (vp3 s.data.toList) qbq)))∧w'.cell? ⟨w.heap.size+1,4,none⟩=some (.bool (posB s.data.toList (vp4 s.data.toList)))∧w'.cell? ⟨w.heap.size+1,5,none⟩=some (.string (qd (posN s.data.toList (vp4 s.data.toList))))∧w'.cell? ⟨w.heap.size+1,6,none⟩=some (.bool ((qbl s.data.toList (vp5 s.data.toList) qbk).isSome))∧w'.cell? ⟨w.heap.size+1,7,none⟩=some (.string (qd (stN s.data.toList (vp5 s.data.toList) qbk)))∧w'.cell? ⟨w.heap.size+1,8,none⟩=some (.slice al NL cl))
          (go_keep)
          ((first
            | (go_at_call 123;refine(qzn P5.out hBl).mono ?_;rintro e w3 ⟨rfl,p6⟩;obtain⟨y0,y1,y2,y3,y4,y5,y6,y7,y8⟩:=qdm p6.ver;obtain⟨x0,x1,x2,x3,x4,x5,x6,x7,x8⟩:=qdm p6.res;have f0:=fun o=>qf o p6.res)
            | fail))
        obtain⟨W99,hW99,g99,t99⟩:=qdk (W:=w3) (.string (qd (epoT s.data.toList (vp1 s.data.toList)))) (.slice ao NR cap) (.int .u8 (preC s.data.toList (vp3 s.data.toList))) (.string (qd (stN s.data.toList (vp3 s.data.toList) qbq))) (.bool (posB s.data.toList (vp4 s.data.toList))) (.string (qd (posN s.data.toList (vp4 s.data.toList)))) (.bool ((qbl s.data.toList (vp5 s.data.toList) qbk).isSome)) (.string (qd (stN s.data.toList (vp5 s.data.toList) qbk))) (.slice al NL cl) p6.res;rw[←hW99];(go_wp2_with fail);refine qzg _ _ w.heap.size _ _ _ _ _ _ _ _ _ _ ⟨_,_,_,rfl⟩ ⟨_,_,_,rfl⟩ rfl rfl g99 ?_;obtain⟨u1,u2,u3,u4⟩:=p6.out hBl t99;exact⟨_,_,_,_,_,_,_,_,_,by rw[hx.out],by rw[hx.out];exact u2,u1,⟨_,_,_,rfl⟩,⟨_,_,_,rfl⟩,fun h=>by rw[hx.out]at h;exact absurd h (qmt _ _)⟩
      · have hx1:Hid (∀ y,(if vp8 s.data.toList<s.size then (10,vp8 s.data.toList) else (0,vp8 s.data.toList))=y→verX s.data.toList=y):=fun y hy=>hx0.out _ (fun _=>by rw[if_neg hm];exact hy) (fun h=>by rw[HV.out]at h;cases h)
        have hk2:=qbmk hm;clear hm hx0;generalize (vloc s.data.toList).length=NL at *;(go_wp2_with fail);have PC:=qb (PB.out.put8 hBl (.slice al NL cl));generalize W9.setCell ⟨w.heap.size+1,8,none⟩ (.slice al NL cl)=W10 at *;clear q0 q1 q2 q3 q4 q5 q6 q7 q8 zz PB;obtain⟨c0,c1,f1⟩:=PC.out.rd.seen;have PD:Hid (PV B w W10.drew s (vp8 s.data.toList) _ _ _ _ _):=qb (PC.out.drewN hBl 1)
        by_cases hl:vp8 s.data.toList<s.size
        · have hx:Hid (verX s.data.toList=(10,vp8 s.data.toList)):=hx1.out _ (by rw[if_pos hl])
          have hd:decide ((vp8 s.data.toList:Int)<(s.size:Int))=true:=by simp;omega
          have hd2:decide (vp8 s.data.toList<s.size)=true:=by simp;omega
          have hd3:((vp8 s.data.toList:Int)<(s.size:Int)):=by omega
          go_region_held3 (fun w'=>w'.cell? ⟨B,0,none⟩=some (.string s)∧w'.cell? ⟨B,1,none⟩=some (.int .i64 (vp8 s.data.toList:Int))) (go_keep) (fail)
          clear c0 c1 f1 PC;generalize W10.drew=WD at *;obtain⟨q0,q1,q2,q3,q4,q5,q6,q7,q8⟩:=qdm PD.out.ver;obtain⟨x0,x1,x2,x3,x4,x5,x6,x7,x8⟩:=qdm PD.out.res;have f0:=fun o=>qf o PD.out.res;(go_wp2_with fail);obtain⟨W99,hW99,g99,t99⟩:=qdk (W:=WD) (.string (qd (epoT s.data.toList (vp1 s.data.toList)))) (.slice ao NR cap) (.int .u8 (preC s.data.toList (vp3 s.data.toList))) (.string (qd (stN s.data.toList (vp3 s.data.toList) qbq))) (.bool (posB s.data.toList (vp4 s.data.toList))) (.string (qd (posN s.data.toList (vp4 s.data.toList)))) (.bool ((qbl s.data.toList (vp5 s.data.toList) qbk).isSome)) (.string (qd (stN s.data.toList (vp5 s.data.toList) qbk))) (.slice al NL cl) PD.out.res;rw[←hW99];refine qzg _ _ w.heap.size _ _ _ _ _ _ _ _ _ _ ⟨_,_,_,rfl⟩ ⟨_,_,_,rfl⟩ rfl rfl g99 ?_;obtain⟨u1,u2,u3,u4⟩:=PD.out.out hBl t99;exact⟨_,_,_,_,_,_,_,_,_,by rw[hx.out],by rw[hx.out];exact u2,u1,⟨_,_,_,rfl⟩,⟨_,_,_,rfl⟩,fun h=>by rw[hx.out]at h;exact absurd (show(10:Int)=0 from h) (by decide)⟩
        · have hx:Hid (verX s.data.toList=(0,vp8 s.data.toList)):=hx1.out _ (by rw[if_neg hl])
          have hd:decide ((vp8 s.data.toList:Int)<(s.size:Int))=false:=by simp;omega
          have hd2:decide (vp8 s.data.toList<s.size)=false:=by simp;omega
          have hd3:¬ ((vp8 s.data.toList:Int)<(s.size:Int)):=by omega
          go_region_held3 (fun w'=>w'.cell? ⟨B,0,none⟩=some (.string s)∧w'.cell? ⟨B,1,none⟩=some (.int .i64 (vp8 s.data.toList:Int))) (go_keep) (fail)
          clear c0 c1 f1 PC;generalize W10.drew=WD at *;obtain⟨q0,q1,q2,q3,q4,q5,q6,q7,q8⟩:=qdm PD.out.ver;obtain⟨x0,x1,x2,x3,x4,x5,x6,x7,x8⟩:=qdm PD.out.res;have f0:=fun o=>qf o PD.out.res;(go_wp2_with fail);obtain⟨W99,hW99,g99,t99⟩:=qdk (W:=WD) (.string (qd (epoT s.data.toList (vp1 s.data.toList)))) (.slice ao NR cap) (.int .u8 (preC s.data.toList (vp3 s.data.toList))) (.string (qd (stN s.data.toList (vp3 s.data.toList) qbq))) (.bool (posB s.data.toList (vp4 s.data.toList))) (.string (qd (posN s.data.toList (vp4 s.data.toList)))) (.bool ((qbl s.data.toList (vp5 s.data.toList) qbk).isSome)) (.string (qd (stN s.data.toList (vp5 s.data.toList) qbk))) (.slice al NL cl) PD.out.res;rw[←hW99];refine qzg _ _ w.heap.size _ _ _ _ _ _ _ _ _ _ ⟨_,_,_,rfl⟩ ⟨_,_,_,rfl⟩ rfl rfl g99 ?_;obtain⟨u1,u2,u3,u4⟩:=PD.out.out hBl t99;exact⟨_,_,_,_,_,_,_,_,_,by rw[hx.out],by rw[hx.out];exact u2,u1,⟨_,_,_,rfl⟩,⟨_,_,_,rfl⟩,fun _=>⟨⟨rfl,rfl,rfl,rfl,rfl,rfl,rfl⟩,u3,by rw[HVL.out];exact u4⟩⟩
    | false=>
      have hv1:pfxB (s.data.toList.drop (vp6 s.data.toList)) [43]=false:=hv;have HV:=qb hv;have HVL:Hid (qff s.data.toList=[]):=by show _=_;unfold qff;rw[hv];rfl
      have hx1:Hid (∀ y,(if vp7 s.data.toList<s.size then (10,vp7 s.data.toList) else (0,vp7 s.data.toList))=y→verX s.data.toList=y):=fun y hy=>hx0.out _ (fun h=>by rw[hv]at h;cases h) (fun _=>hy)
      clear hv hx0;(go_wp2_with fail);have PC:=PA;clear PA q0 q1 q2 q3 q4 q5 q6 q7 q8 zz;obtain⟨c0,c1,f1⟩:=PC.out.rd.seen;have PD:Hid (PV B w W8.drew s (vp7 s.data.toList) _ _ _ _ _):=qb (PC.out.drewN hBl 1)
      by_cases hl:vp7 s.data.toList<s.size
      · have hx:Hid (verX s.data.toList=(10,vp7 s.data.toList)):=hx1.out _ (by rw[if_pos hl])
        have hd:decide ((vp7 s.data.toList:Int)<(s.size:Int))=true:=by simp;omega
        have hd2:decide (vp7 s.data.toList<s.size)=true:=by simp;omega
        have hd3:((vp7 s.data.toList:Int)<(s.size:Int)):=by omega
        go_region_held3 (fun w'=>w'.cell? ⟨B,0,none⟩=some (.string s)∧w'.cell? ⟨B,1,none⟩=some (.int .i64 (vp7 s.data.toList:Int))) (go_keep) (fail)
        clear c0 c1 f1 PC;generalize W8.drew=WD at *;obtain⟨q0,q1,q2,q3,q4,q5,q6,q7,q8⟩:=qdm PD.out.ver;obtain⟨x0,x1,x2,x3,x4,x5,x6,x7,x8⟩:=qdm PD.out.res;have f0:=fun o=>qf o PD.out.res;(go_wp2_with fail);obtain⟨W99,hW99,g99,t99⟩:=qdk (W:=WD) (.string (qd (epoT s.data.toList (vp1 s.data.toList)))) (.slice ao NR cap) (.int .u8 (preC s.data.toList (vp3 s.data.toList))) (.string (qd (stN s.data.toList (vp3 s.data.toList) qbq))) (.bool (posB s.data.toList (vp4 s.data.toList))) (.string (qd (posN s.data.toList (vp4 s.data.toList)))) (.bool ((qbl s.data.toList (vp5 s.data.toList) qbk).isSome)) (.string (qd (stN s.data.toList (vp5 s.data.toList) qbk))) (.slice none 0 0) PD.out.res;rw[←hW99];refine qzg _ _ w.heap.size _ _ _ _ _ _ _ _ _ _ ⟨_,_,_,rfl⟩ ⟨_,_,_,rfl⟩ rfl rfl g99 ?_;obtain⟨u1,u2,u3,u4⟩:=PD.out.out hBl t99;exact⟨_,_,_,_,_,_,_,_,_,by rw[hx.out],by rw[hx.out];exact u2,u1,⟨_,_,_,rfl⟩,⟨_,_,_,rfl⟩,fun h=>by rw[hx.out]at h;exact absurd (show(10:Int)=0 from h) (by decide)⟩
      · have hx:Hid (verX s.data.toList=(0,vp7 s.data.toList)):=hx1.out _ (by rw[if_neg hl])
        have hd:decide ((vp7 s.data.toList:Int)<(s.size:Int))=false:=by simp;omega
        have hd2:decide (vp7 s.data.toList<s.size)=false:=by simp;omega
        have hd3:¬ ((vp7 s.data.toList:Int)<(s.size:Int)):=by omega
        go_region_held3 (fun w'=>w'.cell? ⟨B,0,none⟩=some (.string s)∧w'.cell? ⟨B,1,none⟩=some (.int .i64 (vp7 s.data.toList:Int))) (go_keep) (fail)
        clear c0 c1 f1 PC;generalize W8.drew=WD at *;obtain⟨q0,q1,q2,q3,q4,q5,q6,q7,q8⟩:=qdm PD.out.ver;obtain⟨x0,x1,x2,x3,x4,x5,x6,x7,x8⟩:=qdm PD.out.res;have f0:=fun o=>qf o PD.out.res;(go_wp2_with fail);obtain⟨W99,hW99,g99,t99⟩:=qdk (W:=WD) (.string (qd (epoT s.data.toList (vp1 s.data.toList)))) (.slice ao NR cap) (.int .u8 (preC s.data.toList (vp3 s.data.toList))) (.string (qd (stN s.data.toList (vp3 s.data.toList) qbq))) (.bool (posB s.data.toList (vp4 s.data.toList))) (.string (qd (posN s.data.toList (vp4 s.data.toList)))) (.bool ((qbl s.data.toList (vp5 s.data.toList) qbk).isSome)) (.string (qd (stN s.data.toList (vp5 s.data.toList) qbk))) (.slice none 0 0) PD.out.res;rw[←hW99];refine qzg _ _ w.heap.size _ _ _ _ _ _ _ _ _ _ ⟨_,_,_,rfl⟩ ⟨_,_,_,rfl⟩ rfl rfl g99 ?_;obtain⟨u1,u2,u3,u4⟩:=PD.out.out hBl t99;exact⟨_,_,_,_,_,_,_,_,_,by rw[hx.out],by rw[hx.out];exact u2,u1,⟨_,_,_,rfl⟩,⟨_,_,_,rfl⟩,fun _=>⟨⟨rfl,rfl,rfl,rfl,rfl,rfl,rfl⟩,u3,by rw[HVL.out];exact u4⟩⟩
open Below renaming heap_alloc → qbtj, heap_setCell → qbth
open World renaming alloc_heap_new → qbsr
set_option maxHeartbeats 4000000
set_option maxRecDepth 100000
def qk (l:QB):QB:=l.map lowC
structure PepF (n₀:Nat) (W:World) (v:Value) (u:QB):Prop where
 ex:∃ vr vl,v=pepV (qd (epoT u (vp1 u))) vr (preC u (vp3 u)) (qd (stN u (vp3 u) qbq)) (posB u (vp4 u)) (qd (posN u (vp4 u))) (qbl u (vp5 u) qbk).isSome (qd (stN u (vp5 u) qbk)) vl ∧
  W.ownsRow n₀ 9 1 vr (vals u (vrel u)).length (vals u (vrel u))∧W.ownsRow n₀ 9 1 vl (vals u (qff u)).length (vals u (qff u))
def qgc (l:QB) (w:World) (r:Ending) (w':World):Prop:=
 Below w.heap.size w w' ∧
  if 64<l.length then r=.returned (.tuple #[.agg pepZ,.agg #[.int .i64 12,.int .i64 64]])
  else if (verX (qk l)).1=0 then ∃ v,r=.returned (.tuple #[v,.agg #[.int .i64 0,.int .i64 0]])∧PepF w.heap.size w' v (qk l)
  else r=.returned (.tuple #[.agg pepZ,.agg #[.int .i64 (verX (qk l)).1,.int .i64 ((verX (qk l)).2:Int)]])
theorem fin7 {R:Ending→World→Prop} (tmps:Array Value) (W:World) (B C:Nat) (x y:Int) (e:QY) (vr:Value) (c:Int) (n:QY) (b:Bool) (m:QY) (d:Bool) (k:QY) (vl:Value) (op:∃ a i c,vr=.slice a i c) (ob:∃ a i c,vl=.slice a i c)
  (h2:tmps.getD 2 undef=.pointer (some ⟨B,0,none⟩)) (h3:tmps.getD 3 undef=.pointer (some ⟨C,0,none⟩)) (e1:W.heap[B]? = some (.cells #[.string e,vr,.int .u8 c,.string n,.bool b,.string m,.bool d,.string k,vl] 44 (0,0))) (e2:W.heap[C]? = some (.cells #[.int .i64 x,.int .i64 y] 25 (0,0)))
  (hR:R (.returned (.tuple #[pepV e vr c n b m d k vl,.agg #[.int .i64 x,.int .i64 y]])) W) :
  bodyPost Tryz.prog Tryz.f67 R .ret { tmps:=tmps,defers:=[] } W:=by
 obtain⟨a1,i1,c1,rfl⟩:=op;obtain⟨a2,i2,c2,rfl⟩:=ob;obtain⟨r0,r1,r2,r3,r4,r5,r6,r7,r8⟩:=qdm e1;have s0:=qc 0 e2 rfl;have s1:=qc 1 e2 rfl;rw[Array.getD_eq_getD_getElem?]at h2 h3;refine⟨rfl,_,?_,hR⟩;simp[results,Tryz.results67,go_sem,h2,h3,r0,r1,r2,r3,r4,r5,r6,r7,r8,s0,s1]
 try rfl
theorem qlq (l:QB):(qk l).length=l.length:=by simp[qk]
theorem qrc (s:QY) (w:World) (hs:s.size≤maxLen):Calls Tryz.prog 67 #[.string s] w (qgc s.data.toList w):=by
 obtain⟨W0,hW0⟩:∃ W0,W0=(w.alloc (.cells #[.string ⟨#[]⟩,.slice none 0 0,.int .u8 0,.string ⟨#[]⟩,.bool false,.string ⟨#[]⟩,.bool false,.string ⟨#[]⟩,.slice none 0 0] 44)).alloc (.cells #[.int .i64 0,.int .i64 0] 25):=⟨_,rfl⟩;have k0:=qbsr w (.cells #[.string ⟨#[]⟩,.slice none 0 0,.int .u8 0,.string ⟨#[]⟩,.bool false,.string ⟨#[]⟩,.bool false,.string ⟨#[]⟩,.slice none 0 0] 44);have k1:=qbsr (w.alloc (.cells #[.string ⟨#[]⟩,.slice none 0 0,.int .u8 0,.string ⟨#[]⟩,.bool false,.string ⟨#[]⟩,.bool false,.string ⟨#[]⟩,.slice none 0 0] 44)) (.cells #[.int .i64 0,.int .i64 0] 25);simp only[World.size_alloc]at k1;have E0:Hid (W0.heap[w.heap.size]? = some (.cells #[.string ⟨#[]⟩,.slice none 0 0,.int .u8 0,.string ⟨#[]⟩,.bool false,.string ⟨#[]⟩,.bool false,.string ⟨#[]⟩,.slice none 0 0] 44 (0,0))):=by rw[hW0];exact(qbtj _ _ _ (by simp)).trans k0
 have E1:Hid (W0.heap[w.heap.size+1]? = some (.cells #[.int .i64 0,.int .i64 0] 25 (0,0))):=by rw[hW0];exact k1
 have B0:Hid (Below w.heap.size w W0):=by rw[hW0];exact((Below.refl w.heap.size w).alloc (Nat.le_refl _) _).alloc (by simp) _
 clear k0 k1;have HL:=qb (qg s)
 by_cases hl:64<s.size
 ·have hd:decide ((64:Int)<(s.size:Int))=true:=by simp;omega
  have hd3:(64:Int)<(s.size:Int):=by omega
  go_enter Tryz.func67,Tryz.ntmps67
  (go_wp2_with fail);have j0:=qbsr w (.cells #[.string ⟨#[]⟩,.slice none 0 0,.int .u8 0,.string ⟨#[]⟩,.bool false,.string ⟨#[]⟩,.bool false,.string ⟨#[]⟩,.slice none 0 0] 44);have j1:=qbsr (w.alloc (.cells #[.string ⟨#[]⟩,.slice none 0 0,.int .u8 0,.string ⟨#[]⟩,.bool false,.string ⟨#[]⟩,.bool false,.string ⟨#[]⟩,.slice none 0 0] 44)) (.cells #[.int .i64 12,.int .i64 64] 25);simp only[World.size_alloc]at j1;refine fin7 _ _ w.heap.size (w.heap.size+1) 12 64 ⟨#[]⟩ (.slice none 0 0) 0 ⟨#[]⟩ false ⟨#[]⟩ false ⟨#[]⟩ (.slice none 0 0) ⟨_,_,_,rfl⟩ ⟨_,_,_,rfl⟩ rfl rfl ((qbtj _ _ _ (by simp)).trans j0) j1 ?_
  refine⟨((Below.refl w.heap.size w).alloc (Nat.le_refl _) _).alloc (by simp) _,?_⟩
  rw[if_pos (by rw[HL.out];exact hl)]
  rfl
 ·have hd:decide ((64:Int)<(s.size:Int))=false:=by simp;omega
  have hd3:¬ (64:Int)<(s.size:Int):=by omega
  have C1:=qb (fun W=>qnb s W hs);obtain⟨u,hu⟩:∃ u,u=qd (s.data.toList.map lowC):=⟨_,rfl⟩;rw[←hu]at C1;have HU:Hid (u.data.toList=qk s.data.toList):=by show _=_;rw[hu,qj];rfl
  have hus:u.size≤64:=by have:=qg u;rw[HU.out,qlq,HL.out]at this;omega
  have NL64:Hid (¬ 64<s.data.toList.length):=by show ¬ _;rw[HL.out];exact hl
  clear hu;go_enter Tryz.func67,Tryz.ntmps67
  (go_wp2_with fail);rw[←hW0];refine(C1.out W0).mono ?_;rintro r W1 ⟨rfl,b1⟩;have F0:=qb ((b1.block _ (qbsp.1 E0.out).1).trans E0.out);have F1:=qb ((b1.block _ (qbsp.1 E1.out).1).trans E1.out);have B1:=qb (B0.out.trans (b1.mono B0.out.size));clear b1 E0 E1 B0 hW0;(go_wp2_with fail);have hn0:w.heap.size+1+1≤W1.heap.size:=(qbsp.1 F1.out).1;have RD:RdAt (W1.alloc (.cells #[.string u,.int .i64 0] 122)) W1.heap.size u 0:=qbsr W1 _;refine(qbhs W1.heap.size u _ RD hus).mono ?_;rintro r W2 ⟨e,vr,c,n,b,m,d,k,vl,rfl,hrd,ht,⟨a1,i1,c1,rfl⟩,⟨a2,i2,c2,rfl⟩,hok⟩;have hz2:W1.heap.size<W2.heap.size:=by have:=ht.size;simp at this;omega
  have G0:=qb ((ht.block w.heap.size (by simp;omega) (by omega)).trans ((qbtj _ _ _ (by omega)).trans F0.out))
  have G1:=qb ((ht.block (w.heap.size+1) (by simp;omega) (by omega)).trans ((qbtj _ _ _ (by omega)).trans F1.out))
  have B2:Hid (Below w.heap.size w W2):=B1.out.trans (((Below.refl w.heap.size W1).alloc (by omega) _).trans (ht.below (by omega) (by simp;omega)))
  have OK:=qb hok;have hsz:W1.heap.size+1=(W1.alloc (.cells #[.string u,.int .i64 0] 122)).heap.size:=by simp
  rw [←hsz]at OK;rw[HU.out]at OK hrd;rw[HU.out];have PP:Hid (∀ r w',Below w.heap.size w w'→(((verX (qk s.data.toList)).1=0→∃ v,r=.returned (.tuple #[v,.agg #[.int .i64 0,.int .i64 0]])∧PepF w.heap.size w' v (qk s.data.toList))∧(¬ (verX (qk s.data.toList)).1=0→r=.returned (.tuple #[.agg pepZ,.agg #[.int .i64 (verX (qk s.data.toList)).1,.int .i64 ((verX (qk s.data.toList)).2:Int)]])))→qgc s.data.toList w r w'):=by
   intro r w' hb h;refine⟨hb,?_⟩;rw[if_neg NL64.out]
   by_cases hx:(verX (qk s.data.toList)).1=0
   ·rw[if_pos hx];exact h.1 hx
   ·rw[if_neg hx];exact h.2 hx
  clear RD ht hok F0 F1 B1 hsz;generalize (verX (qk s.data.toList)).1=X at *;generalize (verX (qk s.data.toList)).2=Y at *;unfold pepV;have v0:∀ o:Obj,(W2.alloc o).heap[w.heap.size]? = some (.cells #[.string ⟨#[]⟩,.slice none 0 0,.int .u8 0,.string ⟨#[]⟩,.bool false,.string ⟨#[]⟩,.bool false,.string ⟨#[]⟩,.slice none 0 0] 44 (0,0)):=fun o=>(qbtj _ _ _ (by omega)).trans G0.out
  have v1:∀ o:Obj,(W2.alloc o).heap[w.heap.size+1]? = some (.cells #[.int .i64 0,.int .i64 0] 25 (0,0)):=fun o=>(qbtj _ _ _ (by omega)).trans G1.out
  have v2:∀ o:Obj,RdAt (W2.alloc o) W1.heap.size u Y:=fun o=>(qbtj _ _ _ (by omega)).trans hrd
  have v3:∀ o:Obj,Below w.heap.size w (W2.alloc o):=fun o=>B2.out.trans ((Below.refl _ _).alloc (by omega) o)
  have V0:=qb v0;have V1:=qb v1;have V2:=qb v2;have V3:=qb v3;have V4:Hid (∀ cs:Array Value,(W2.alloc (.cells cs 44)).heap[W2.heap.size]? = some (.cells cs 44 (0,0))):=fun cs=>qbsr W2 _;clear v0 v1 v2 v3
  by_cases hx:X=0
  ·have hxb:(X==0)=true:=by simp[hx]
   have HX:=qb hx;clear hx;have y0:=fun (o:Obj) (i:Nat)=>qf i (V0.out o);have y1:=fun (o:Obj) (i:Nat)=>qf i (V1.out o);have x0:=fun (o:Obj)=>qdm (V0.out o);have x1:=fun (o:Obj)=>qc 0 (V1.out o) rfl;have x2:=fun (o:Obj)=>qc 1 (V1.out o) rfl;(go_wp2_with fail);obtain⟨⟨he,hc,hn,hb,hm,hd',hk⟩,o1,o2⟩:=OK.out HX.out;obtain⟨W99,hW99,g99,t99⟩:=qdk (W:=W2.alloc (.cells #[.string e,.slice a1 i1 c1,.int .u8 c,.string n,.bool b,.string m,.bool d,.string k,.slice a2 i2 c2] 44)) (.string e) (.slice a1 i1 c1) (.int .u8 c) (.string n) (.bool b) (.string m) (.bool d) (.string k) (.slice a2 i2 c2) (V0.out _);rw[←hW99];have q1:=(t99.block (w.heap.size+1) (by simp;omega) (by omega)).trans (V1.out _)
   have r1:=qbc (o1.alloc (.cells #[.string e,.slice a1 i1 c1,.int .u8 c,.string n,.bool b,.string m,.bool d,.string k,.slice a2 i2 c2] 44)) t99 (by omega)
   have r2:=qbc (o2.alloc (.cells #[.string e,.slice a1 i1 c1,.int .u8 c,.string n,.bool b,.string m,.bool d,.string k,.slice a2 i2 c2] 44)) t99 (by omega)
   have b3:Below w.heap.size w W99:=(V3.out _).trans (t99.below (Nat.le_refl _) (by simp;omega))
   refine fin7 _ _ w.heap.size (w.heap.size+1) 0 0 e (.slice a1 i1 c1) c n b m d k (.slice a2 i2 c2) ⟨_,_,_,rfl⟩ ⟨_,_,_,rfl⟩ rfl rfl ((qbth _ _ _ _ (by simp only;omega)).trans ((qbth _ _ _ _ (by simp only;omega)).trans g99)) (qw 1 _ (qw 0 _ q1)) ?_
   refine PP.out _ _ ((b3.setCell (p:=⟨w.heap.size+1,0,none⟩) (by simp only;omega) _).setCell (p:=⟨w.heap.size+1,1,none⟩) (by simp only;omega) _) ⟨fun _=>⟨_,rfl,⟨.slice a1 i1 c1,.slice a2 i2 c2,?_,?_,?_⟩⟩,fun h=>absurd HX.out h⟩
   ·rw[he,hc,hn,hb,hm,hd',hk]
   ·exact qfk (ownsRow_setCell_below (ownsRow_setCell_below r1 (a:=⟨w.heap.size+1,0,none⟩) (by simp only;omega) _) (a:=⟨w.heap.size+1,1,none⟩) (by simp only;omega) _) (by omega)
   ·exact qfk (ownsRow_setCell_below (ownsRow_setCell_below r2 (a:=⟨w.heap.size+1,0,none⟩) (by simp only;omega) _) (a:=⟨w.heap.size+1,1,none⟩) (by simp only;omega) _) (by omega)
  ·have hxb:(X==0)=false:=by simp[hx]
   have HX:=qb hx;clear hx;(go_wp2_with fail);have T0:=V0.out (.cells #[.string e,.slice a1 i1 c1,.int .u8 c,.string n,.bool b,.string m,.bool d,.string k,.slice a2 i2 c2] 44);have T1:=V1.out (.cells #[.string e,.slice a1 i1 c1,.int .u8 c,.string n,.bool b,.string m,.bool d,.string k,.slice a2 i2 c2] 44);have T2:=V2.out (.cells #[.string e,.slice a1 i1 c1,.int .u8 c,.string n,.bool b,.string m,.bool d,.string k,.slice a2 i2 c2] 44);have T3:=V3.out (.cells #[.string e,.slice a1 i1 c1,.int .u8 c,.string n,.bool b,.string m,.bool d,.string k,.slice a2 i2 c2] 44);clear V0 V1 V2 V3 V4;have hw2:W2.heap.size<(W2.alloc (.cells #[.string e,.slice a1 i1 c1,.int .u8 c,.string n,.bool b,.string m,.bool d,.string k,.slice a2 i2 c2] 44)).heap.size:=by simp
   generalize W2.alloc (.cells #[.string e,.slice a1 i1 c1,.int .u8 c,.string n,.bool b,.string m,.bool d,.string k,.slice a2 i2 c2] 44)=W3 at *;have TT0:=qb T0;have TT1:=qb T1;have TT2:=qb T2;have TT3:=qb T3;obtain⟨x0,x1,x2,x3,x4,x5,x6,x7,x8⟩:=qdm T0;have y0:=fun o=>qf o T0;have y1:=fun o=>qf o T1;have x9:=qc 0 T1 rfl;have x10:=qc 1 T1 rfl;obtain⟨c0,c1,f1⟩:=T2.seen;have n1:W1.heap.size≠w.heap.size:=by omega
   have n2:w.heap.size≠W1.heap.size:=by omega
   have n3:W1.heap.size≠w.heap.size+1:=by omega
   have n4:w.heap.size+1≠W1.heap.size:=by omega
   clear T0 T1 T2 T3 hrd;go_region_held3 (fun w'=>w'.cell? ⟨W1.heap.size,1,none⟩=some (.int .i64 (Y:Int))) (go_keep) (fail)
   (go_wp2_with fail);obtain⟨W99,hW99,g99,t99⟩:=qdk (W:=W3) (.string ⟨#[]⟩) (.slice none 0 0) (.int .u8 0) (.string ⟨#[]⟩) (.bool false) (.string ⟨#[]⟩) (.bool false) (.string ⟨#[]⟩) (.slice none 0 0) TT0.out;rw[←hW99];have hz3:=(qbsp.1 TT1.out).1;have q1:=(t99.block (w.heap.size+1) hz3 (by omega)).trans TT1.out
   have b3:Below w.heap.size w W99:=TT3.out.trans (t99.below (Nat.le_refl _) (by omega))
   refine fin7 _ _ w.heap.size (w.heap.size+1) X (Y:Int) ⟨#[]⟩ (.slice none 0 0) 0 ⟨#[]⟩ false ⟨#[]⟩ false ⟨#[]⟩ (.slice none 0 0) ⟨_,_,_,rfl⟩ ⟨_,_,_,rfl⟩ rfl rfl ((qbth _ _ _ _ (by simp only;omega)).trans ((qbth _ _ _ _ (by simp only;omega)).trans g99)) (qw 1 _ (qw 0 _ q1)) ?_
   exact PP.out _ _ ((b3.setCell (p:=⟨w.heap.size+1,0,none⟩) (by simp only;omega) _).setCell (p:=⟨w.heap.size+1,1,none⟩) (by simp only;omega) _).drew ⟨fun h=>absurd h HX.out,fun _=>rfl⟩
end Go.Proofs.YtabmfdedbpmfmaaGreat
