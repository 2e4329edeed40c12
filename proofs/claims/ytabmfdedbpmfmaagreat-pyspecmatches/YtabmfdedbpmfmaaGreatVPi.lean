/- Walks: a version. -/
import Derived.Test.YtabmfdedbpmfmaaGreatVPh
namespace Go.Proofs.YtabmfdedbpmfmaaGreat
open Go.RowKit Go.Shelf
open _root_.Array renaming getElem?_eq_some_iff → qbth
open Go renaming World → QW, Value → QV
set_option linter.unusedVariables false
set_option maxHeartbeats 4000000
set_option maxRecDepth 100000
def vp1 (l:QB):Nat:=qmj l 0 [118]
def vp2 (l:QB):Nat:=epoP l (vp1 l)
def vrel (l:QB):List (Nat×Nat):=qbf l 1 [46] (vp2 l)
def vp3 (l:QB):Nat:=qfk (vp2 l) (vrel l)
def vp4 (l:QB):Nat:=stP l (vp3 l) qbp
def vp5 (l:QB):Nat:=posP l (vp4 l)
def vp6 (l:QB):Nat:=stP l (vp5 l) qbk
def vp7 (l:QB):Nat:=qmj l (vp6 l) [43]
def vpl (l:QB):Bool:=pfxB (l.drop (vp6 l)) [43]
def vloc (l:QB):List (Nat×Nat):=qbf l 5 [45,95,46] (vp7 l)
def vp8 (l:QB):Nat:=qfk (vp7 l) (vloc l)
def qfb (l:QB):List (Nat×Nat):=if vpl l then vloc l else []
def verX (l:QB):Int×Nat:=
 if (vrel l).length=0 then (misL l.length (vp3 l),vp3 l) else
 if vpl l then (if (vloc l).length=0 then (misL l.length (vp8 l),vp8 l) else if vp8 l<l.length then (10,vp8 l) else (0,vp8 l)) else
 if vp7 l<l.length then (10,vp7 l) else (0,vp7 l)
theorem runs_le (l:QB) (k:Int) (seps:QB):∀ (n a:Nat),l.length-a=n→∀ x∈qbf l k seps a,a≤x.1∧x.1≤x.2∧x.2≤l.length:=by
 intro n
 induction n using Nat.strongRecOn with
 | _ n ih=>
  intro a hn x hx
  by_cases h0:qn k (l.drop a)=0
  ·rw[qgq l k seps a h0]at hx;cases hx
  ·have hle:=qjg k (l.drop a);rw[List.length_drop]at hle
   by_cases h:∃ c,l[a+qn k (l.drop a)]? = some c∧seps.contains c=true
   ·obtain ⟨c,hc,hs⟩:=h;have hlt:=(List.getElem?_eq_some_iff.1 hc).1;rw[qhl l k seps a _ rfl (by omega) c hc hs]at hx
    rcases List.mem_cons.1 hx with rfl|hx
    ·simp only;omega
    ·have:=ih _ (by omega) (a+qn k (l.drop a)+1) rfl x hx
     omega
   ·rw [qkq l k seps a _ rfl (by omega) (fun c hc=>by
     cases hs:seps.contains c with
     | false=>rfl
     | true=>exact absurd ⟨c,hc,hs⟩ h)]at hx
    rw[List.mem_singleton.1 hx];simp only;omega
theorem qkw (l:QB) (k:Int) (seps:QB) (a:Nat) (ha:a≤l.length):qfk a (qbf l k seps a)≤l.length:=by
 unfold qfk;cases h:(qbf l k seps a).getLast? with
 | none=>exact ha
 | some x=>exact(runs_le l k seps _ a rfl x (List.mem_of_getLast? h)).2.2
def pepZ:Array QV:=#[.string ⟨#[]⟩,.slice none 0 0,.int .u8 0,.string ⟨#[]⟩,.bool false,.string ⟨#[]⟩,.bool false,.string ⟨#[]⟩,.slice none 0 0]
theorem qdh {W:QW} {B:Nat} {a b c d e f g h i:QV} (k:W.heap[B]? = some (.cells #[a,b,c,d,e,f,g,h,i] 44 (0,0))) :
  W.cell? ⟨B,0,none⟩=some a∧W.cell? ⟨B,1,none⟩=some b∧W.cell? ⟨B,2,none⟩=some c∧W.cell? ⟨B,3,none⟩=some d∧W.cell? ⟨B,4,none⟩=some e∧W.cell? ⟨B,5,none⟩=some f∧W.cell? ⟨B,6,none⟩=some g∧W.cell? ⟨B,7,none⟩=some h∧W.cell? ⟨B,8,none⟩=some i:=
 ⟨qc 0 k rfl,qc 1 k rfl,qc 2 k rfl,qc 3 k rfl,qc 4 k rfl,qc 5 k rfl,qc 6 k rfl,qc 7 k rfl,qc 8 k rfl⟩
structure PV (B:Nat) (w W:QW) (s:QY) (a:Nat) (cs:Array QV) (vr:QV) (xs:List QV) (vl:QV) (ys:List QV):Prop where
 turn:Turn B w W
 res:W.heap[w.heap.size]? = some (.cells #[.string ⟨#[]⟩,.slice none 0 0,.int .u8 0,.string ⟨#[]⟩,.bool false,.string ⟨#[]⟩,.bool false,.string ⟨#[]⟩,.slice none 0 0] 44 (0,0))
 rd:RdAt W B s a
 ver:W.heap[w.heap.size+1]? = some (.cells cs 44 (0,0))
 rel:W.ownsRow (w.heap.size+1+1) 9 1 vr xs.length xs
 loc:W.ownsRow (w.heap.size+1+1) 9 1 vl ys.length ys
theorem PV.go {B:Nat} {w W W':QW} {s:QY} {a a':Nat} {cs:Array QV} {vr vl:QV} {xs ys:List QV} (h:PV B w W s a cs vr xs vl ys) (hB:B<w.heap.size) (t:Turn B W W') (r:RdAt W' B s a'):PV B w W' s a' cs vr xs vl ys:=by
 have h1:=(qbth.1 h.res).1;have h2:=(qbth.1 h.ver).1;exact⟨h.turn.trans t,(t.block _ h1 (by omega)).trans h.res,r,(t.block _ h2 (by omega)).trans h.ver,qbc h.rel t (by omega),qbc h.loc t (by omega)⟩
theorem PV.put {B:Nat} {w W:QW} {s:QY} {a:Nat} {cs:Array QV} {vr vl:QV} {xs ys:List QV} (h:PV B w W s a cs vr xs vl ys) (hB:B<w.heap.size) (o:Nat) (u:QV):PV B w (W.setCell ⟨w.heap.size+1,o,none⟩ u) s a (cs.setIfInBounds o u) vr xs vl ys:=by
 have b1:Below w.heap.size W (W.setCell ⟨w.heap.size+1,o,none⟩ u):=(Below.refl _ _).setCell (p:=⟨w.heap.size+1,o,none⟩) (by simp only;omega) u
 exact ⟨⟨b1.os.trans h.turn.os,b1.tape.trans h.turn.tape,b1.output.trans h.turn.output,Nat.le_trans h.turn.size b1.size,fun k hk hn=>(b1.block k hk).trans (h.turn.block k hk hn)⟩,
  (Below.heap_setCell _ _ _ _ (by simp only;omega)).trans h.res,(Below.heap_setCell _ _ _ _ (by simp only;omega)).trans h.rd,qw o u h.ver,
  ownsRow_setCell_below h.rel (a:=⟨w.heap.size+1,o,none⟩) (by simp only;omega) u,ownsRow_setCell_below h.loc (a:=⟨w.heap.size+1,o,none⟩) (by simp only;omega) u⟩
theorem PV.drewN {B:Nat} {w W:QW} {s:QY} {a:Nat} {cs:Array QV} {vr vl:QV} {xs ys:List QV} (h:PV B w W s a cs vr xs vl ys) (hB:B<w.heap.size) (n:Nat):PV B w (W.drewN n) s a cs vr xs vl ys:=
 h.go hB (Turn.drewN _ _ n) (by unfold RdAt;rw[qbx];exact h.rd)
theorem qbft {W:QW} {base:Nat} {v:QV} {n:Nat} {xs:List QV} (h:W.ownsRow base 9 1 v n xs):∃ ao cap,v=.slice ao n cap:=by
 rcases h.2 with ⟨rfl,h0⟩|⟨g,cap,_,rfl,_⟩
 ·exact⟨none,0,by rw[h0]⟩
 ·exact⟨_,cap,rfl⟩
def pepV (e:QY) (vr:QV) (c:Int) (n:QY) (b:Bool) (m:QY) (d:Bool) (k:QY) (vl:QV):QV:=.agg #[.string e,vr,.int .u8 c,.string n,.bool b,.string m,.bool d,.string k,vl]
def VPost (s:QY) (B:Nat) (w:QW) (r:Ending) (w':QW):Prop:=
  ∃ e vr c n b m d k vl,r=.returned (.tuple #[pepV e vr c n b m d k vl,.int .i64 (verX s.data.toList).1])∧RdAt w' B s (verX s.data.toList).2∧Turn B w w'∧(∃ a i c,vr=.slice a i c)∧(∃ a i c,vl=.slice a i c) ∧
    ((verX s.data.toList).1=0→(e=qd (epoT s.data.toList (vp1 s.data.toList))∧c=preC s.data.toList (vp3 s.data.toList)∧n=qd (stN s.data.toList (vp3 s.data.toList) qbp)∧b=posB s.data.toList (vp4 s.data.toList)∧m=qd (posN s.data.toList (vp4 s.data.toList))∧d=(qbl s.data.toList (vp5 s.data.toList) qbk).isSome∧k=qd (stN s.data.toList (vp5 s.data.toList) qbk)) ∧
      w'.ownsRow (w.heap.size+1+1) 9 1 vr (vals s.data.toList (vrel s.data.toList)).length (vals s.data.toList (vrel s.data.toList))∧w'.ownsRow (w.heap.size+1+1) 9 1 vl (vals s.data.toList (qfb s.data.toList)).length (vals s.data.toList (qfb s.data.toList)))
theorem qzr {R:Ending→QW→Prop} (tmps:Array QV) (W:QW) (B:Nat) (x:Int) (e:QY) (vr:QV) (c:Int) (n:QY) (b:Bool) (m:QY) (d:Bool) (k:QY) (vl:QV) (op:∃ a i c,vr=.slice a i c) (ob:∃ a i c,vl=.slice a i c)
  (h2:tmps.getD 2 undef=.pointer (some ⟨B,0,none⟩)) (h3:tmps.getD 3 undef=.int .i64 x) (e1:W.heap[B]? = some (.cells #[.string e,vr,.int .u8 c,.string n,.bool b,.string m,.bool d,.string k,vl] 44 (0,0)))
  (hR:R (.returned (.tuple #[pepV e vr c n b m d k vl,.int .i64 x])) W) :
  bodyPost Tryz.prog Tryz.f96 R .ret { tmps:=tmps,defers:=[] } W:=by
 obtain⟨a1,i1,c1,rfl⟩:=op;obtain⟨a2,i2,c2,rfl⟩:=ob;obtain⟨r0,r1,r2,r3,r4,r5,r6,r7,r8⟩:=qdh e1;rw[Array.getD_eq_getD_getElem?]at h2 h3;refine⟨rfl,_,?_,hR⟩;simp[results,Tryz.results96,go_sem,h2,h3,r0,r1,r2,r3,r4,r5,r6,r7,r8]
 try rfl
theorem qdk {W:QW} {B:Nat} {z0 z1 z2 z3 z4 z5 z6 z7 z8:QV} (a b c d e f g h i:QV) (k:W.heap[B]? = some (.cells #[z0,z1,z2,z3,z4,z5,z6,z7,z8] 44 (0,0))) :
  ∃ W',W'=((((((((W.setCell ⟨B,0,none⟩ a).setCell ⟨B,1,none⟩ b).setCell ⟨B,2,none⟩ c).setCell ⟨B,3,none⟩ d).setCell ⟨B,4,none⟩ e).setCell ⟨B,5,none⟩ f).setCell ⟨B,6,none⟩ g).setCell ⟨B,7,none⟩ h).setCell ⟨B,8,none⟩ i ∧
   W'.heap[B]? = some (.cells #[a,b,c,d,e,f,g,h,i] 44 (0,0))∧Turn B W W':=by
 have k0:(W.setCell ⟨B,0,none⟩ a).heap[B]? = some (.cells #[a,z1,z2,z3,z4,z5,z6,z7,z8] 44 (0,0)):=qw 0 a k;have k1:((W.setCell ⟨B,0,none⟩ a).setCell ⟨B,1,none⟩ b).heap[B]? = some (.cells #[a,b,z2,z3,z4,z5,z6,z7,z8] 44 (0,0)):=qw 1 b k0;have k2:(((W.setCell ⟨B,0,none⟩ a).setCell ⟨B,1,none⟩ b).setCell ⟨B,2,none⟩ c).heap[B]? = some (.cells #[a,b,c,z3,z4,z5,z6,z7,z8] 44 (0,0)):=qw 2 c k1;have k3:((((W.setCell ⟨B,0,none⟩ a).setCell ⟨B,1,none⟩ b).setCell ⟨B,2,none⟩ c).setCell ⟨B,3,none⟩ d).heap[B]? = some (.cells #[a,b,c,d,z4,z5,z6,z7,z8] 44 (0,0)):=qw 3 d k2;have k4:(((((W.setCell ⟨B,0,none⟩ a).setCell ⟨B,1,none⟩ b).setCell ⟨B,2,none⟩ c).setCell ⟨B,3,none⟩ d).setCell ⟨B,4,none⟩ e).heap[B]? = some (.cells #[a,b,c,d,e,z5,z6,z7,z8] 44 (0,0)):=qw 4 e k3;have k5:((((((W.setCell ⟨B,0,none⟩ a).setCell ⟨B,1,none⟩ b).setCell ⟨B,2,none⟩ c).setCell ⟨B,3,none⟩ d).setCell ⟨B,4,none⟩ e).setCell ⟨B,5,none⟩ f).heap[B]? = some (.cells #[a,b,c,d,e,f,z6,z7,z8] 44 (0,0)):=qw 5 f k4;have k6:(((((((W.setCell ⟨B,0,none⟩ a).setCell ⟨B,1,none⟩ b).setCell ⟨B,2,none⟩ c).setCell ⟨B,3,none⟩ d).setCell ⟨B,4,none⟩ e).setCell ⟨B,5,none⟩ f).setCell ⟨B,6,none⟩ g).heap[B]? = some (.cells #[a,b,c,d,e,f,g,z7,z8] 44 (0,0)):=qw 6 g k5
 have k7:((((((((W.setCell ⟨B,0,none⟩ a).setCell ⟨B,1,none⟩ b).setCell ⟨B,2,none⟩ c).setCell ⟨B,3,none⟩ d).setCell ⟨B,4,none⟩ e).setCell ⟨B,5,none⟩ f).setCell ⟨B,6,none⟩ g).setCell ⟨B,7,none⟩ h).heap[B]? = some (.cells #[a,b,c,d,e,f,g,h,z8] 44 (0,0)):=qw 7 h k6;have k8:(((((((((W.setCell ⟨B,0,none⟩ a).setCell ⟨B,1,none⟩ b).setCell ⟨B,2,none⟩ c).setCell ⟨B,3,none⟩ d).setCell ⟨B,4,none⟩ e).setCell ⟨B,5,none⟩ f).setCell ⟨B,6,none⟩ g).setCell ⟨B,7,none⟩ h).setCell ⟨B,8,none⟩ i).heap[B]? = some (.cells #[a,b,c,d,e,f,g,h,i] 44 (0,0)):=qw 8 i k7;exact⟨_,rfl,k8,((((((((Turn.set B 0 W a).trans (Turn.set B 1 _ b)).trans (Turn.set B 2 _ c)).trans (Turn.set B 3 _ d)).trans (Turn.set B 4 _ e)).trans (Turn.set B 5 _ f)).trans (Turn.set B 6 _ g)).trans (Turn.set B 7 _ h)).trans (Turn.set B 8 _ i)⟩
theorem PV.put0 {B:Nat} {w W:QW} {s:QY} {a:Nat} {c0 c1 c2 c3 c4 c5 c6 c7 c8:QV} {vr vl:QV} {xs ys:List QV} (h:PV B w W s a #[c0,c1,c2,c3,c4,c5,c6,c7,c8] vr xs vl ys) (hB:B<w.heap.size) (u:QV):PV B w (W.setCell ⟨w.heap.size+1,0,none⟩ u) s a #[u,c1,c2,c3,c4,c5,c6,c7,c8] vr xs vl ys:=h.put hB 0 u
theorem PV.put1 {B:Nat} {w W:QW} {s:QY} {a:Nat} {c0 c1 c2 c3 c4 c5 c6 c7 c8:QV} {vr vl:QV} {xs ys:List QV} (h:PV B w W s a #[c0,c1,c2,c3,c4,c5,c6,c7,c8] vr xs vl ys) (hB:B<w.heap.size) (u:QV):PV B w (W.setCell ⟨w.heap.size+1,1,none⟩ u) s a #[c0,u,c2,c3,c4,c5,c6,c7,c8] vr xs vl ys:=h.put hB 1 u
theorem PV.put2 {B:Nat} {w W:QW} {s:QY} {a:Nat} {c0 c1 c2 c3 c4 c5 c6 c7 c8:QV} {vr vl:QV} {xs ys:List QV} (h:PV B w W s a #[c0,c1,c2,c3,c4,c5,c6,c7,c8] vr xs vl ys) (hB:B<w.heap.size) (u:QV):PV B w (W.setCell ⟨w.heap.size+1,2,none⟩ u) s a #[c0,c1,u,c3,c4,c5,c6,c7,c8] vr xs vl ys:=h.put hB 2 u
theorem PV.put3 {B:Nat} {w W:QW} {s:QY} {a:Nat} {c0 c1 c2 c3 c4 c5 c6 c7 c8:QV} {vr vl:QV} {xs ys:List QV} (h:PV B w W s a #[c0,c1,c2,c3,c4,c5,c6,c7,c8] vr xs vl ys) (hB:B<w.heap.size) (u:QV):PV B w (W.setCell ⟨w.heap.size+1,3,none⟩ u) s a #[c0,c1,c2,u,c4,c5,c6,c7,c8] vr xs vl ys:=h.put hB 3 u
theorem PV.put4 {B:Nat} {w W:QW} {s:QY} {a:Nat} {c0 c1 c2 c3 c4 c5 c6 c7 c8:QV} {vr vl:QV} {xs ys:List QV} (h:PV B w W s a #[c0,c1,c2,c3,c4,c5,c6,c7,c8] vr xs vl ys) (hB:B<w.heap.size) (u:QV):PV B w (W.setCell ⟨w.heap.size+1,4,none⟩ u) s a #[c0,c1,c2,c3,u,c5,c6,c7,c8] vr xs vl ys:=h.put hB 4 u
theorem PV.put5 {B:Nat} {w W:QW} {s:QY} {a:Nat} {c0 c1 c2 c3 c4 c5 c6 c7 c8:QV} {vr vl:QV} {xs ys:List QV} (h:PV B w W s a #[c0,c1,c2,c3,c4,c5,c6,c7,c8] vr xs vl ys) (hB:B<w.heap.size) (u:QV):PV B w (W.setCell ⟨w.heap.size+1,5,none⟩ u) s a #[c0,c1,c2,c3,c4,u,c6,c7,c8] vr xs vl ys:=h.put hB 5 u
theorem PV.put6 {B:Nat} {w W:QW} {s:QY} {a:Nat} {c0 c1 c2 c3 c4 c5 c6 c7 c8:QV} {vr vl:QV} {xs ys:List QV} (h:PV B w W s a #[c0,c1,c2,c3,c4,c5,c6,c7,c8] vr xs vl ys) (hB:B<w.heap.size) (u:QV):PV B w (W.setCell ⟨w.heap.size+1,6,none⟩ u) s a #[c0,c1,c2,c3,c4,c5,u,c7,c8] vr xs vl ys:=h.put hB 6 u
theorem PV.put7 {B:Nat} {w W:QW} {s:QY} {a:Nat} {c0 c1 c2 c3 c4 c5 c6 c7 c8:QV} {vr vl:QV} {xs ys:List QV} (h:PV B w W s a #[c0,c1,c2,c3,c4,c5,c6,c7,c8] vr xs vl ys) (hB:B<w.heap.size) (u:QV):PV B w (W.setCell ⟨w.heap.size+1,7,none⟩ u) s a #[c0,c1,c2,c3,c4,c5,c6,u,c8] vr xs vl ys:=h.put hB 7 u
theorem PV.put8 {B:Nat} {w W:QW} {s:QY} {a:Nat} {c0 c1 c2 c3 c4 c5 c6 c7 c8:QV} {vr vl:QV} {xs ys:List QV} (h:PV B w W s a #[c0,c1,c2,c3,c4,c5,c6,c7,c8] vr xs vl ys) (hB:B<w.heap.size) (u:QV):PV B w (W.setCell ⟨w.heap.size+1,8,none⟩ u) s a #[c0,c1,c2,c3,c4,c5,c6,c7,u] vr xs vl ys:=h.put hB 8 u
theorem PV.setRel {B:Nat} {w W:QW} {s:QY} {a b n:Nat} {cs:Array QV} {vr vl vr':QV} {xs ys xs':List QV} (h:PV B w W s a cs vr xs vl ys) (hn:n=xs'.length) (hr:W.ownsRow b 9 1 vr' n xs') (hb:w.heap.size+1+1≤b):PV B w W s a cs vr' xs' vl ys:=
 ⟨h.turn,h.res,h.rd,h.ver,hn▸qfg hr hb,h.loc⟩
theorem PV.setLoc {B:Nat} {w W:QW} {s:QY} {a b n:Nat} {cs:Array QV} {vr vl vl':QV} {xs ys ys':List QV} (h:PV B w W s a cs vr xs vl ys) (hn:n=ys'.length) (hr:W.ownsRow b 9 1 vl' n ys') (hb:w.heap.size+1+1≤b):PV B w W s a cs vr xs vl' ys':=
 ⟨h.turn,h.res,h.rd,h.ver,h.rel,hn▸qfg hr hb⟩
theorem PV.sized {B:Nat} {w W:QW} {s:QY} {a:Nat} {cs:Array QV} {vr vl:QV} {xs ys:List QV} (h:PV B w W s a cs vr xs vl ys):w.heap.size+1+1≤W.heap.size:=(qbth.1 h.ver).1
theorem qxm {B:Nat} {w W:QW} {s:QY} {a:Nat} {cs:Array QV} {vr vl:QV} {xs ys:List QV} (h:PV B w W s a cs vr xs vl ys) (hB:B<w.heap.size) :
  Calls Tryz.prog 123 #[.pointer (some ⟨B,0,none⟩)] W.drew fun e w3=>e=.returned (.int .i64 (misL s.size a))∧PV B w w3 s a cs vr xs vl ys:=by
 have h1:PV B w W.drew s a cs vr xs vl ys:=h.drewN hB 1;refine(qblg B s a W.drew h1.rd).mono ?_;rintro e w3 ⟨rfl,n,rfl⟩;exact⟨rfl,h1.drewN hB n⟩
theorem PV.out {B:Nat} {w W W':QW} {s:QY} {a:Nat} {cs:Array QV} {vr vl:QV} {xs ys:List QV} (h:PV B w W s a cs vr xs vl ys) (hB:B<w.heap.size) (t:Turn w.heap.size W W') :
  Turn B w W'∧RdAt W' B s a∧W'.ownsRow (w.heap.size+1+1) 9 1 vr xs.length xs∧W'.ownsRow (w.heap.size+1+1) 9 1 vl ys.length ys:=by
 have hz:=h.sized;exact⟨⟨t.os.trans h.turn.os,t.tape.trans h.turn.tape,t.output.trans h.turn.output,Nat.le_trans h.turn.size t.size,fun k hk hn=>(t.block k (by omega) (by omega)).trans (h.turn.block k hk hn)⟩,(t.block B (by omega) (by omega)).trans h.rd,qbc h.rel t (by omega),qbc h.loc t (by omega)⟩
theorem qbfc (B:Nat) (s:QY) (w:QW) (h:RdAt w B s 0) (hs:s.size≤64) :
 Calls Tryz.prog 96 #[.pointer (some ⟨B,0,none⟩)] w (VPost s B w):=by
  have hBl:=h.lt;have HL:=qb (qg s);have l1:Hid (vp1 s.data.toList≤s.size):=by rw[←HL.out];exact(qqn _ 0 _ (by omega)).2
  have l2:Hid (vp2 s.data.toList≤s.size):=by rw[←HL.out];exact(qbjn _ _ (by rw[HL.out];exact l1.out)).2
  have l3:Hid (vp3 s.data.toList≤s.size):=by rw[←HL.out];exact qkw _ _ _ _ (by rw[HL.out];exact l2.out)
  have l4:Hid (vp4 s.data.toList≤s.size):=by rw[←HL.out];exact(qpc _ _ _ (by rw[HL.out];exact l3.out)).2
  have l5:Hid (vp5 s.data.toList≤s.size):=by rw[←HL.out];exact(qbdc _ _ (by rw[HL.out];exact l4.out)).2
  have l6:Hid (vp6 s.data.toList≤s.size):=by rw[←HL.out];exact(qpc _ _ _ (by rw[HL.out];exact l5.out)).2
  have l7:Hid (vp7 s.data.toList≤s.size):=by rw[←HL.out];exact(qqn _ _ _ (by rw[HL.out];exact l6.out)).2
  have l8:Hid (vp8 s.data.toList≤s.size):=by rw[←HL.out];exact qkw _ _ _ _ (by rw[HL.out];exact l7.out)
  have C1:=qb (fun W h=>qbgp B s ⟨#[118]⟩ 0 W h (Nat.zero_le _) hs (by decide))
  have C2:=qb (fun W h=>qbqn B s (vp1 s.data.toList) W h l1.out hs);have C3:=qb (fun W h=>qbpf B s ⟨#[46]⟩ (vp2 s.data.toList) 1 W h l2.out hs (by decide))
  have C4:=qb (fun W h=>pre_any B s (vp3 s.data.toList) W h l3.out hs);have C5:=qb (fun W h=>post_any B s (vp4 s.data.toList) W h l4.out hs);have C6:=qb (fun W h=>dev_any B s (vp5 s.data.toList) W h l5.out hs);have C7:=qb (fun W h=>qbgp B s ⟨#[43]⟩ (vp6 s.data.toList) W h l6.out hs (by decide))
  have C8:=qb (fun W h=>qbpf B s ⟨#[45,95,46]⟩ (vp7 s.data.toList) 5 W h l7.out hs (by decide))
  have P0:Hid (PV B w ((w.alloc (.cells #[.string ⟨#[]⟩,.slice none 0 0,.int .u8 0,.string ⟨#[]⟩,.bool false,.string ⟨#[]⟩,.bool false,.string ⟨#[]⟩,.slice none 0 0] 44)).alloc (.cells #[.string ⟨#[]⟩,.slice none 0 0,.int .u8 0,.string ⟨#[]⟩,.bool false,.string ⟨#[]⟩,.bool false,.string ⟨#[]⟩,.slice none 0 0] 44)) s 0 #[.string ⟨#[]⟩,.slice none 0 0,.int .u8 0,.string ⟨#[]⟩,.bool false,.string ⟨#[]⟩,.bool false,.string ⟨#[]⟩,.slice none 0 0] (.slice none 0 0) [] (.slice none 0 0) []):=by
    have k0:=World.alloc_heap_new w (.cells #[.string ⟨#[]⟩,.slice none 0 0,.int .u8 0,.string ⟨#[]⟩,.bool false,.string ⟨#[]⟩,.bool false,.string ⟨#[]⟩,.slice none 0 0] 44);have k1:=World.alloc_heap_new (w.alloc (.cells #[.string ⟨#[]⟩,.slice none 0 0,.int .u8 0,.string ⟨#[]⟩,.bool false,.string ⟨#[]⟩,.bool false,.string ⟨#[]⟩,.slice none 0 0] 44)) (.cells #[.string ⟨#[]⟩,.slice none 0 0,.int .u8 0,.string ⟨#[]⟩,.bool false,.string ⟨#[]⟩,.bool false,.string ⟨#[]⟩,.slice none 0 0] 44);simp only[World.size_alloc]at k1;have bb:=(((Below.refl w.heap.size w).alloc (Nat.le_refl _) (.cells #[.string ⟨#[]⟩,.slice none 0 0,.int .u8 0,.string ⟨#[]⟩,.bool false,.string ⟨#[]⟩,.bool false,.string ⟨#[]⟩,.slice none 0 0] 44)).alloc (by simp) (.cells #[.string ⟨#[]⟩,.slice none 0 0,.int .u8 0,.string ⟨#[]⟩,.bool false,.string ⟨#[]⟩,.bool false,.string ⟨#[]⟩,.slice none 0 0] 44))
    exact⟨Turn.ofBelow bb,(Below.heap_alloc _ _ _ (by simp)).trans k0,(bb.block _ hBl).trans h,k1,World.ownsRow_nil _ _ _ _,World.ownsRow_nil _ _ _ _⟩
  clear h;go_enter Tryz.func96,Tryz.ntmps96
  (go_wp2_with fail);refine(C1.out _ P0.out.rd).mono ?_;rintro r W1 ⟨rfl,h1,t1⟩;have P1:=qb (P0.out.go hBl t1 (a':=vp1 s.data.toList) h1);clear h1 t1 P0;(go_wp2_with fail);refine(C2.out _ P1.out.rd).mono ?_;rintro r W2 ⟨rfl,h1,t1⟩;have P2:=qb (P1.out.go hBl t1 (a':=vp2 s.data.toList) h1);clear h1 t1 P1;obtain⟨q0,q1,q2,q3,q4,q5,q6,q7,q8⟩:=qdh P2.out.ver;have z0:=qf 0 P2.out.ver;(go_wp2_with fail);have P3:=qb (P2.out.put0 hBl (.string (qd (epoT s.data.toList (vp1 s.data.toList)))));refine(C3.out _ P3.out.rd).mono ?_;rintro r W3 ⟨vr,rfl,hown,h1,t1⟩;have hown1:W3.ownsRow (W2.setCell ⟨w.heap.size+1,0,none⟩ (.string (qd (epoT s.data.toList (vp1 s.data.toList))))).heap.size 9 1 vr (vrel s.data.toList).length (vals s.data.toList (vrel s.data.toList)):=hown;clear hown;have P4:=qb ((P3.out.go hBl t1 (a':=vp3 s.data.toList) h1).setRel (qpz _ _).symm hown1 P3.out.sized);obtain⟨ao,cap,rfl⟩:=qbft hown1;clear h1 t1 P2 P3 q0 q1 q2 q3 q4 q5 q6 q7 q8 z0 hown1;obtain⟨q0,q1,q2,q3,q4,q5,q6,q7,q8⟩:=qdh P4.out.ver;have z0:=qf 1 P4.out.ver
  by_cases hr:(vrel s.data.toList).length=0
  · have hx:Hid (verX s.data.toList=(misL s.size (vp3 s.data.toList),vp3 s.data.toList)):=by show _=_;unfold verX;rw[if_pos hr,HL.out]
    have hk:=qbmv hr;have HR:=qb hr;clear hr;generalize (vrel s.data.toList).length=NR at *;(go_wp2_with fail);have P5:=qb (P4.out.put1 hBl (.slice ao NR cap));generalize W3.setCell ⟨w.heap.size+1,1,none⟩ (.slice ao NR cap)=W4 at *;clear q0 q1 q2 q3 q4 q5 q6 q7 q8 z0 P4;obtain⟨q0,q1,q2,q3,q4,q5,q6,q7,q8⟩:=qdh P5.out.ver
    go_region_held3 (fun w'=>w'.cell? ⟨w.heap.size+1,0,none⟩=some (.string (qd (epoT s.data.toList (vp1 s.data.toList))))∧w'.cell? ⟨w.heap.size+1,1,none⟩=some (.slice ao NR cap)∧w'.cell? ⟨w.heap.size+1,2,none⟩=some (.int .u8 0)∧w'.cell? ⟨w.heap.size+1,3,none⟩=some (.string ⟨#[]⟩)∧w'.cell? ⟨w.heap.size+1,4,none⟩=some (.bool false)∧w'.cell? ⟨w.heap.size+1,5,none⟩=some (.string ⟨#[]⟩)∧w'.cell? ⟨w.heap.size+1,6,none⟩=some (.bool false)∧w'.cell? ⟨w.heap.size+1,7,none⟩=some (.string ⟨#[]⟩)∧w'.cell? ⟨w.heap.size+1,8,none⟩=some (.slice none 0 0))
      (go_keep)
      ((first
        | (go_at_call 123;refine(qxm P5.out hBl).mono ?_;rintro e w3 ⟨rfl,p6⟩;obtain⟨y0,y1,y2,y3,y4,y5,y6,y7,y8⟩:=qdh p6.ver;obtain⟨x0,x1,x2,x3,x4,x5,x6,x7,x8⟩:=qdh p6.res;have f0:=fun o=>qf o p6.res)
        | fail))
    obtain⟨W99,hW99,g99,t99⟩:=qdk (W:=w3) (.string (qd (epoT s.data.toList (vp1 s.data.toList)))) (.slice ao NR cap) (.int .u8 0) (.string ⟨#[]⟩) (.bool false) (.string ⟨#[]⟩) (.bool false) (.string ⟨#[]⟩) (.slice none 0 0) p6.res;rw[←hW99];(go_wp2_with fail);refine qzr _ _ w.heap.size _ _ _ _ _ _ _ _ _ _ ⟨_,_,_,rfl⟩ ⟨_,_,_,rfl⟩ rfl rfl g99 ?_;obtain⟨u1,u2,u3,u4⟩:=p6.out hBl t99;exact⟨_,_,_,_,_,_,_,_,_,by rw[hx.out],by rw[hx.out];exact u2,u1,⟨_,_,_,rfl⟩,⟨_,_,_,rfl⟩,fun h=>by rw[hx.out]at h;exact absurd h (qnh _ _)⟩
  · have hk := qbmq hr
    have HR:=qb hr;clear hr
    have hx0:Hid (∀ y,(vpl s.data.toList=true→(if (vloc s.data.toList).length=0 then (misL s.size (vp8 s.data.toList),vp8 s.data.toList) else if vp8 s.data.toList<s.size then (10,vp8 s.data.toList) else (0,vp8 s.data.toList))=y)→(vpl s.data.toList=false→(if vp7 s.data.toList<s.size then (10,vp7 s.data.toList) else (0,vp7 s.data.toList))=y)→verX s.data.toList=y):=by
      intro y h1 h2;unfold verX;rw[if_neg HR.out,HL.out];cases hv:vpl s.data.toList with
      | true=>rw[if_pos rfl];exact h1 hv
      | false=>rw[if_neg (by decide)];exact h2 hv
    generalize (vrel s.data.toList).length=NR at *;(go_wp2_with fail);have P5:=qb (P4.out.put1 hBl (.slice ao NR cap));clear q0 q1 q2 q3 q4 q5 q6 q7 q8 z0 P4;refine(C4.out _ P5.out.rd).mono ?_;rintro r W5 ⟨rfl,h1,t1⟩;have P7a:=qb (P5.out.go hBl t1 (a':=vp4 s.data.toList) h1);clear h1 t1 P5;obtain⟨q0,q1,q2,q3,q4,q5,q6,q7,q8⟩:=qdh P7a.out.ver;have zz:=fun o=>qf o P7a.out.ver;(go_wp2_with fail);have P7:=qb ((P7a.out.put2 hBl (.int .u8 (preC s.data.toList (vp3 s.data.toList)))).put3 hBl (.string (qd (stN s.data.toList (vp3 s.data.toList) qbp))));clear P7a;refine(C5.out _ P7.out.rd).mono ?_;rintro r W6 ⟨rfl,h1,t1⟩;have P8a:=qb (P7.out.go hBl t1 (a':=vp5 s.data.toList) h1);clear h1 t1 P7 q0 q1 q2 q3 q4 q5 q6 q7 q8 zz;obtain⟨q0,q1,q2,q3,q4,q5,q6,q7,q8⟩:=qdh P8a.out.ver;have zz:=fun o=>qf o P8a.out.ver;(go_wp2_with fail);have P8:=qb ((P8a.out.put4 hBl (.bool (posB s.data.toList (vp4 s.data.toList)))).put5 hBl (.string (qd (posN s.data.toList (vp4 s.data.toList)))));clear P8a;refine(C6.out _ P8.out.rd).mono ?_;rintro r W7 ⟨rfl,h1,t1⟩;have P9a:=qb (P8.out.go hBl t1 (a':=vp6 s.data.toList) h1);clear h1 t1 P8 q0 q1 q2 q3 q4 q5 q6 q7 q8 zz;obtain⟨q0,q1,q2,q3,q4,q5,q6,q7,q8⟩:=qdh P9a.out.ver;have zz:=fun o=>qf o P9a.out.ver;(go_wp2_with fail)
    have P9:=qb ((P9a.out.put6 hBl (.bool ((qbl s.data.toList (vp5 s.data.toList) qbk).isSome))).put7 hBl (.string (qd (stN s.data.toList (vp5 s.data.toList) qbk))));clear P9a;refine(C7.out _ P9.out.rd).mono ?_;rintro r W8 ⟨rfl,h1,t1⟩;have PA:=qb (P9.out.go hBl t1 (a':=vp7 s.data.toList) h1);clear h1 t1 P9 q0 q1 q2 q3 q4 q5 q6 q7 q8 zz;obtain⟨q0,q1,q2,q3,q4,q5,q6,q7,q8⟩:=qdh PA.out.ver;have zz:=fun o=>qf o PA.out.ver;cases hv:vpl s.data.toList with
    | true =>
      have hv1:pfxB (s.data.toList.drop (vp6 s.data.toList)) [43]=true:=hv;have HV:=qb hv;have HVL:Hid (qfb s.data.toList=vloc s.data.toList):=by show _=_;unfold qfb;rw[if_pos hv]
      clear hv;(go_wp2_with fail);refine(C8.out _ PA.out.rd).mono ?_;rintro r W9 ⟨vl,rfl,hown,h1,t1⟩;have hown1:W9.ownsRow W8.heap.size 9 1 vl (vloc s.data.toList).length (vals s.data.toList (vloc s.data.toList)):=hown;clear hown;have PB:=qb ((PA.out.go hBl t1 (a':=vp8 s.data.toList) h1).setLoc (qpz _ _).symm hown1 PA.out.sized);obtain⟨al,cl,rfl⟩:=qbft hown1;clear h1 t1 PA q0 q1 q2 q3 q4 q5 q6 q7 q8 zz hown1;obtain⟨q0,q1,q2,q3,q4,q5,q6,q7,q8⟩:=qdh PB.out.ver;have zz:=fun o=>qf o PB.out.ver
      by_cases hm:(vloc s.data.toList).length=0
      · have hx:Hid (verX s.data.toList=(misL s.size (vp8 s.data.toList),vp8 s.data.toList)):=hx0.out _ (fun _=>by rw[if_pos hm]) (fun h=>by rw[HV.out]at h;cases h)
        have hk2:=qbmv hm;clear hm hx0;generalize (vloc s.data.toList).length=NL at *;(go_wp2_with fail);have P5:=qb (PB.out.put8 hBl (.slice al NL cl));generalize W9.setCell ⟨w.heap.size+1,8,none⟩ (.slice al NL cl)=W10 at *;clear q0 q1 q2 q3 q4 q5 q6 q7 q8 zz PB;obtain⟨q0,q1,q2,q3,q4,q5,q6,q7,q8⟩:=qdh P5.out.ver
        go_region_held3 (fun w'=>w'.cell? ⟨w.heap.size+1,0,none⟩=some (.string (qd (epoT s.data.toList (vp1 s.data.toList))))∧w'.cell? ⟨w.heap.size+1,1,none⟩=some (.slice ao NR cap)∧w'.cell? ⟨w.heap.size+1,2,none⟩=some (.int .u8 (preC s.data.toList (vp3 s.data.toList)))∧w'.cell? ⟨w.heap.size+1,3,none⟩=some (.string (qd (stN s.data.toList (vp3 s.data.toList) qbp)))∧w'.cell? ⟨w.heap.size+1,4,none⟩=some (.bool (posB s.data.toList (vp4 s.data.toList)))∧w'.cell? ⟨w.heap.size+1,5,none⟩=some (.string (qd (posN s.data.toList (vp4 s.data.toList))))∧w'.cell? ⟨w.heap.size+1,6,none⟩=some (.bool ((qbl s.data.toList (vp5 s.data.toList) qbk).isSome))∧w'.cell? ⟨w.heap.size+1,7,none⟩=some (.string (qd (stN s.data.toList (vp5 s.data.toList) qbk)))∧w'.cell? ⟨w.heap.size+1,8,none⟩=some (.slice al NL cl))
          (go_keep)
          ((first
            | (go_at_call 123;refine(qxm P5.out hBl).mono ?_;rintro e w3 ⟨rfl,p6⟩;obtain⟨y0,y1,y2,y3,y4,y5,y6,y7,y8⟩:=qdh p6.ver;obtain⟨x0,x1,x2,x3,x4,x5,x6,x7,x8⟩:=qdh p6.res;have f0:=fun o=>qf o p6.res)
            | fail))
        obtain⟨W99,hW99,g99,t99⟩:=qdk (W:=w3) (.string (qd (epoT s.data.toList (vp1 s.data.toList)))) (.slice ao NR cap) (.int .u8 (preC s.data.toList (vp3 s.data.toList))) (.string (qd (stN s.data.toList (vp3 s.data.toList) qbp))) (.bool (posB s.data.toList (vp4 s.data.toList))) (.string (qd (posN s.data.toList (vp4 s.data.toList)))) (.bool ((qbl s.data.toList (vp5 s.data.toList) qbk).isSome)) (.string (qd (stN s.data.toList (vp5 s.data.toList) qbk))) (.slice al NL cl) p6.res;rw[←hW99];(go_wp2_with fail);refine qzr _ _ w.heap.size _ _ _ _ _ _ _ _ _ _ ⟨_,_,_,rfl⟩ ⟨_,_,_,rfl⟩ rfl rfl g99 ?_;obtain⟨u1,u2,u3,u4⟩:=p6.out hBl t99;exact⟨_,_,_,_,_,_,_,_,_,by rw[hx.out],by rw[hx.out];exact u2,u1,⟨_,_,_,rfl⟩,⟨_,_,_,rfl⟩,fun h=>by rw[hx.out]at h;exact absurd h (qnh _ _)⟩
      · have hx1:Hid (∀ y,(if vp8 s.data.toList<s.size then (10,vp8 s.data.toList) else (0,vp8 s.data.toList))=y→verX s.data.toList=y):=fun y hy=>hx0.out _ (fun _=>by rw[if_neg hm];exact hy) (fun h=>by rw[HV.out]at h;cases h)
        have hk2:=qbmq hm;clear hm hx0;generalize (vloc s.data.toList).length=NL at *;(go_wp2_with fail);have PC:=qb (PB.out.put8 hBl (.slice al NL cl));generalize W9.setCell ⟨w.heap.size+1,8,none⟩ (.slice al NL cl)=W10 at *;clear q0 q1 q2 q3 q4 q5 q6 q7 q8 zz PB;obtain⟨c0,c1,f1⟩:=PC.out.rd.seen;have PD:Hid (PV B w W10.drew s (vp8 s.data.toList) _ _ _ _ _):=qb (PC.out.drewN hBl 1)
        by_cases hl:vp8 s.data.toList<s.size
        · have hx:Hid (verX s.data.toList=(10,vp8 s.data.toList)):=hx1.out _ (by rw[if_pos hl])
          have hd:decide ((vp8 s.data.toList:Int)<(s.size:Int))=true:=by simp;omega
          have hd2:decide (vp8 s.data.toList<s.size)=true:=by simp;omega
          have hd3:((vp8 s.data.toList:Int)<(s.size:Int)):=by omega
          go_region_held3 (fun w'=>w'.cell? ⟨B,0,none⟩=some (.string s)∧w'.cell? ⟨B,1,none⟩=some (.int .i64 (vp8 s.data.toList:Int))) (go_keep) (fail)
          clear c0 c1 f1 PC;generalize W10.drew=WD at *;obtain⟨q0,q1,q2,q3,q4,q5,q6,q7,q8⟩:=qdh PD.out.ver;obtain⟨x0,x1,x2,x3,x4,x5,x6,x7,x8⟩:=qdh PD.out.res;have f0:=fun o=>qf o PD.out.res;(go_wp2_with fail);obtain⟨W99,hW99,g99,t99⟩:=qdk (W:=WD) (.string (qd (epoT s.data.toList (vp1 s.data.toList)))) (.slice ao NR cap) (.int .u8 (preC s.data.toList (vp3 s.data.toList))) (.string (qd (stN s.data.toList (vp3 s.data.toList) qbp))) (.bool (posB s.data.toList (vp4 s.data.toList))) (.string (qd (posN s.data.toList (vp4 s.data.toList)))) (.bool ((qbl s.data.toList (vp5 s.data.toList) qbk).isSome)) (.string (qd (stN s.data.toList (vp5 s.data.toList) qbk))) (.slice al NL cl) PD.out.res;rw[←hW99];refine qzr _ _ w.heap.size _ _ _ _ _ _ _ _ _ _ ⟨_,_,_,rfl⟩ ⟨_,_,_,rfl⟩ rfl rfl g99 ?_;obtain⟨u1,u2,u3,u4⟩:=PD.out.out hBl t99;exact⟨_,_,_,_,_,_,_,_,_,by rw[hx.out],by rw[hx.out];exact u2,u1,⟨_,_,_,rfl⟩,⟨_,_,_,rfl⟩,fun h=>by rw[hx.out]at h;exact absurd (show(10:Int)=0 from h) (by decide)⟩
        · have hx:Hid (verX s.data.toList=(0,vp8 s.data.toList)):=hx1.out _ (by rw[if_neg hl])
          have hd:decide ((vp8 s.data.toList:Int)<(s.size:Int))=false:=by simp;omega
          have hd2:decide (vp8 s.data.toList<s.size)=false:=by simp;omega
          have hd3:¬ ((vp8 s.data.toList:Int)<(s.size:Int)):=by omega
          go_region_held3 (fun w'=>w'.cell? ⟨B,0,none⟩=some (.string s)∧w'.cell? ⟨B,1,none⟩=some (.int .i64 (vp8 s.data.toList:Int))) (go_keep) (fail)
          clear c0 c1 f1 PC;generalize W10.drew=WD at *;obtain⟨q0,q1,q2,q3,q4,q5,q6,q7,q8⟩:=qdh PD.out.ver;obtain⟨x0,x1,x2,x3,x4,x5,x6,x7,x8⟩:=qdh PD.out.res;have f0:=fun o=>qf o PD.out.res;(go_wp2_with fail);obtain⟨W99,hW99,g99,t99⟩:=qdk (W:=WD) (.string (qd (epoT s.data.toList (vp1 s.data.toList)))) (.slice ao NR cap) (.int .u8 (preC s.data.toList (vp3 s.data.toList))) (.string (qd (stN s.data.toList (vp3 s.data.toList) qbp))) (.bool (posB s.data.toList (vp4 s.data.toList))) (.string (qd (posN s.data.toList (vp4 s.data.toList)))) (.bool ((qbl s.data.toList (vp5 s.data.toList) qbk).isSome)) (.string (qd (stN s.data.toList (vp5 s.data.toList) qbk))) (.slice al NL cl) PD.out.res;rw[←hW99];refine qzr _ _ w.heap.size _ _ _ _ _ _ _ _ _ _ ⟨_,_,_,rfl⟩ ⟨_,_,_,rfl⟩ rfl rfl g99 ?_;obtain⟨u1,u2,u3,u4⟩:=PD.out.out hBl t99;exact⟨_,_,_,_,_,_,_,_,_,by rw[hx.out],by rw[hx.out];exact u2,u1,⟨_,_,_,rfl⟩,⟨_,_,_,rfl⟩,fun _=>⟨⟨rfl,rfl,rfl,rfl,rfl,rfl,rfl⟩,u3,by rw[HVL.out];exact u4⟩⟩
    | false=>
      have hv1:pfxB (s.data.toList.drop (vp6 s.data.toList)) [43]=false:=hv;have HV:=qb hv;have HVL:Hid (qfb s.data.toList=[]):=by show _=_;unfold qfb;rw[hv];rfl
      have hx1:Hid (∀ y,(if vp7 s.data.toList<s.size then (10,vp7 s.data.toList) else (0,vp7 s.data.toList))=y→verX s.data.toList=y):=fun y hy=>hx0.out _ (fun h=>by rw[hv]at h;cases h) (fun _=>hy)
      clear hv hx0;(go_wp2_with fail);have PC:=PA;clear PA q0 q1 q2 q3 q4 q5 q6 q7 q8 zz;obtain⟨c0,c1,f1⟩:=PC.out.rd.seen;have PD:Hid (PV B w W8.drew s (vp7 s.data.toList) _ _ _ _ _):=qb (PC.out.drewN hBl 1)
      by_cases hl:vp7 s.data.toList<s.size
      · have hx:Hid (verX s.data.toList=(10,vp7 s.data.toList)):=hx1.out _ (by rw[if_pos hl])
        have hd:decide ((vp7 s.data.toList:Int)<(s.size:Int))=true:=by simp;omega
        have hd2:decide (vp7 s.data.toList<s.size)=true:=by simp;omega
        have hd3:((vp7 s.data.toList:Int)<(s.size:Int)):=by omega
        go_region_held3 (fun w'=>w'.cell? ⟨B,0,none⟩=some (.string s)∧w'.cell? ⟨B,1,none⟩=some (.int .i64 (vp7 s.data.toList:Int))) (go_keep) (fail)
        clear c0 c1 f1 PC;generalize W8.drew=WD at *;obtain⟨q0,q1,q2,q3,q4,q5,q6,q7,q8⟩:=qdh PD.out.ver;obtain⟨x0,x1,x2,x3,x4,x5,x6,x7,x8⟩:=qdh PD.out.res;have f0:=fun o=>qf o PD.out.res;(go_wp2_with fail);obtain⟨W99,hW99,g99,t99⟩:=qdk (W:=WD) (.string (qd (epoT s.data.toList (vp1 s.data.toList)))) (.slice ao NR cap) (.int .u8 (preC s.data.toList (vp3 s.data.toList))) (.string (qd (stN s.data.toList (vp3 s.data.toList) qbp))) (.bool (posB s.data.toList (vp4 s.data.toList))) (.string (qd (posN s.data.toList (vp4 s.data.toList)))) (.bool ((qbl s.data.toList (vp5 s.data.toList) qbk).isSome)) (.string (qd (stN s.data.toList (vp5 s.data.toList) qbk))) (.slice none 0 0) PD.out.res;rw[←hW99];refine qzr _ _ w.heap.size _ _ _ _ _ _ _ _ _ _ ⟨_,_,_,rfl⟩ ⟨_,_,_,rfl⟩ rfl rfl g99 ?_;obtain⟨u1,u2,u3,u4⟩:=PD.out.out hBl t99;exact⟨_,_,_,_,_,_,_,_,_,by rw[hx.out],by rw[hx.out];exact u2,u1,⟨_,_,_,rfl⟩,⟨_,_,_,rfl⟩,fun h=>by rw[hx.out]at h;exact absurd (show(10:Int)=0 from h) (by decide)⟩
      · have hx:Hid (verX s.data.toList=(0,vp7 s.data.toList)):=hx1.out _ (by rw[if_neg hl])
        have hd:decide ((vp7 s.data.toList:Int)<(s.size:Int))=false:=by simp;omega
        have hd2:decide (vp7 s.data.toList<s.size)=false:=by simp;omega
        have hd3:¬ ((vp7 s.data.toList:Int)<(s.size:Int)):=by omega
        go_region_held3 (fun w'=>w'.cell? ⟨B,0,none⟩=some (.string s)∧w'.cell? ⟨B,1,none⟩=some (.int .i64 (vp7 s.data.toList:Int))) (go_keep) (fail)
        clear c0 c1 f1 PC;generalize W8.drew=WD at *;obtain⟨q0,q1,q2,q3,q4,q5,q6,q7,q8⟩:=qdh PD.out.ver;obtain⟨x0,x1,x2,x3,x4,x5,x6,x7,x8⟩:=qdh PD.out.res;have f0:=fun o=>qf o PD.out.res;(go_wp2_with fail);obtain⟨W99,hW99,g99,t99⟩:=qdk (W:=WD) (.string (qd (epoT s.data.toList (vp1 s.data.toList)))) (.slice ao NR cap) (.int .u8 (preC s.data.toList (vp3 s.data.toList))) (.string (qd (stN s.data.toList (vp3 s.data.toList) qbp))) (.bool (posB s.data.toList (vp4 s.data.toList))) (.string (qd (posN s.data.toList (vp4 s.data.toList)))) (.bool ((qbl s.data.toList (vp5 s.data.toList) qbk).isSome)) (.string (qd (stN s.data.toList (vp5 s.data.toList) qbk))) (.slice none 0 0) PD.out.res;rw[←hW99];refine qzr _ _ w.heap.size _ _ _ _ _ _ _ _ _ _ ⟨_,_,_,rfl⟩ ⟨_,_,_,rfl⟩ rfl rfl g99 ?_;obtain⟨u1,u2,u3,u4⟩:=PD.out.out hBl t99;exact⟨_,_,_,_,_,_,_,_,_,by rw[hx.out],by rw[hx.out];exact u2,u1,⟨_,_,_,rfl⟩,⟨_,_,_,rfl⟩,fun _=>⟨⟨rfl,rfl,rfl,rfl,rfl,rfl,rfl⟩,u3,by rw[HVL.out];exact u4⟩⟩
end Go.Proofs.YtabmfdedbpmfmaaGreat
