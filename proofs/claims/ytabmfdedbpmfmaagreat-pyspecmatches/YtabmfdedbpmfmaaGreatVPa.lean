/- Walks: the reader's small parts. -/
import Derived.Shelf.RegionOpen
import Derived.Deep.CondSized
import Derived.RangeFuncNested
import Derived.Deep.QuietTactic
import Derived.BigQuiet
import Derived.Deep.RegionHeld3
import Derived.Deep.AppendLies
import Derived.StillTailTactics
import Derived.Test.YtabmfdedbpmfmaaGreatVPlainF
import Derived.Laws.EntriesVeiled
import Derived.Lib.Strings
namespace Go.Proofs.YtabmfdedbpmfmaaGreat
open Go.RowKit Go.Shelf
open _root_.Array renaming getElem?_eq_some_iff → qbth
open Nat renaming lt_of_lt_of_le → qbtv
open Go renaming World → QW, Value → QV
set_option linter.unusedVariables false
def digB (l:QB):Bool:=!l.isEmpty&&(qn 1 l==l.length)
def misL (n a:Nat):Int:=if a=n then 11 else 10
def seg (l:QB) (a e:Nat):QB:=(l.take e).drop a
theorem qfr (s:QY) (a e:Nat):s.extract a e=qd (seg s.data.toList a e):=qfc s a e
theorem qdd (s:QY) (a e:Nat):(s.extract a e).data.toList=seg s.data.toList a e:=by rw[qfr,qj]
theorem qpn (l:QB) (a e:Nat) (h:e≤l.length):(seg l a e).length=e-a:=by simp[seg];omega
theorem qds (k:Int) (s:QY) (a:Nat) (h:a≤s.size):a+qn k (s.data.toList.drop a)≤s.size:=by
 have:=qjg k (s.data.toList.drop a);rw[List.length_drop,qg]at this;omega
theorem eqE (s:QY) (h:0<s.size):(s.toList==[])=false:=by
 rw[toL];rw[←qg]at h;cases hl:s.data.toList with
 | nil=>rw[hl]at h;simp at h
 | cons c r=>rfl
theorem emp (s:QY) (h:0<s.size):s.data.toList.isEmpty=false:=by
 rw[←qg]at h;cases hl:s.data.toList with
 | nil=>rw[hl]at h;simp at h
 | cons c r=>rfl
theorem size0 (s:QY) (h:¬ 0<s.size):s=⟨#[]⟩:=by
 cases s with|mk d=>
  have:d.size=0:=by simpa[ByteArray.size] using h
  rw[Array.eq_empty_of_size_eq_zero this]
def Lies (W:QW) (ps:List (Nat×Obj)):Prop:=∀ p∈ps,W.heap[p.1]? = some p.2
theorem Lies.nil (W:QW):Lies W []:=by intro p hp;cases hp
theorem Lies.cons {W:QW} {B:Nat} {o:Obj} {ps:List (Nat×Obj)} (h:W.heap[B]? = some o) (hs:Lies W ps):Lies W ((B,o)::ps):=by
 intro p hp;rcases List.mem_cons.1 hp with rfl|hp
 ·exact h
 ·exact hs p hp
theorem Lies.head {W:QW} {B:Nat} {o:Obj} {ps:List (Nat×Obj)} (h:Lies W ((B,o)::ps)):W.heap[B]? = some o:=h (B,o) List.mem_cons_self
theorem Lies.tail {W:QW} {p:Nat×Obj} {ps:List (Nat×Obj)} (h:Lies W (p::ps)):Lies W ps:=fun q hq=>h q (List.mem_cons_of_mem _ hq)
theorem Lies.lt {W:QW} {ps:List (Nat×Obj)} (h:Lies W ps) (p:Nat×Obj) (hp:p∈ps):p.1<W.heap.size:=(qbth.1 (h p hp)).1
theorem Lies.kept {W W':QW} {row:Option Nat} {ps:List (Nat×Obj)} (h:Lies W ps) (hg:W.grownBy W' row) (hne:∀ p∈ps,some p.1≠row):Lies W' ps:=
 fun p hp=>(hg.block p.1 (h.lt p hp) (hne p hp)).trans (h p hp)
theorem Lies.alloc {W:QW} {ps:List (Nat×Obj)} (h:Lies W ps) (o:Obj):Lies (W.alloc o) ps:=h.kept (World.grownBy_alloc W o none) (by simp)
theorem qsc (W:QW) (b o:Nat) (v:QV):W.grownBy (W.setCell ⟨b,o,none⟩ v) (some b):=
 ⟨rfl,rfl,rfl,(KeepsWalks.setCell W _ v).size,fun k _ hk=>Below.heap_setCell _ _ _ k (fun e=>hk (by rw[e]))⟩
theorem Lies.other {W:QW} {ps:List (Nat×Obj)} (h:Lies W ps) (b o:Nat) (v:QV) (hne:∀ p∈ps,p.1≠b):Lies (W.setCell ⟨b,o,none⟩ v) ps:=
 h.kept (qsc W b o v) (fun p hp e=>hne p hp (by simpa using e))
theorem Lies.below {W W':QW} {n:Nat} {ps:List (Nat×Obj)} (h:Lies W ps) (hb:Below n W W') (hn:∀ p∈ps,p.1<n):Lies W' ps:=
 fun p hp=>(hb.block p.1 (hn p hp)).trans (h p hp)
theorem qvx {β : Type} (B0:Nat) (ps:List (Nat×Obj)) (hps:∀ p∈ps,p.1<B0):OwnFrom B0 (fun (_:β) W=>Lies W ps):=by
 rintro s X Y row h hg hrow;exact h.kept hg (fun p hp e=>by have:=(hrow p.1 e.symm).1;have:=hps p hp;omega)
theorem qdj {W:QW} {B:Nat} {t:TypeId} {v:QV} {m:Nat×Nat} (h:W.heap[B]? = some (.cells #[v] t m)):W.cell? ⟨B,0,none⟩=some v:=by simp[World.cell?,h]
theorem qf {W:QW} {B:Nat} {t:TypeId} {cs:Array QV} (o:Nat) (h:W.heap[B]? = some (.cells cs t (0,0))):W.frozen? ⟨B,o,none⟩=false:=by simp[World.frozen?,h]
theorem qc {W:QW} {B:Nat} {t:TypeId} {cs:Array QV} {m:Nat×Nat} (o:Nat) {v:QV} (h:W.heap[B]? = some (.cells cs t m)) (hv:cs[o]? = some v):W.cell? ⟨B,o,none⟩=some v:=by simp[World.cell?,h,hv]
theorem qw {W:QW} {B:Nat} {t:TypeId} {cs:Array QV} {m:Nat×Nat} (o:Nat) (v:QV) (h:W.heap[B]? = some (.cells cs t m)):(W.setCell ⟨B,o,none⟩ v).heap[B]? = some (.cells (cs.setIfInBounds o v) t m):=by
 obtain⟨hlt,hk⟩:=qbth.1 h;show(W.heap.modify B _)[B]? = _;rw[Array.getElem?_eq_getElem (by rw[Array.size_modify];exact hlt),Array.getElem_modify_self,hk]
 rfl
def qx (W:QW) (v:QV) (ts:List QB):Prop:=
 ∃ a cap,v=.slice a ts.length cap∧(ts=[]∨∃ b off,a=some ⟨b,off,none⟩∧b<W.heap.size∧∀ i (h:i<ts.length),W.cell? ⟨b,off+i,none⟩=some (.string (qd ts[i])))
theorem qx.below {W W':QW} {v:QV} {ts:List QB} (h:qx W v ts) (hb:Below W.heap.size W W'):qx W' v ts:=by
 obtain⟨a,cap,hv,h0|⟨b,off,ha,hlt,hc⟩⟩:=h
 ·exact⟨a,cap,hv,.inl h0⟩
 ·exact⟨a,cap,hv,.inr ⟨b,off,ha,qbtv hlt hb.size,fun i hi=>by rw[←hc i hi];simp only[World.cell?];rw[hb.block b hlt]⟩⟩
theorem qx.some {W:QW} {a:Option Addr} {n cap:Nat} {ts:List QB} (h:qx W (.slice a n cap) ts) (hne:0<ts.length) :
  ∃ b off,a=some ⟨b,off,none⟩∧∀ i (h:i<ts.length),W.cell? ⟨b,off+i,none⟩=some (.string (qd ts[i])):=by
 obtain⟨a',cap',hv,h0|⟨b,off,ha,hlt,hc⟩⟩:=h
 ·subst h0;simp at hne
 ·cases hv;exact⟨b,off,ha,hc⟩
def qsh (ts:List QB):Prop:=ts.length≤9223372036854775806∧∀ t∈ts,t.length≤9223372036854775806
theorem qbmv {n:Nat} (h:n=0):((n:Int)==0)=true:=by subst h;rfl
theorem qbmq {n:Nat} (h:¬ n=0):((n:Int)==0)=false:=by simp;omega
structure Turn (B:Nat) (w w':QW):Prop where
 os:w'.os=w.os
 tape:w'.tape=w.tape
 output:w'.output=w.output
 size:w.heap.size≤w'.heap.size
 block:∀ k,k<w.heap.size→k≠B→w'.heap[k]? = w.heap[k]?
theorem Turn.refl (B:Nat) (w:QW):Turn B w w:=⟨rfl,rfl,rfl,Nat.le_refl _,fun _ _ _=>rfl⟩
theorem Turn.trans {B:Nat} {a b c:QW} (h:Turn B a b) (k:Turn B b c):Turn B a c:=
 ⟨k.os.trans h.os,k.tape.trans h.tape,k.output.trans h.output,Nat.le_trans h.size k.size,fun i hi hn=>(k.block i (qbtv hi h.size) hn).trans (h.block i hi hn)⟩
theorem Turn.ofBelow {B:Nat} {w w':QW} (h:Below w.heap.size w w'):Turn B w w':=⟨h.os,h.tape,h.output,h.size,fun k hk _=>h.block k hk⟩
theorem Turn.below {B n:Nat} {w w':QW} (h:Turn B w w') (hn:n≤B) (hs:n≤w.heap.size):Below n w w':=⟨h.os,h.tape,h.output,h.size,fun k hk=>h.block k (qbtv hk hs) (by omega)⟩
theorem Turn.set (B o:Nat) (w:QW) (v:QV):Turn B w (w.setCell ⟨B,o,none⟩ v):=
 ⟨rfl,rfl,rfl,by rw[show(w.setCell ⟨B,o,none⟩ v).heap.size=w.heap.size from Array.size_modify];exact Nat.le_refl _,fun k _ hn=>Below.heap_setCell _ _ _ k hn⟩
theorem Turn.drewN (B:Nat) (w:QW):∀ n,Turn B w (w.drewN n)
 | 0=>Turn.refl B w
 | n+1=>by
  have h:=Turn.drewN B w.drew n;exact⟨h.os,h.tape,h.output,h.size,h.block⟩
theorem qbx (w:QW):∀ n,(w.drewN n).heap=w.heap
 | 0=>rfl
 | n+1=>qbx w.drew n
theorem qz (k:Nat) (w:QW) (n:Nat):Below k w (w.drewN n):=by
 have h:=Turn.drewN 0 w n;exact⟨h.os,h.tape,h.output,h.size,fun j _=>by rw[qbx]⟩
theorem Turn.grown {B:Nat} {w w':QW} (h:Turn B w w'):w.grownBy w' (some B):=⟨h.os,h.tape,h.output,h.size,fun k hk hn=>h.block k hk (fun e=>hn (by rw[e]))⟩
theorem qbc {B:Nat} {w w':QW} {base:Nat} {e:TypeId} {size:Nat} {v:QV} {n:Nat} {xs:List QV} (h:w.ownsRow base e size v n xs) (ht:Turn B w w') (hB:B<base):w'.ownsRow base e size v n xs:=by
 refine h.kept ht.grown ?_;cases ho:v.ownBlock with
 | none=>exact .inl rfl
 | some k=>exact .inr (fun e=>by have:=(h.lt k ho).1;injection e with e;omega)
theorem qnh (n a:Nat):misL n a≠0:=by unfold misL;split<;>decide
theorem Turn.alloc {B:Nat} {w W:QW} (h:Turn B w W) (o:Obj):Turn B w (W.alloc o):=h.trans (Turn.ofBelow ((Below.refl _ W).alloc (Nat.le_refl _) o))
theorem qnw {B:Nat} {w W W':QW} {row:Option Nat} (h:Turn B w W) (hg:W.grownBy W' row) (hr:∀ k,row=some k→w.heap.size≤k):Turn B w W':=
 ⟨hg.os.trans h.os,hg.tape.trans h.tape,hg.output.trans h.output,Nat.le_trans h.size hg.size,fun k hk hn=>(hg.block k (qbtv hk h.size) (fun e=>by have:=hr k e.symm;omega)).trans (h.block k hk hn)⟩
theorem qbhp (k:Int):∀ m:QB,qn k (m.take (qn k m))=qn k m
 | []=>rfl
 | c::r=>by
  by_cases hc:isC (c.toNat:Int) k=true
  ·have e:qn k (c::r)=qn k r+1:=by rw[qn,if_pos hc]
   rw[e,List.take_succ_cons,qn,if_pos hc,qbhp k r]
  ·have e:qn k (c::r)=0:=by rw[qn,if_neg hc]
   rw[e,List.take_zero];rfl
theorem qlh (l:QB) (a d:Nat):seg l a (a+d)=(l.drop a).take d:=by
 unfold seg;rw[List.drop_take]
 congr 1
 omega
theorem qbdv (l:QB) (a:Nat):seg l a a=[]:=by unfold seg;rw[List.drop_eq_nil_iff,List.length_take];omega
def qbjb (n:Nat) (v:QV):Prop:=∀ a i c,v=.slice (some a) i c→n≤a.block
theorem qrt {W:QW} {base:Nat} {v:QV} {k:Nat} {xs:List QV} (h:W.ownsRow base 9 1 v k xs):qbjb base v:=by
 rintro a i c rfl;rcases h.2 with ⟨h1,_⟩|⟨g,cap,cur,h1,hg,_⟩
 ·cases h1
 ·cases h1;exact hg
theorem qbgn {W W':QW} {v:QV} {ts:List QB} {B:Nat} (h:qx W v ts) (hk:∀ j,j<W.heap.size→j≠B→W'.heap[j]? = W.heap[j]?) (hs:W.heap.size≤W'.heap.size) (hB:∀ a n cap,v=.slice (some a) n cap→ts≠[]→a.block≠B):qx W' v ts:=by
 obtain⟨a,cap,hv,h0|⟨b,off,ha,hlt,hc⟩⟩:=h
 ·exact⟨a,cap,hv,.inl h0⟩
 ·by_cases hn:ts=[]
  ·exact⟨a,cap,hv,.inl hn⟩
  ·have hne:=hB _ _ _ (by rw[hv,ha]) hn
   exact⟨a,cap,hv,.inr ⟨b,off,ha,qbtv hlt hs,fun i hi=>by rw[←hc i hi];simp only[World.cell?];rw[hk b hlt hne]⟩⟩
theorem qbrg {n:Nat} {W W':QW} {v:QV} {ts:List QB} (h:qx W v ts) (hf:qbjb n v) (hk:∀ j,n≤j→j<W.heap.size→W'.heap[j]? = W.heap[j]?) (hs:W.heap.size≤W'.heap.size):qx W' v ts:=by
 obtain⟨a,cap,hv,h0|⟨b,off,ha,hlt,hc⟩⟩:=h
 ·exact⟨a,cap,hv,.inl h0⟩
 ·have hn:=hf _ _ _ (by rw[hv,ha])
  exact⟨a,cap,hv,.inr ⟨b,off,ha,qbtv hlt hs,fun i hi=>by rw[←hc i hi];simp only[World.cell?];rw[hk b hn hlt]⟩⟩
theorem qx.drewN {W:QW} {v:QV} {ts:List QB} (h:qx W v ts) (n:Nat):qx (W.drewN n) v ts:=h.below (qz _ _ _)
def Cap (v:QV):Prop:=∀ a n c,v=.slice a n c→n≤c
theorem qbnc {W:QW} {base:Nat} {e:TypeId} {size:Nat} {v:QV} {k:Nat} {xs:List QV} (h:W.ownsRow base e size v k xs):Cap v:=by
 rintro a n c rfl;rcases h.2 with ⟨h1,_⟩|⟨g,cap,cur,h1,_,_,h2,_⟩
 ·cases h1;exact Nat.le_refl _
 ·cases h1;exact h2
def lenI:List QB→Nat
 | []=>0
 | t::r=>1+t.length+lenI r
theorem cell_lt {W:QW} {a:Addr} {v:QV} (h:W.cell? a=some v):a.block<W.heap.size:=by
 unfold World.cell? at h;cases hb:W.heap[a.block]? with
 | none=>rw[hb]at h;simp at h
 | some o=>exact(qbth.1 hb).1
theorem qbch:∀ ts:List QB,ts.length≤lenI ts∧∀ t∈ts,t.length≤lenI ts
 | []=>by simp[lenI]
 | t::r=>by
  have ih:=qbch r;refine⟨by simp only[List.length_cons,lenI];omega,fun u hu=>?_⟩
  rcases List.mem_cons.1 hu with rfl|hu
  ·simp only[lenI];omega
  ·have:=ih.2 u hu;simp only[lenI];omega
theorem qtc (W:QW):qx W (.slice none 0 0) []:=⟨none,0,rfl,.inl rfl⟩
def skL (l:QB) (a:Nat):Nat:=a+qn 6 (l.drop a)
def wdN:QB→Nat
 | []=>0
 | c::r=>if c==44||isC (c.toNat:Int) 6 then 0 else wdN r+1
def comL:QB→QB→Nat
 | c::r,d::t=>if c==d then comL r t+1 else 0
 | _,_=>0
def sgn:Nat→QB
 | 0=>[126,61]
 | 1=>[61,61]
 | 2=>[33,61]
 | 3=>[60,61]
 | 4=>[62,61]
 | 5=>[60]
 | 6=>[62]
 | 7=>[61,61,61]
 | _=>[]
def qdf (l:QB) (x:Nat×Nat) (k:Nat):Nat×Nat:=(if comL l (sgn k)=(sgn k).length∧(sgn x.1).length<comL l (sgn k) then k else x.1,max x.2 (comL l (sgn k)))
def opGo (l:QB):Nat→Nat×Nat
 | 0=>(8,0)
 | k+1=>qdf l (opGo l k) k
theorem qgj (l:QB) (a:Nat) (h:a≤l.length):a≤skL l a∧skL l a≤l.length:=by
 have:=qjg 6 (l.drop a);rw[List.length_drop]at this;unfold skL;omega
theorem qlj:∀ l:QB,wdN l≤l.length
 | []=>Nat.le_refl _
 | c::r=>by
  have:=qlj r;unfold wdN;split
  ·simp
  ·simp;omega
theorem qtb:∀ a b:QB,comL a b≤a.length∧comL a b≤b.length
 | [],_=>by simp[comL]
 | _::_,[]=>by simp[comL]
 | c::r,d::t=>by
  have:=qtb r t;unfold comL;split
  ·simp;omega
  ·simp
theorem qbbl (k:Nat):(sgn k).length≤3:=by
 unfold sgn;split<;>simp
theorem qhm (l:QB):∀ k,k≤8→(opGo l k).1≤8∧(opGo l k).2≤l.length∧(opGo l k).2≤3∧(sgn (opGo l k).1).length≤(opGo l k).2
 | 0,_=>by simp[opGo,sgn]
 | k+1,h=>by
  have h1:=qhm l k (by omega)
  have h2:=qtb l (sgn k);have h3:=qbbl k;unfold opGo qdf;dsimp only;refine⟨?_,?_,?_,?_⟩
  ·split<;>omega
  ·omega
  ·omega
  ·split<;>omega
set_option maxHeartbeats 2000000
set_option maxRecDepth 100000
theorem qbgl (a b:QY) (n:Nat) (h1:n<a.size) (h2:n<b.size) (h:a[n]=b[n]):comL (a.data.toList.drop n) (b.data.toList.drop n)=comL (a.data.toList.drop (n+1)) (b.data.toList.drop (n+1))+1:=by
 rw[qcj a n h1,qcj b n h2,comL,if_pos (by simp[h])]
theorem qzc (a b:QY) (n:Nat) (h1:n<a.size) (h2:n<b.size) (h:a[n]≠b[n]):comL (a.data.toList.drop n) (b.data.toList.drop n)=0:=by
 rw[qcj a n h1,qcj b n h2,comL,if_neg (by simp[h])]
theorem qbfz (a b:QY) (n:Nat) (h:a.size≤n∨b.size≤n):comL (a.data.toList.drop n) (b.data.toList.drop n)=0:=by
 rcases h with h|h
 ·rw[qdx a n h,comL];intro c r d t e;cases e
 ·rw[qdx b n h,comL];intro c r d t _ e;cases e
theorem qxb (s:QY) (z:Nat) (h:z<s.size):s.data.toList[z]? = some s[z]:=by
 rw[List.getElem?_eq_getElem (by rw[qg];exact h)];rfl
theorem qbjk (a b:QY) (w:World) (ha:a.size≤256) (hb:b.size≤256) :
  Calls Tryz.prog 135 #[.string a,.string b] w fun e w'=>e=.returned (.int .i64 (comL a.data.toList b.data.toList:Int))∧∃ m,w'=w.drewN m:=by
 go_enter Tryz.func135,Tryz.ntmps135
 (go_wp2_with fail);go_loopw [5] (fun y wr=>∃ n:Nat,n≤a.size∧n≤b.size∧y=.int .i64 n∧comL a.data.toList b.data.toList=n+comL (a.data.toList.drop n) (b.data.toList.drop n)∧∃ m,wr=w.drewN m) (fun y _=>256-(intOf y).toNat)
 case atStart=>exact⟨0,by omega,by omega,rfl,by simp,0,rfl⟩
 case round=>
  obtain⟨n,hn1,hn2,rfl,hc,hb0⟩:=hrel;have HC:=qb hc;have HB:Hid (∃ m,wr.drew=w.drewN m):=by obtain⟨m,rfl⟩:=hb0;exact⟨m+1,rfl⟩
  clear hc hb0
  by_cases hs:b.size<a.size
  ·by_cases hlt:n<b.size
   ·have h1:n<a.size:=by omega
    by_cases he:a[n]=b[n]
    ·have hcmp:((a[n].toNat:Int)==(b[n].toNat:Int))=true:=by rw[he];simp
     have HN:=qb (HC.out.trans (by rw[qbgl a b n (by omega) (by omega) he]))
     clear he;(go_wp2_with fail);go_region
     all_goals
      (go_wp2_with fail);exact⟨⟨n+1,by omega,by omega,by go_num,by have:=HN.out;omega,HB.out⟩,by simp[intOf];omega⟩
    ·have hcmp:((a[n].toNat:Int)==(b[n].toNat:Int))=false:=by
      simp only[beq_eq_false_iff_ne,ne_eq];intro e;exact he (UInt8.toNat_inj.1 (by omega))
     have HN:=qb (HC.out.trans (by rw[qzc a b n (by omega) (by omega) he]))
     clear he;(go_wp2_with fail);go_region
     all_goals
      (go_wp2_with fail);go_ret
      exact⟨by rw[HN.out];rfl,HB.out⟩
   ·have HN:=qb (HC.out.trans (by rw[qbfz a b n (.inr (by omega))]))
    (go_wp2_with fail);go_region
    all_goals
     (go_wp2_with fail);go_ret
     exact⟨by rw[HN.out];rfl,HB.out⟩
  ·by_cases hlt:n<a.size
   ·have h1:n<b.size:=by omega
    by_cases he:a[n]=b[n]
    ·have hcmp:((a[n].toNat:Int)==(b[n].toNat:Int))=true:=by rw[he];simp
     have HN:=qb (HC.out.trans (by rw[qbgl a b n (by omega) (by omega) he]))
     clear he;(go_wp2_with fail);go_region
     all_goals
      (go_wp2_with fail);exact⟨⟨n+1,by omega,by omega,by go_num,by have:=HN.out;omega,HB.out⟩,by simp[intOf];omega⟩
    ·have hcmp:((a[n].toNat:Int)==(b[n].toNat:Int))=false:=by
      simp only[beq_eq_false_iff_ne,ne_eq];intro e;exact he (UInt8.toNat_inj.1 (by omega))
     have HN:=qb (HC.out.trans (by rw[qzc a b n (by omega) (by omega) he]))
     clear he;(go_wp2_with fail);go_region
     all_goals
      (go_wp2_with fail);go_ret
      exact⟨by rw[HN.out];rfl,HB.out⟩
   ·have HN:=qb (HC.out.trans (by rw[qbfz a b n (.inl (by omega))]))
    (go_wp2_with fail);go_region
    all_goals
     (go_wp2_with fail);go_ret
     exact⟨by rw[HN.out];rfl,HB.out⟩
theorem qbdt (s:QY) (a:Nat) (w:World) (hs:s.size≤256) (ha:a≤s.size) :
  Calls Tryz.prog 117 #[.string s,.int .i64 (a:Int)] w fun e w'=>e=.returned (.tuple #[.int .i64 (skL s.data.toList a:Int),.int .i64 (if skL s.data.toList a<s.data.toList.length∧s.data.toList[skL s.data.toList a]?≠some 44 then 10 else 0)])∧Below w.heap.size w w':=by
 have R1:=qb (fun W=>qjf s (a:Int) 6 W (by unfold maxLen;omega))
 have hk:=qgj s.data.toList a (by rw[qg];exact ha)
 rw[qg]at hk ⊢;have hr:runI s.data.toList (a:Int) 6=((skL s.data.toList a:Nat):Int):=by rw[qdl s a 6 ha];unfold skL;omega
 rw[hr]at R1;clear hr;generalize skL s.data.toList a=z at *;go_enter Tryz.func117,Tryz.ntmps117
 by_cases hz:z<s.size
 ·have hd:decide ((z:Int)<(s.size:Int))=true:=by simp;omega
  rw[qxb s z hz]
  by_cases hc:s[z]=44
  ·have hcmp:((s[z].toNat:Int) != 44)=false:=by rw[hc];rfl
   have HP:Hid ((if z<s.size∧some s[z]≠some 44 then (10:Int) else 0)=0):=qb (by rw[hc];simp)
   rw[HP.out];clear hc;go_wp2_with (go_at_call 60;refine(R1.out _).mono ?_;rintro e w' ⟨rfl,rfl⟩)
   go_ret2
   exact⟨rfl,Below.refl _ _⟩
  ·have hcmp:((s[z].toNat:Int) != 44)=true:=by
    simp only[bne_iff_ne,ne_eq];intro e;exact hc (UInt8.toNat_inj.1 (by show _=44;omega))
   have HP:Hid ((if z<s.size∧some s[z]≠some 44 then (10:Int) else 0)=10):=qb (by rw[if_pos ⟨hz,by simpa using hc⟩])
   rw[HP.out];clear hc;go_wp2_with (go_at_call 60;refine(R1.out _).mono ?_;rintro e w' ⟨rfl,rfl⟩)
   go_ret2
   exact⟨rfl,Below.refl _ _⟩
 ·have hd:decide ((z:Int)<(s.size:Int))=false:=by simp;omega
  rw[if_neg (fun h=>hz h.1)];go_wp2_with (go_at_call 60;refine(R1.out _).mono ?_;rintro e w' ⟨rfl,rfl⟩)
  go_ret2
  exact⟨rfl,Below.refl _ _⟩
open World renaming alloc_heap_new → qbtk
open Go renaming World → QW
def rdF:Nat→Nat
 | 0=>149
 | 1=>151
 | 2=>151
 | 3=>154
 | 4=>154
 | 5=>154
 | 6=>154
 | 7=>159
 | _=>0
def hoF:Nat→Nat
 | 0=>150
 | 1=>152
 | 2=>153
 | 3=>155
 | 4=>156
 | 5=>157
 | 6=>158
 | 7=>160
 | _=>0
def opB (k:Nat):Bool:=k==0||k==1||k==3||k==4
def fnV (f:Nat):Value:=if f=0 then .nilFunc else .func (.func f) #[] #[]
def qjl:Array Value:=#[.string ⟨#[126,61]⟩,.func (.func 149) #[] #[],.func (.func 150) #[] #[],.bool true,.string ⟨#[61,61]⟩,.func (.func 151) #[] #[],.func (.func 152) #[] #[],.bool true,.string ⟨#[33,61]⟩,.func (.func 151) #[] #[],.func (.func 153) #[] #[],.bool false,.string ⟨#[60,61]⟩,.func (.func 154) #[] #[],.func (.func 155) #[] #[],.bool true,.string ⟨#[62,61]⟩,.func (.func 154) #[] #[],.func (.func 156) #[] #[],.bool true,.string ⟨#[60]⟩,.func (.func 154) #[] #[],.func (.func 157) #[] #[],.bool false,.string ⟨#[62]⟩,.func (.func 154) #[] #[],.func (.func 158) #[] #[],.bool false,.string ⟨#[61,61,61]⟩,.func (.func 159) #[] #[],.func (.func 160) #[] #[],.bool false]
theorem qxg (w:QW):Calls Tryz.prog 134 #[] w fun e w'=>e=.returned (.slice (some ⟨w.heap.size,0,none⟩) 8 8)∧w'=w.alloc (.cells qjl 57):=by
 go_enter Tryz.func134,Tryz.ntmps134
 (go_wp2_with fail);go_ret
 exact⟨rfl,rfl⟩
structure OW (w W:QW) (k:Nat):Prop where
 res:W.heap[w.heap.size]? = some (.cells #[.string ⟨#[]⟩,.nilFunc,.nilFunc,.bool false] 57 (0,0))
 top:W.heap[w.heap.size+1]? = some (.cells #[.string (qd (sgn k)),fnV (rdF k),fnV (hoF k),.bool (opB k)] 57 (0,0))
 row:W.heap[w.heap.size+2]? = some (.cells qjl 57 (0,0))
 bel:Below w.heap.size w W
theorem OW.lt {w W:QW} {k:Nat} (h:OW w W k):w.heap.size+2<W.heap.size:=(Array.getElem?_eq_some_iff.1 h.row).1
theorem OW.below {w W W':QW} {k:Nat} (h:OW w W k) (hb:Below W.heap.size W W'):OW w W' k:=
 ⟨(hb.block _ (by have:=h.lt;omega)).trans h.res,(hb.block _ (by have:=h.lt;omega)).trans h.top,(hb.block _ h.lt).trans h.row,h.bel.trans (hb.mono (by have:=h.lt;omega))⟩
theorem put4 {W:QW} {B:Nat} {t:TypeId} {u0 u1 u2 u3:Value} (v0 v1 v2 v3:Value) (h:W.heap[B]? = some (.cells #[u0,u1,u2,u3] t (0,0))) :
  ((((W.setCell ⟨B,0,none⟩ v0).setCell ⟨B,1,none⟩ v1).setCell ⟨B,2,none⟩ v2).setCell ⟨B,3,none⟩ v3).heap[B]? = some (.cells #[v0,v1,v2,v3] t (0,0)):=qw 3 v3 (qw 2 v2 (qw 1 v1 (qw 0 v0 h)))
theorem qblr {n:Nat} {w W:QW} {B:Nat} (v0 v1 v2 v3:Value) (h:Below n w W) (hB:n≤B):Below n w ((((W.setCell ⟨B,0,none⟩ v0).setCell ⟨B,1,none⟩ v1).setCell ⟨B,2,none⟩ v2).setCell ⟨B,3,none⟩ v3):=
 (((h.setCell (p:=⟨B,0,none⟩) hB _).setCell (p:=⟨B,1,none⟩) hB _).setCell (p:=⟨B,2,none⟩) hB _).setCell (p:=⟨B,3,none⟩) hB _
theorem lies4 {W:QW} {B:Nat} {ps:List (Nat×Obj)} (v0 v1 v2 v3:Value) (h:Lies W ps) (hn:∀ p∈ps,p.1≠B):Lies ((((W.setCell ⟨B,0,none⟩ v0).setCell ⟨B,1,none⟩ v1).setCell ⟨B,2,none⟩ v2).setCell ⟨B,3,none⟩ v3) ps:=
 (((h.other B 0 v0 hn).other B 1 v1 hn).other B 2 v2 hn).other B 3 v3 hn
theorem OW.put {w W:QW} {k:Nat} (h:OW w W k) (j:Nat):OW w ((((W.setCell ⟨w.heap.size+1,0,none⟩ (.string (qd (sgn j)))).setCell ⟨w.heap.size+1,1,none⟩ (fnV (rdF j))).setCell ⟨w.heap.size+1,2,none⟩ (fnV (hoF j))).setCell ⟨w.heap.size+1,3,none⟩ (.bool (opB j))) j:=by
 have l:Lies W [(w.heap.size,_),(w.heap.size+2,_)]:=Lies.cons h.res (Lies.cons h.row (Lies.nil W));have l1:=lies4 (B:=w.heap.size+1) (.string (qd (sgn j))) (fnV (rdF j)) (fnV (hoF j)) (.bool (opB j)) l (by intro p hp;simp at hp;rcases hp with rfl|rfl<;>simp)
 exact⟨l1.head,put4 _ _ _ _ h.top,l1.tail.head,qblr _ _ _ _ h.bel (by simp)⟩
theorem OW.start (w:QW):OW w (((w.alloc (.cells #[.string ⟨#[]⟩,.nilFunc,.nilFunc,.bool false] 57)).alloc (.cells #[.string ⟨#[]⟩,.nilFunc,.nilFunc,.bool false] 57)).alloc (.cells qjl 57)) 8:=by
 have h1:=qbtk w (.cells #[.string ⟨#[]⟩,.nilFunc,.nilFunc,.bool false] 57);have b1:Below w.heap.size w (w.alloc (.cells #[.string ⟨#[]⟩,.nilFunc,.nilFunc,.bool false] 57)):=(Below.refl _ w).alloc (Nat.le_refl _) _;have s1:(w.alloc (.cells #[.string ⟨#[]⟩,.nilFunc,.nilFunc,.bool false] 57)).heap.size=w.heap.size+1:=by simp
 generalize w.alloc (.cells #[.string ⟨#[]⟩,.nilFunc,.nilFunc,.bool false] 57)=A at *;have h2:=qbtk A (.cells #[.string ⟨#[]⟩,.nilFunc,.nilFunc,.bool false] 57);have l2:=(Lies.cons h1 (Lies.nil A)).alloc (.cells #[.string ⟨#[]⟩,.nilFunc,.nilFunc,.bool false] 57);have b2:Below w.heap.size w (A.alloc (.cells #[.string ⟨#[]⟩,.nilFunc,.nilFunc,.bool false] 57)):=b1.alloc (by omega) _
 have s2:(A.alloc (.cells #[.string ⟨#[]⟩,.nilFunc,.nilFunc,.bool false] 57)).heap.size=w.heap.size+2:=by simp[s1]
 rw[s1]at h2;generalize A.alloc (.cells #[.string ⟨#[]⟩,.nilFunc,.nilFunc,.bool false] 57)=C at *;have h3:=qbtk C (.cells qjl 57);have l3:=(Lies.cons h2 l2).alloc (.cells qjl 57);rw[s2]at h3;exact⟨l3.tail.head,l3.head,h3,b2.alloc (by omega) _⟩
theorem OW.seen {w W:QW} {k:Nat} (h:OW w W k):W.cell? ⟨w.heap.size+1,0,none⟩=some (.string (qd (sgn k)))∧W.cell? ⟨w.heap.size+1,1,none⟩=some (fnV (rdF k))∧W.cell? ⟨w.heap.size+1,2,none⟩=some (fnV (hoF k))∧W.cell? ⟨w.heap.size+1,3,none⟩=some (.bool (opB k)) ∧
  W.frozen? ⟨w.heap.size+1,0,none⟩=false∧W.frozen? ⟨w.heap.size+1,1,none⟩=false∧W.frozen? ⟨w.heap.size+1,2,none⟩=false∧W.frozen? ⟨w.heap.size+1,3,none⟩=false:=
 ⟨qc 0 h.top rfl,qc 1 h.top rfl,qc 2 h.top rfl,qc 3 h.top rfl,qf 0 h.top,qf 1 h.top,qf 2 h.top,qf 3 h.top⟩
theorem OW.res4 {w W:QW} {k:Nat} (h:OW w W k):W.cell? ⟨w.heap.size,0,none⟩=some (.string ⟨#[]⟩)∧W.cell? ⟨w.heap.size,1,none⟩=some .nilFunc∧W.cell? ⟨w.heap.size,2,none⟩=some .nilFunc∧W.cell? ⟨w.heap.size,3,none⟩=some (.bool false) ∧
  W.frozen? ⟨w.heap.size,0,none⟩=false∧W.frozen? ⟨w.heap.size,1,none⟩=false∧W.frozen? ⟨w.heap.size,2,none⟩=false∧W.frozen? ⟨w.heap.size,3,none⟩=false:=
 ⟨qc 0 h.res rfl,qc 1 h.res rfl,qc 2 h.res rfl,qc 3 h.res rfl,qf 0 h.res,qf 1 h.res,qf 2 h.res,qf 3 h.res⟩
theorem qtz (k:Nat) (h:k<8):qjl[k*4]? = some (.string (qd (sgn k)))∧qjl[k*4+1]? = some (fnV (rdF k))∧qjl[k*4+2]? = some (fnV (hoF k))∧qjl[k*4+3]? = some (.bool (opB k))∧rdF k≠0∧hoF k≠0:=by
 match k,h with
 | 0,_=>exact⟨rfl,rfl,rfl,rfl,Nat.ne_of_beq_eq_false rfl,Nat.ne_of_beq_eq_false rfl⟩
 | 1,_=>exact⟨rfl,rfl,rfl,rfl,Nat.ne_of_beq_eq_false rfl,Nat.ne_of_beq_eq_false rfl⟩
 | 2,_=>exact⟨rfl,rfl,rfl,rfl,Nat.ne_of_beq_eq_false rfl,Nat.ne_of_beq_eq_false rfl⟩
 | 3,_=>exact⟨rfl,rfl,rfl,rfl,Nat.ne_of_beq_eq_false rfl,Nat.ne_of_beq_eq_false rfl⟩
 | 4,_=>exact⟨rfl,rfl,rfl,rfl,Nat.ne_of_beq_eq_false rfl,Nat.ne_of_beq_eq_false rfl⟩
 | 5,_=>exact⟨rfl,rfl,rfl,rfl,Nat.ne_of_beq_eq_false rfl,Nat.ne_of_beq_eq_false rfl⟩
 | 6,_=>exact⟨rfl,rfl,rfl,rfl,Nat.ne_of_beq_eq_false rfl,Nat.ne_of_beq_eq_false rfl⟩
 | 7,_=>exact⟨rfl,rfl,rfl,rfl,Nat.ne_of_beq_eq_false rfl,Nat.ne_of_beq_eq_false rfl⟩
theorem fin115 {R:Ending→QW→Prop} (tmps:Array Value) (W:QW) (B:Nat) (x:QY) (f g:Value) (b:Bool) (z e:Int)
  (h4:tmps.getD 4 undef=.pointer (some ⟨B,0,none⟩)) (h5:tmps.getD 5 undef=.int .i64 z) (h6:tmps.getD 6 undef=.int .i64 e) (e1:W.heap[B]? = some (.cells #[.string x,f,g,.bool b] 57 (0,0)))
  (hR:R (.returned (.tuple #[.agg #[.string x,f,g,.bool b],.int .i64 z,.int .i64 e])) W):bodyPost Tryz.prog Tryz.f115 R .ret { tmps:=tmps,defers:=[] } W:=by
 have r0:=qc 0 e1 rfl;have r1:=qc 1 e1 rfl;have r2:=qc 2 e1 rfl;have r3:=qc 3 e1 rfl;rw[Array.getD_eq_getD_getElem?]at h4 h5 h6;refine⟨rfl,_,?_,hR⟩;simp[results,Tryz.results115,go_sem,h4,h5,h6,r0,r1,r2,r3]
 try rfl
set_option maxHeartbeats 400000
def RdAt (W:World) (B:Nat) (s:QY) (a:Nat):Prop:=W.heap[B]? = some (.cells #[.string s,.int .i64 (a:Int)] 122 (0,0))
theorem RdAt.seen {W:World} {B:Nat} {s:QY} {a:Nat} (h:RdAt W B s a):W.cell? ⟨B,0,none⟩=some (.string s)∧W.cell? ⟨B,1,none⟩=some (.int .i64 (a:Int))∧W.frozen? ⟨B,1,none⟩=false:=
 ⟨qc 0 h rfl,qc 1 h rfl,qf 1 h⟩
theorem RdAt.lt {W:World} {B:Nat} {s:QY} {a:Nat} (h:RdAt W B s a):B<W.heap.size:=(Array.getElem?_eq_some_iff.1 h).1
theorem RdAt.drewN {W:World} {B:Nat} {s:QY} {a:Nat} (h:RdAt W B s a) (n:Nat):RdAt (W.drewN n) B s a:=by unfold RdAt;rw[qbx];exact h
theorem RdAt.place {W:World} {B:Nat} {s:QY} {a:Nat} (h:RdAt W B s a) (x:Nat):RdAt (W.setCell ⟨B,1,none⟩ (.int .i64 (x:Int))) B s x:=qw 1 (.int .i64 (x:Int)) h
theorem RdAt.below {W W':World} {B:Nat} {s:QY} {a:Nat} (h:RdAt W B s a) (hb:Below W.heap.size W W'):RdAt W' B s a:=(hb.block B h.lt).trans h
def qgc (c:UInt8):Bool:=c==45||c==95||c==46
def qbd (l:QB) (a:Nat):Nat:=if (l[a]?.map qgc).getD false then a+1 else a
theorem qtm (B:Nat) (s:QY) (a:Nat) (w:World) (h:RdAt w B s a) (ha:a≤s.size) :
  Calls Tryz.prog 140 #[.pointer (some ⟨B,0,none⟩)] w fun r w'=>r=.returned (.string (qd (s.data.toList.drop a)))∧∃ n,w'=w.drewN n:=by
 obtain⟨c0,c1,f1⟩:=h.seen;clear h;have h0:(0:Int)≤(a:Int):=Int.natCast_nonneg _;have h1:(a:Int)≤(s.size:Int):=by omega
 go_enter Tryz.func140,Tryz.ntmps140
 (go_wp2_with fail);go_quiet (fail)
 (go_wp2_with fail);go_ret
 exact⟨qnr (by rw[qfv]),_,rfl⟩
theorem qhh (s:QY) (a:Nat) (w:World) :
  Calls Tryz.prog 136 #[.string s,.int .i64 (a:Int)] w fun e w'=>e=.returned (.int .i64 (misL s.size a))∧w'=w:=by
 by_cases h:a=s.size
 ·have hb:((a:Int)==(s.size:Int))=true:=by simp;omega
  have HM:Hid (misL s.size a=11):=if_pos h;clear h;go_enter Tryz.func136,Tryz.ntmps136
  (go_wp2_with fail);go_ret
  exact⟨by rw[HM.out];rfl,rfl⟩
 ·have hb:((a:Int)==(s.size:Int))=false:=by simp;omega
  have HM:Hid (misL s.size a=10):=if_neg h;clear h;go_enter Tryz.func136,Tryz.ntmps136
  (go_wp2_with fail);go_ret
  exact⟨by rw[HM.out];rfl,rfl⟩
theorem qblg (B:Nat) (s:QY) (a:Nat) (w:World) (h:RdAt w B s a) :
  Calls Tryz.prog 123 #[.pointer (some ⟨B,0,none⟩)] w fun r w'=>r=.returned (.int .i64 (misL s.size a))∧∃ n,w'=w.drewN n:=by
 obtain⟨c0,c1,f1⟩:=h.seen;clear h;have CM:=qb (qhh s a);go_enter Tryz.func123,Tryz.ntmps123
 (go_wp2_with fail);go_quiet ((go_at_call 136;exact Calls.quiet_of_same (CM.out _)))
 (go_wp2_with fail);go_ret
 exact⟨rfl,_,rfl⟩
theorem qgw (s:QY) (w:World) (hs:s.size≤maxLen) :
  Calls Tryz.prog 133 #[.string s] w fun e w'=>e=.returned (.bool (digB s.data.toList))∧w'=w:=by
 by_cases hp:0<s.size
 ·have hb:=eqE s hp;have hI:runI s.data.toList 0 1=(qn 1 s.data.toList:Int):=by have:=qdl s 0 1 (by omega);simpa using this
  have HI:=qb hI;have HE:=qb (emp s hp);clear hI;go_enter Tryz.func133,Tryz.ntmps133
  (go_wp2_with fail);refine(qjf _ _ _ _ hs).mono ?_;rintro e w' ⟨rfl,rfl⟩;(go_wp2_with fail);go_ret
  refine⟨qcb ?_,rfl⟩;rw[digB,HE.out,HI.out,qg];simp;rw[Bool.eq_iff_iff];simp;omega
 ·have:=size0 s hp;subst this;go_enter Tryz.func133,Tryz.ntmps133
  (go_wp2_with fail);go_ret
  exact⟨rfl,rfl⟩
def qbt (t:QB):QB:=if digB t then qp t else t
theorem qzb (s:QY) (w:World) (hs:s.size≤maxLen) :
  Calls Tryz.prog 143 #[.string s] w fun e w'=>e=.returned (.string (qd (qbt s.data.toList)))∧w'=w:=by
 have D:=qb (qgw s w hs);unfold qbt;cases hd:digB s.data.toList
 ·rw[hd]at D;rw[if_neg (by simp)]
  go_enter Tryz.func143,Tryz.ntmps143
  (go_wp2_with fail);refine D.out.mono ?_;rintro e w' ⟨rfl,hw⟩;rw[hw];clear hw w';(go_wp2_with fail);go_ret
  exact⟨qnr (qdb s).symm,rfl⟩
 ·rw[hd]at D;rw[if_pos rfl];go_enter Tryz.func143,Tryz.ntmps143
  (go_wp2_with fail);refine D.out.mono ?_;rintro e w' ⟨rfl,hw⟩;rw[hw];clear hw w';(go_wp2_with fail);refine(qjt _ _ hs).mono ?_;rintro e w' ⟨rfl,hw⟩;rw[hw];clear hw w';(go_wp2_with fail);go_ret
  exact⟨rfl,rfl⟩
end Go.Proofs.YtabmfdedbpmfmaaGreat
