/- Plain laws: the document's reader reads what the program's r -/
import Derived.Test.YtabmfdedbpmfmaaGreatVPl
import Derived.Test.YtabmfdedbpmfmaaGreatVXd
namespace Go.Proofs.YtabmfdedbpmfmaaGreat
open Go.RowKit Go.Shelf
set_option linter.unusedVariables false
theorem qbbj (t:QB) (c:UInt8):pfxB t [c]=(t[0]? == some c):=by
 unfold pfxB;cases t with
 | nil=>rfl
 | cons d r=>simp[List.isPrefixOf,Bool.beq_comm]
theorem drop_0 (l:QB) (a:Nat):(l.drop a)[0]? = l[a]?:=by rw[List.getElem?_drop];rfl
theorem qbbk:∀ t:QB,(hasB t&&(qn 1 (cutB t)==(cutB t).length))=(t[qn 1 t]? == some 33)∧(t[qn 1 t]? = some 33→cutB t=t.take (qn 1 t))
 | []=>⟨rfl,fun h=>by cases h⟩
 | c :: r=>by
  obtain⟨ih1,ih2⟩:=qbbk r
  by_cases h33:c=33
  ·subst h33;have e1:hasB (33::r)=true:=by unfold hasB Lib.indexByte;simp
   have e2:cutB (33::r)=[]:=by unfold cutB;simp
   have e3:qn 1 (33::r)=0:=by rw[qn,if_neg (by decide)]
   rw[e1,e2,e3];exact⟨rfl,fun _=>rfl⟩
  ·have e1:hasB (c::r)=hasB r:=by
    unfold hasB
    congr 1
    rw[Lib.indexByte];have hne:(c==33)=false:=by simpa using h33
    rw[if_neg (by simp[h33])]
    by_cases hi:Lib.indexByte r 33=-1
    ·simp[hi]
    ·have hge:=Lib.indexByte_ge r 33;simp only[hi,ne_eq,not_false_eq_true];simp;omega
   have e2:cutB (c::r)=c::cutB r:=by unfold cutB;rw[List.takeWhile_cons];simp[h33]
   rw[e1,e2];cases hc:isC (c.toNat:Int) 1
   ·have e3:qn 1 (c::r)=0:=by rw[qn,if_neg (by simp[hc])]
    have e4:qn 1 (c::cutB r)=0:=by rw[qn,if_neg (by simp[hc])]
    rw[e3,e4];refine⟨?_,fun h=>absurd (Option.some.inj h) h33⟩;simp[h33]
   ·have e3:qn 1 (c::r)=qn 1 r+1:=by rw[qn,if_pos hc]
    have e4:qn 1 (c::cutB r)=qn 1 (cutB r)+1:=by rw[qn,if_pos hc]
    rw[e3,e4,List.getElem?_cons_succ];refine⟨?_,fun h=>by rw[ih2 h];rfl⟩
    rw[←ih1]
    congr 1
    rw[List.length_cons,Bool.eq_iff_iff];simp
theorem epo_is (l:QB) (a:Nat):epoB l a=(decide (0<qn 1 (l.drop a))&&(l[a+qn 1 (l.drop a)]? == some 33)):=by
 unfold epoB;obtain⟨h1,h2⟩:=qbbk (l.drop a);rw[List.getElem?_drop]at h1 h2;unfold digB;cases hb:(l[a+qn 1 (l.drop a)]? == some 33)
 ·rw[hb]at h1;rw[Bool.and_false];cases hh:hasB (l.drop a)
  ·rfl
  ·rw[hh,Bool.true_and]at h1;rw[h1];simp
 ·rw [hb]at h1;rw[Bool.and_true];rw[Bool.and_eq_true]at h1;rw[h1.1,h1.2,Bool.and_true,Bool.true_and,h2 (by simpa using hb)]
  rw[Bool.eq_iff_iff];simp only[Bool.not_eq_true',decide_eq_true_eq,List.isEmpty_eq_false_iff,ne_eq,List.take_eq_nil_iff,not_or];constructor
  ·intro h;omega
  ·intro h;refine⟨by omega,fun e=>?_⟩
   rw[e]at h;simp[qn]at h
theorem epo_cut {l:QB} {a:Nat} (h:epoB l a=true):cutB (l.drop a)=seg l a (a+qn 1 (l.drop a))∧epoP l a=a+qn 1 (l.drop a)+1∧epoT l a=qp (seg l a (a+qn 1 (l.drop a))):=by
 have h':=h;rw[epo_is,Bool.and_eq_true]at h';have h2:=(qbbk (l.drop a)).2 (by rw[List.getElem?_drop];simpa using h'.2)
 have hlt:a+qn 1 (l.drop a)<l.length:=by
  have:=h'.2
  by_cases hl:a+qn 1 (l.drop a)<l.length
  ·exact hl
  ·rw[List.getElem?_eq_none (by omega)]at this;cases this
 have e:cutB (l.drop a)=seg l a (a+qn 1 (l.drop a)):=by rw[h2,qlh]
 refine⟨e,?_,?_⟩
 ·unfold epoP;rw[if_pos h,e,qpn _ _ _ (by omega)];omega
 ·unfold epoT;rw[if_pos h,e]
theorem epo_no {l:QB} {a:Nat} (h:epoB l a=false):epoP l a=a∧epoT l a=[48]:=by
 unfold epoP epoT;rw[if_neg (by simp[h]),if_neg (by simp[h])];exact⟨rfl,rfl⟩
theorem qrg {l:QB} {k e:Nat} (he:k+qn 1 (l.drop k)=e) (hn:e≠k) (h:(l[e]? == some 46)=false∨((l[e]? == some 46)=true∧clsB l (e+1) 1=false)):qbf l 1 [46] k=[(k,e)]:=by
 rcases h with h|⟨h1,h2⟩
 ·refine qkq l 1 _ k e he hn (fun c hc=>?_);rw[hc]at h;simpa using h
 ·rw[qhl l 1 _ k e he hn 46 (by simpa using h1) rfl,qgq l 1 _ (e+1) ((qhd l (e+1) 1).2 h2)]
theorem qbqz {l:QB} {k e:Nat} (he:k+qn 1 (l.drop k)=e) (hn:e≠k) (h1:(l[e]? == some 46)=true):qbf l 1 [46] k=(k,e)::qbf l 1 [46] (e+1):=
 qhl l 1 _ k e he hn 46 (by simpa using h1) rfl
theorem qxh (l:QB) (k:Nat) (h:qn 1 (l.drop k)≠0):qbt (seg l k (k+qn 1 (l.drop k)))=qp (seg l k (k+qn 1 (l.drop k))):=by
 have hd:digB (seg l k (k+qn 1 (l.drop k)))=true:=by
  have hle:=qjg 1 (l.drop k);have hlen:(seg l k (k+qn 1 (l.drop k))).length=qn 1 (l.drop k):=by rw[qlh,List.length_take];omega
  unfold digB;rw[hlen,qlh,qbhp];simp only[BEq.rfl,Bool.and_true,Bool.not_eq_true',List.isEmpty_eq_false_iff,ne_eq];intro e;rw[qlh,e]at hlen;simp at hlen;omega
 unfold qbt;rw[if_pos hd]
theorem qbpg (l:QB) (a:Nat):qhp l a=((l[a]? == some 45)&&clsB l (a+1) 1):=by
 unfold qhp;rw[qbbj,drop_0];cases h:(l[a]? == some 45)
 ·rfl
 ·have hm:qdg l a=true:=by
   have:l[a]? = some 45:=by simpa using h
   unfold qdg;rw[this];rfl
  rw[Bool.true_and,Bool.true_and];cases hc:clsB l (a+1) 1
  ·rw[(dig_f hm hc).2];rfl
  ·rw[(dig_t hm hc).2];have hr:qn 1 (l.drop (a+1))≠0:=fun h=>by rw[(qhd l (a+1) 1).1 h]at hc;cases hc
   have hle:=qjg 1 (l.drop (a+1));rw[qlh];simp only[Bool.not_eq_true',List.isEmpty_eq_false_iff,ne_eq,List.take_eq_nil_iff,not_or];exact⟨hr,fun e=>hr (by rw[e];rfl)⟩
theorem dash_dig {l:QB} {a:Nat} (h:qhp l a=true):digP l a=a+1+qn 1 (l.drop (a+1))∧digT l a=seg l (a+1) (a+1+qn 1 (l.drop (a+1)))∧clsB l (a+1) 1=true∧l[a]? = some 45:=by
 rw [qbpg,Bool.and_eq_true]at h;have hm:qdg l a=true:=by
  have:l[a]? = some 45:=by simpa using h.1
  unfold qdg;rw[this];rfl
 obtain⟨e1,e2⟩:=dig_t hm h.2;exact⟨e1,e2,h.2,by simpa using h.1⟩
theorem qbfj (s:QY) (a:Nat) (c:UInt8) (h:a<s.size):(s.data.toList[a]? == some c)=((s[a].toNat:Int)==(c.toNat:Int)):=by
 rw[qbcn s a h,Bool.eq_iff_iff];simp only[beq_iff_eq,Option.some.injEq];constructor
 ·intro h;rw[h]
 ·intro h;exact UInt8.toNat_inj.1 (by omega)
theorem qqv (s:QY) (a:Nat) (c:UInt8) (h:¬ a<s.size):(s.data.toList[a]? == some c)=false:=by rw[qbnt s a h];rfl
structure DV (w:World) (Q:Nat) (s:QY) (a:Nat) (e p:Int) (c0 c1 c2 c3 c4 c5 c6 c7 c8:Value) (xs ys:List Value) (W:World):Prop where
 bel:Below w.heap.size w W
 res:W.heap[w.heap.size]? = some (.cells #[.string ⟨#[]⟩,.slice none 0 0,.int .u8 0,.string ⟨#[]⟩,.bool false,.string ⟨#[]⟩,.bool false,.string ⟨#[]⟩,.slice none 0 0] 44 (0,0))
 fau:W.heap[w.heap.size+1]? = some (.cells #[.int .i64 0,.int .i64 0] 25 (0,0))
 lt:w.heap.size+1<Q
 rd:DrAt W Q s a e p
 ver:W.heap[Q+1]? = some (.cells #[c0,c1,c2,c3,c4,c5,c6,c7,c8] 44 (0,0))
 rel:W.ownsRow (Q+2) 9 1 c1 xs.length xs
 loc:W.ownsRow (Q+2) 9 1 c8 ys.length ys
section
variable {w:World} {Q:Nat} {s:ByteArray} {a a':Nat} {e p e' p':Int} {c0 c1 c2 c3 c4 c5 c6 c7 c8:Value} {xs ys:List Value} {W W':World}
theorem DV.szQ (h:DV w Q s a e p c0 c1 c2 c3 c4 c5 c6 c7 c8 xs ys W):Q+1<W.heap.size:=(Array.getElem?_eq_some_iff.1 h.ver).1
theorem DV.turn (h:DV w Q s a e p c0 c1 c2 c3 c4 c5 c6 c7 c8 xs ys W) (t:Turn Q W W') (r:DrAt W' Q s a' e' p'):DV w Q s a' e' p' c0 c1 c2 c3 c4 c5 c6 c7 c8 xs ys W':=by
 have hq:=h.szQ;have hl:=h.lt;refine⟨h.bel.trans (t.below (by omega) h.bel.size),(t.block _ (by omega) (by omega)).trans h.res,(t.block _ (by omega) (by omega)).trans h.fau,hl,r,(t.block _ hq (by omega)).trans h.ver,qbc h.rel t (by omega),qbc h.loc t (by omega)⟩
theorem DV.drewN (h:DV w Q s a e p c0 c1 c2 c3 c4 c5 c6 c7 c8 xs ys W) (n:Nat):DV w Q s a e p c0 c1 c2 c3 c4 c5 c6 c7 c8 xs ys (W.drewN n):=h.turn (Turn.drewN _ _ _) (h.rd.drewN _)
theorem DV.alloc (h:DV w Q s a e p c0 c1 c2 c3 c4 c5 c6 c7 c8 xs ys W) (o:Obj):DV w Q s a e p c0 c1 c2 c3 c4 c5 c6 c7 c8 xs ys (W.alloc o):=h.turn (Turn.ofBelow ((Below.refl _ W).alloc (Nat.le_refl _) o)) (h.rd.below ((Below.refl _ W).alloc (Nat.le_refl _) o))
theorem DV.seen (h:DV w Q s a e p c0 c1 c2 c3 c4 c5 c6 c7 c8 xs ys W):W.cell? ⟨Q+1,0,none⟩=some c0∧W.cell? ⟨Q+1,1,none⟩=some c1∧W.cell? ⟨Q+1,2,none⟩=some c2∧W.cell? ⟨Q+1,3,none⟩=some c3∧W.cell? ⟨Q+1,4,none⟩=some c4∧W.cell? ⟨Q+1,5,none⟩=some c5∧W.cell? ⟨Q+1,6,none⟩=some c6∧W.cell? ⟨Q+1,7,none⟩=some c7∧W.cell? ⟨Q+1,8,none⟩=some c8:=qdh h.ver
theorem DV.free (h:DV w Q s a e p c0 c1 c2 c3 c4 c5 c6 c7 c8 xs ys W) (o:Nat):W.frozen? ⟨Q+1,o,none⟩=false:=qf o h.ver
theorem DV.set (h:DV w Q s a e p c0 c1 c2 c3 c4 c5 c6 c7 c8 xs ys W) (o:Nat) (u:Value) {d0 d2 d3 d4 d5 d6 d7:Value} (hd:(#[c0,c1,c2,c3,c4,c5,c6,c7,c8]:Array Value).setIfInBounds o u=#[d0,c1,d2,d3,d4,d5,d6,d7,c8]):DV w Q s a e p d0 c1 d2 d3 d4 d5 d6 d7 c8 xs ys (W.setCell ⟨Q+1,o,none⟩ u):=by
 have hq:=h.szQ;have hl:=h.lt;have t:Turn (Q+1) W (W.setCell ⟨Q+1,o,none⟩ u):=Turn.set _ _ _ _;refine⟨h.bel.trans (t.below (by omega) h.bel.size),(t.block _ (by omega) (by omega)).trans h.res,(t.block _ (by omega) (by omega)).trans h.fau,hl,(t.block _ (by omega) (by omega)).trans h.rd,?_,qbc h.rel t (by omega),qbc h.loc t (by omega)⟩
 have:=qw o u h.ver;rw[hd]at this;exact this
theorem DV.setRel {ao ao':Option Addr} {n n' cv cv':Nat} {S S':List QB} (h:DV w Q s a e p c0 (.slice ao n cv) c2 c3 c4 c5 c6 c7 c8 (txsV S) ys W) (hn:n=S.length) (hg:W.grownBy W' (ao.map (·.block))) (ho:W'.ownsRow (Q+2) 9 1 (.slice ao' n' cv') n' (txsV S')) (hn':n'=S'.length) (hy:ys=[]) (h8:c8=.slice none 0 0) :
  DV w Q s a e p c0 (.slice ao' n' cv') c2 c3 c4 c5 c6 c7 c8 (txsV S') ys (W'.setCell ⟨Q+1,1,none⟩ (.slice ao' n' cv')):=by
 have hq:=h.szQ;have hl:=h.lt;have hs:=hg.size;have hr:=h.rel;rw[qlx,←hn]at hr;have hblk:∀ k,k<Q+2→k<W.heap.size→W'.heap[k]? = W.heap[k]?:=fun k hk hkw=>hg.block k hkw (fun e=>by have:=(qll hr k e.symm).1;omega)
 have t:Turn (Q+1) W' (W'.setCell ⟨Q+1,1,none⟩ (.slice ao' n' cv')):=Turn.set _ _ _ _;have hbl:Below w.heap.size w W':=⟨hg.os.trans h.bel.os,hg.tape.trans h.bel.tape,hg.output.trans h.bel.output,Nat.le_trans h.bel.size hg.size,fun k hk=>(hblk k (by omega) (Nat.lt_of_lt_of_le hk h.bel.size)).trans (h.bel.block k hk)⟩
 refine⟨hbl.trans (t.below (by omega) hbl.size),(t.block _ (by omega) (by omega)).trans ((hblk _ (by omega) (by omega)).trans h.res),(t.block _ (by omega) (by omega)).trans ((hblk _ (by omega) (by omega)).trans h.fau),hl,(t.block _ (by omega) (by omega)).trans ((hblk _ (by omega) (by omega)).trans h.rd),?_,?_,?_⟩
 ·have:=qw 1 (.slice ao' n' cv') ((hblk _ (by omega) hq).trans h.ver)
  exact this
 ·rw[qlx,←hn'];exact qbc ho t (by omega)
 ·subst hy h8;exact World.ownsRow_nil _ _ _ _
theorem DV.setLoc {v:Value} {zs:List Value} {b:Nat} (h:DV w Q s a e p c0 c1 c2 c3 c4 c5 c6 c7 c8 xs ys W) (ho:W.ownsRow b 9 1 v zs.length zs) (hb:Q+2≤b):DV w Q s a e p c0 c1 c2 c3 c4 c5 c6 c7 v xs zs (W.setCell ⟨Q+1,8,none⟩ v):=by
 have hq:=h.szQ;have hl:=h.lt;have t:Turn (Q+1) W (W.setCell ⟨Q+1,8,none⟩ v):=Turn.set _ _ _ _;refine⟨h.bel.trans (t.below (by omega) h.bel.size),(t.block _ (by omega) (by omega)).trans h.res,(t.block _ (by omega) (by omega)).trans h.fau,hl,(t.block _ (by omega) (by omega)).trans h.rd,?_,qbc h.rel t (by omega),qbc (qfg ho hb) t (by omega)⟩
 exact qw 8 v h.ver
end
end Go.Proofs.YtabmfdedbpmfmaaGreat
