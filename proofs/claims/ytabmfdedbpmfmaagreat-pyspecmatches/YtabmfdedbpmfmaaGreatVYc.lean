/- Walks: the document's Parse in two shapes, its Normal. -/
import Derived.Test.YtabmfdedbpmfmaaGreatVQc
import Derived.ProofKit
import Derived.OpenShut
import Derived.ShutString
import Derived.ChangeOld
import Derived.Below
import Derived.SizedLaws
import Derived.SliceStrings
import Derived.Deep.Fields
import Derived.Test.YtabmfdedbpmfmaaGreatVPu
import Derived.Test.YtabmfdedbpmfmaaGreatVXo
namespace Go.Proofs.YtabmfdedbpmfmaaGreat
open Bool renaming and_eq_true → qbtg
set_option linter.unusedVariables false
theorem qpf (k:Int):∀ t:QB,(∀ c∈t,isC (c.toNat:Int) k=true)→qn k t=t.length
 | [],_=>rfl
 | c::t,h=>by
  rw[qn,if_pos (h c List.mem_cons_self),qpf k t (fun c hc=>h c (List.mem_cons_of_mem _ hc))]
  rfl
theorem qws (k:Int):∀ t:QB,qn k t=t.length→∀ c∈t,isC (c.toNat:Int) k=true
 | [],_,c,h=>by cases h
 | d::t,h,c,hc=>by
  have hd:isC (d.toNat:Int) k=true:=by
   cases hh:isC (d.toNat:Int) k
   ·rw[qn,hh]at h;simp at h
   ·rfl
  rw[qn,if_pos hd]at h;rcases List.mem_cons.1 hc with rfl|hc
  ·exact hd
  ·exact qws k t (by simpa using h) c hc
theorem qrb (k:Int):∀ m:QB,qn k (m.take (qn k m))=(m.take (qn k m)).length
 | []=>rfl
 | c::r=>by
  rw[qn];split
  ·rename_i h;rw[List.take_succ_cons,qn,if_pos h,qrb k r]
   rfl
  ·rfl
theorem qbjc:∀ (l:QB) (c:UInt8),c∈qp l→c=48∨c∈l
 | [],c,h=>.inl (by simpa[qp] using h)
 | d::r,c,h=>by
  rw[qp]at h;split at h
  ·rcases qbjc r c h with h|h
   ·exact .inl h
   ·exact .inr (List.mem_cons_of_mem _ h)
  ·exact .inr h
theorem qxx:∀ l:QB,qp (qp l)=qp l∧qp l≠[]
 | []=>⟨rfl,by simp[qp]⟩
 | d::r=>by
  rw[qp];split
  ·exact qxx r
  ·rename_i h;exact⟨by rw[qp,if_neg h],by simp⟩
theorem qpr (l:QB) (h:qn 1 l=l.length):qbg (qp l)=true:=by
 have hi:=qxx l;have hr:qn 1 (qp l)=(qp l).length:=by
  refine qpf 1 _ fun c hc=>?_;rcases qbjc l c hc with rfl|hc
  ·rfl
  ·exact qws 1 l h c hc
 unfold qbg digB;simp only[qbtg,beq_iff_eq,Bool.not_eq_true',List.isEmpty_eq_false_iff];exact⟨⟨hi.2,hr⟩,hi.1⟩
theorem qbpc {l:QB} (h:digB l=true):l≠[]∧qn 1 l=l.length:=by
 unfold digB at h;simp only[qbtg,beq_iff_eq,Bool.not_eq_true',List.isEmpty_eq_false_iff]at h;exact h
theorem qbgj (l:QB) (a n:Nat):seg l a (a+n)=(l.drop a).take n:=by
 unfold seg;rw[List.drop_take]
 congr 1
 omega
theorem digT_run (l:QB) (a:Nat):qn 1 (digT l a)=(digT l a).length:=by
 unfold digT digE;rw[qbgj];exact qrb 1 _
theorem qqc (l:QB) (a:Nat):qbg (qp (digT l a))=true:=qpr _ (digT_run l a)
theorem qbhv (l:QB) (k:Int) (seps:QB):∀ (n a:Nat),l.length-a=n→∀ x∈qbf l k seps a,seg l x.1 x.2≠[]∧qn k (seg l x.1 x.2)=(seg l x.1 x.2).length:=by
 intro n
 induction n using Nat.strongRecOn with
 | ind n ih=>
  intro a hn x hx;rw[qbf]at hx
  by_cases h0:qn k (l.drop a)=0
  ·rw[if_pos h0]at hx;cases hx
  ·rw [if_neg h0]at hx;rcases List.mem_cons.1 hx with rfl|hx
   ·show seg l a (a+qn k (l.drop a))≠[]∧_;have hle:=qjg k (l.drop a);dsimp only;rw[qbgj];refine⟨?_,qrb k _⟩;intro he;have:=congrArg List.length he;rw[List.length_take,List.length_nil]at this;omega
   ·by_cases h1:∃ c,l[a+qn k (l.drop a)]? = some c∧seps.contains c=true
    ·rw[dif_pos h1]at hx;obtain⟨c,hc,_⟩:=h1;have hlt:=(List.getElem?_eq_some_iff.1 hc).1;exact ih (l.length-(a+qn k (l.drop a)+1)) (by omega) _ rfl x hx
    ·rw[dif_neg h1]at hx;cases hx
theorem qblv {c:UInt8} (h:isC (c.toNat:Int) 1=true):isC (c.toNat:Int) 5=true:=by
 simp only[isC]at h ⊢;simp at h ⊢;omega
theorem low_seg (l:QB) (a b:Nat) (h:qk l=l):qk (seg l a b)=seg l a b:=by
 unfold qk seg at *;rw[List.map_drop,List.map_take,h]
theorem low_idem (l:QB):qk (qk l)=qk l:=by
 unfold qk;rw[List.map_map];refine List.map_congr_left fun c _=>?_;show lowC (lowC c)=lowC c
 by_cases h:isC (c.toNat:Int) 3=true
 ·have hc:lowC c=c+32:=by unfold lowC;rw[if_pos h]
  rw[hc];unfold lowC;rw[if_neg];simp only[isC]at h ⊢;simp at h ⊢;omega
 ·have hc:lowC c=c:=by unfold lowC;rw[if_neg h]
  rw[hc,hc]
theorem loc_fit (p:QB) (h0:p≠[]) (h1:qn 5 p=p.length) (h2:qk p=p):locB (qbt p)=true:=by
 unfold locB;cases hd:digB p
 ·have e:qbt p=p:=by unfold qbt;rw[hd];rfl
  rw[e,e,h1,h2];simp[h0]
 ·have e:qbt p=qp p:=by unfold qbt;rw[hd];rfl
  obtain ⟨d1,d2⟩:=qbpc hd;have hf:=qpr p d2;obtain⟨t1,t2,t3,t4⟩:=trim_of hf;rw[e,t4];have l5:qn 5 (qp p)=(qp p).length:=qpf 5 _ fun c hc=>qblv (qbbp _ t2 c hc);have ll:qk (qp p)=qp p:=by
   unfold qk;rw[List.map_congr_left (g:=id),List.map_id];intro c hc;exact dig_low (qbbp _ t2 c hc)
  rw[l5,ll];simp[t1]
theorem read_fit (u:QB) (hu:qk u=u) (h:(verX u).1=0):FitT (ql u):=by
 have hr:(vrel u).length≠0:=by
  intro h0;unfold verX at h;rw[if_pos h0]at h;exact qnh _ _ h
 refine⟨?_,?_,?_,?_,?_,?_,?_,?_⟩
 ·show qbg (epoT u (vp1 u))=true;unfold epoT;split
  ·rename_i he;unfold epoB at he;simp only[qbtg]at he;exact qpr _ (qbpc he.2).2
  ·rfl
 ·show rowL u (vrel u)≠[];intro he;apply hr;have:=congrArg List.length he;simpa[rowL] using this
 ·show (rowL u (vrel u)).all qbg=true;rw[List.all_eq_true];intro t ht;obtain⟨x,hx,rfl⟩:=List.mem_map.1 ht;obtain⟨s1,s2⟩:=qbhv u 1 [46] _ _ rfl x hx;have hd:digB (seg u x.1 x.2)=true:=by
   unfold digB;simp only[qbtg,beq_iff_eq,Bool.not_eq_true',List.isEmpty_eq_false_iff];exact⟨s1,s2⟩
  have e:qbt (seg u x.1 x.2)=qp (seg u x.1 x.2):=by unfold qbt;rw[hd];rfl
  rw[e];exact qpr _ s2
 ·show preC u (vp3 u)=0∨preC u (vp3 u)=97∨preC u (vp3 u)=98∨preC u (vp3 u)=114;unfold preC;split
  ·exact .inl rfl
  ·split
   ·exact .inr (.inl rfl)
   ·split
    ·exact .inr (.inr (.inl rfl))
    ·exact .inr (.inr (.inr rfl))
 ·show numB (stN u (vp3 u) qbp) (preC u (vp3 u) != 0)=true;unfold stN preC;cases qbl u (vp3 u) qbp with
  | none=>rfl
  | some x=>
   dsimp only;have hb:((if x=[97,108,112,104,97]∨x=[97] then (97:Int) else if x=[98,101,116,97]∨x=[98] then 98 else 114) != 0)=true:=by
    (repeat' split)<;>rfl
   rw[hb];exact qqc _ _
 ·show numB (posN u (vp4 u)) (posB u (vp4 u))=true;unfold posN posB;split
  ·exact qqc _ _
  ·unfold stN;cases qbl u (vp4 u) qdm with
   | none=>rfl
   | some x=>exact qqc _ _
 ·show numB (stN u (vp5 u) qbk) (qbl u (vp5 u) qbk).isSome=true;unfold stN;cases qbl u (vp5 u) qbk with
  | none=>rfl
  | some x=>exact qqc _ _
 ·show(rowL u (qfb u)).all locB=true;rw[List.all_eq_true];intro t ht;obtain⟨x,hx,rfl⟩:=List.mem_map.1 ht;unfold qfb at hx;split at hx
  ·obtain⟨s1,s2⟩:=qbhv u 5 [45,95,46] _ _ rfl x hx;exact loc_fit _ s1 s2 (low_seg _ _ _ hu)
  ·cases hx
def RL (R:QB):Prop:=R=[]∨∃ r,R=43::r
def RD (R:QB):Prop:=RL R∨∃ r,R=46::100::101::118::r
theorem qjm {n:QB} {b:Bool} (h:numB n b=true) (hb:b=false):n=[]:=by
 subst hb;simpa[numB] using h
theorem qbdf {t:QB} (h:locB t=true):t≠[]∧qn 5 t=t.length∧qk t=t∧qbt t=t:=by
 unfold locB at h;simp only[Bool.and_eq_true,beq_iff_eq,Bool.not_eq_true',List.isEmpty_eq_false_iff]at h;exact⟨h.1.1.1,h.1.1.2,h.1.2,h.2⟩
open Go.ChangeShapes Go.WideShapes Go.ChangeAt Go.RowKit
theorem Tryz.cells9:Tryz.prog.cellsOf 9=1:=by kernel_rfl
def lenP (x:PepL):Nat:=x.ep.length+lenI x.rel+x.n.length+x.m.length+x.k.length+lenI x.loc
theorem qzt (x:PepL) (h:lenP x≤1048576):MidP x:=by
 have h1:=qbch x.rel;have h2:=qbch x.loc;unfold lenP at h;exact⟨by omega,by omega,by omega,by omega,⟨by omega,fun t ht=>by have:=h1.2 t ht;omega⟩,⟨by omega,fun t ht=>by have:=h2.2 t ht;omega⟩⟩
open Go.RowKit Go.Shelf
theorem fit_of {x:PepL} (h:fitR x=true):FitT x:=by
 unfold fitR letB at h;simp only[Bool.and_eq_true,Bool.or_eq_true,beq_iff_eq,Bool.not_eq_true',List.isEmpty_eq_false_iff]at h;obtain⟨h1,h2,h3,h4,h5,h6,h7,h8⟩:=h;exact⟨h1,h2,h4,by omega,h6,h7,h8,h5⟩
theorem qkn {l:QB} (h:okP l=true):(verX (qk l)).1=0∧l.length≤64:=by
 unfold okP at h;simp only[Bool.and_eq_true,decide_eq_true_eq]at h;exact⟨h.2,h.1⟩
theorem qnx {l:QB} (h:okP l=true):FitT (ql (qk l)):=read_fit _ (low_idem l) (qkn h).1
theorem qcc (s:QY) (w:World) (h:okP s.data.toList=true) :
  Calls Tryz.prog 25 #[.string s] w fun e w'=>∃ vr vl,e=.returned (.tuple #[pepV (qd (ql (qk s.data.toList)).ep) vr (ql (qk s.data.toList)).c (qd (ql (qk s.data.toList)).n) (ql (qk s.data.toList)).b (qd (ql (qk s.data.toList)).m) (ql (qk s.data.toList)).d (qd (ql (qk s.data.toList)).k) vl,.agg #[.int .i64 0,.int .i64 0]]) ∧
   qx w' vr (ql (qk s.data.toList)).rel∧qx w' vl (ql (qk s.data.toList)).loc∧Below w.heap.size w w':=by
 unfold okP at h;simp only[Bool.and_eq_true,decide_eq_true_eq]at h;refine(qph s w).mono ?_;rintro e w' ⟨hb,hp⟩;rw[if_neg (by omega),if_pos h.2]at hp
 obtain⟨v,rfl,⟨vr,vl,rfl,h1,h2⟩⟩:=hp;exact⟨vr,vl,rfl,qhw h1,qhw h2,hb⟩
theorem qct (s:QY) (w:World) (h:okP s.data.toList=false) :
  Calls Tryz.prog 25 #[.string s] w fun e w'=>e=.returned (.tuple #[.agg pepZ,.agg #[.int .i64 (errX s.data.toList).1,.int .i64 ((errX s.data.toList).2:Int)]])∧Below w.heap.size w w':=by
 refine(qph s w).mono ?_;rintro e w' ⟨hb,hp⟩;unfold okP at h;unfold errX
 by_cases hl:64<s.data.toList.length
 ·rw[if_pos hl]at hp ⊢;exact⟨hp,hb⟩
 ·rw [if_neg hl]at hp ⊢;have hx:¬ (verX (qk s.data.toList)).1=0:=fun he=>by
   rw[decide_eq_true (show s.data.toList.length≤64 by omega),decide_eq_true he]at h
   cases h
  rw[if_neg hx]at hp;exact⟨hp,hb⟩
structure SmallQ (x:PepL):Prop where
 e:x.ep.length≤65
 n:x.n.length≤65
 m:x.m.length≤65
 k:x.k.length≤65
 r:x.rel.length≤65∧∀ t∈x.rel,t.length≤65
 l:x.loc.length≤65∧∀ t∈x.loc,t.length≤65
theorem qkf (u:QB) (hu:u.length≤64):SmallQ (ql u):=by
 have h1:=qbpb u (vp1 u);have h2:=qvf u (vp3 u) qbp;have h3:=qbnr u (vp4 u);have h4:=qvf u (vp5 u) qbk;have r1:=qjv u 1 [46] _ (vp2 u) rfl;have r2:=qjv u 5 [45,95,46] _ (vp7 u) rfl;refine⟨?_,?_,?_,?_,qmx u hu _ ?_,qmx u hu _ ?_⟩
 ·show(epoT u (vp1 u)).length≤65;omega
 ·show(stN u (vp3 u) qbp).length≤65;omega
 ·show(posN u (vp4 u)).length≤65;omega
 ·show(stN u (vp5 u) qbk).length≤65;omega
 ·show(vrel u).length≤65;unfold vrel;omega
 ·unfold qfb;split
  ·unfold vloc;omega
  ·simp
theorem qnf {x:PepL} (h:SmallQ x):lenP x≤1048576:=by
 have h1:=qvj h.r;have h2:=qvj h.l;have a:=h.e;have b:=h.n;have c:=h.m;have d:=h.k;unfold lenP;omega
theorem qrh {x:PepL} (h:FitT x):fitR x=true:=by
 have hr:x.rel.isEmpty=false:=by
  have:=h.f2;cases hx:x.rel with
  | nil=>exact absurd hx this
  | cons a r=>rfl
 have hl:letB x.c=true:=by
  unfold letB;rcases h.f4 with e|e|e|e<;>rw[e]<;>rfl
 unfold fitR;rw[h.f1,hr,hl,h.f3,h.f8,h.f5,h.f6,h.f7]
 rfl
end Go.Proofs.YtabmfdedbpmfmaaGreat
