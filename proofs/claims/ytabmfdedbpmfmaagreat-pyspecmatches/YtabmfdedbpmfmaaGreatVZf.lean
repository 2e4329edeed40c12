/- Walks: a version without its local part: the document's. -/
import Derived.Deep.Cut
import Derived.Test.YtabmfdedbpmfmaaGreatVIa
import Derived.Test.YtabmfdedbpmfmaaGreatVYb
import Derived.Test.YtabmfdedbpmfmaaGreatVZe
namespace Go.Proofs.YtabmfdedbpmfmaaGreat
open Go.RowKit Go.Shelf
open List renaming getElem?_eq_getElem → qbsc, getElem_mem → qbvk
set_option linter.unusedVariables false
set_option maxHeartbeats 4000000
set_option maxRecDepth 100000
theorem qbbh {a:QB} (h:qbg a=true):qp a=a:=by
 unfold qbg at h;simp only[Bool.and_eq_true,beq_iff_eq]at h;exact h.2
theorem qzs {a b:QB} (ha:qbg a=true) (hb:qbg b=true):(cmpD a b==0)=(a==b):=by
 rw[Bool.eq_iff_iff,beq_iff_eq,beq_iff_eq];unfold cmpD;rw[qbbh ha,qbbh hb];constructor
 ·intro h;split at h
  ·cases h
  ·split at h
   ·cases h
   ·exact cmpB_eq _ _ h
 ·rintro rfl;rw[if_neg (by omega),if_neg (by omega)]
  have:=qbqw.self a;unfold cmpD at this;rw[if_neg (by omega),if_neg (by omega),qbbh ha]at this
  exact this
theorem pad_take (r1 r2:List QB):((r1++List.replicate (r2.length-r1.length) [48]).take r2.length==r2)=decide (∀ i (h:i<r2.length),r1.getD i [48]=r2[i]):=by
 rw [Bool.eq_iff_iff,beq_iff_eq,decide_eq_true_eq];have hg:∀ i,i<r2.length→((r1++List.replicate (r2.length-r1.length) [48]).take r2.length)[i]? = some (r1.getD i [48]):=by
  intro i hi;rw[List.getElem?_take_of_lt hi]
  by_cases h:i<r1.length
  ·rw[List.getElem?_append_left h,List.getD_eq_getElem?_getD,qbsc h]
   rfl
  ·have hn:r1[i]? = none:=List.getElem?_eq_none (by omega)
   rw[List.getElem?_append_right (by omega),List.getD_eq_getElem?_getD,hn,List.getElem?_replicate,if_pos (by omega)]
   rfl
 constructor
 ·intro h i hi;have:=hg i hi;rw[h,qbsc hi]at this;exact(Option.some.inj this).symm
 ·intro h;apply List.ext_getElem?;intro i
  by_cases hi:i<r2.length
  ·rw[hg i hi,h i hi,qbsc hi]
  ·rw[List.getElem?_eq_none (by rw[List.length_take];omega),List.getElem?_eq_none (by omega)]
theorem qsd (x:PepL) (ep:QB) (rs:List QB) (r1 r2:Option Addr) (c1 c2:Nat) (v2 v3 v4 v5 v6 v7 v8:Value) (w:World) (ra:qx w (.slice r1 x.rel.length c1) x.rel) (rb:qx w (.slice r2 rs.length c2) rs)
  (hx:VerOK x) (he:qbg ep=true) (hr:∀ t∈rs,qbg t=true) (hel:ep.length≤1048576) (hrl:∀ t∈rs,t.length≤1048576) (hl:rs.length≤1048576) :
  Calls Tryz.prog 43 #[.agg #[.string (qd x.ep),.slice r1 x.rel.length c1,v2,v3,v4,v5,v6,v7,v8],.string (qd ep),.slice r2 rs.length c2] w fun e w'=>e=.returned (.bool (begB x.ep x.rel ep rs))∧Below w.heap.size w w':=by
 have HX:=qb hx;have HR:=qb hr;have HRL:=qb hrl;have HA:=qb ra;have HB:=qb rb;have hxr:x.rel.length≤65:=hx.len;have RC:=qb qpq;obtain⟨G,hG⟩:∃ G:Nat→QB,∀ i,G i=x.rel.getD i [48]:=⟨fun i=>x.rel.getD i [48],fun _=>rfl⟩;obtain⟨D,hD⟩:∃ D:Bool,D=decide (∀ i (h:i<rs.length),G i=rs[i]):=⟨_,rfl⟩;have HG:=qb hG;have HD:=qb hD;have hE:Hid (begB x.ep x.rel ep rs=((cmpD x.ep ep==0)&&D)):=qb (by unfold begB;rw[pad_take,qzs hx.fit.f1 he,hD];simp only[hG])
 rw[hE.out];have hxe:=hx.small.e;clear ra rb hx hr hrl hE hG hD;have hB0:=qb ((Below.refl _ w).alloc (Nat.le_refl _) (.cells #[.string (qd x.ep),.slice r1 x.rel.length c1,v2,v3,v4,v5,v6,v7,v8] 44));have n0:=qb (World.alloc_heap_new w (.cells #[.string (qd x.ep),.slice r1 x.rel.length c1,v2,v3,v4,v5,v6,v7,v8] 44));have hsz:(w.alloc (.cells #[.string (qd x.ep),.slice r1 x.rel.length c1,v2,v3,v4,v5,v6,v7,v8] 44)).heap.size=w.heap.size+1:=World.size_alloc _ _;have hA1:=qb (HA.out.below ((Below.refl _ w).alloc (Nat.le_refl _) (.cells #[.string (qd x.ep),.slice r1 x.rel.length c1,v2,v3,v4,v5,v6,v7,v8] 44)));have hB1:=qb (HB.out.below ((Below.refl _ w).alloc (Nat.le_refl _) (.cells #[.string (qd x.ep),.slice r1 x.rel.length c1,v2,v3,v4,v5,v6,v7,v8] 44)));have x0:=qc 0 n0.out rfl;have CE:=qb (RC.out x.ep ep hxe hel);generalize cmpD x.ep ep=E at *;cases he0:(E==0)
 ·have he1:(E != 0)=true:=by simpa using he0
  go_enter Tryz.func43,Tryz.ntmps43
  (go_wp2_with fail);refine(CE.out _).mono ?_;rintro e w1 ⟨rfl,rfl⟩;(go_wp2_with fail);go_ret
  exact⟨rfl,hB0.out⟩
 ·have he1:(E != 0)=false:=by simpa using he0
  go_enter Tryz.func43,Tryz.ntmps43
  (go_wp2_with fail);refine(CE.out _).mono ?_;rintro e w1 ⟨rfl,rfl⟩;have hBW:=hB0;have hn0:=n0;generalize w.alloc _=W at *;have x1:=qc 1 hn0.out rfl;(go_wp2_with fail);go_loopw [7] (fun z wr=>∃ i:Nat,i≤rs.length∧z=.int .i64 i∧Hid (∀ j (h:j<rs.length),j<i→G j=rs[j])∧wr=W) (fun z _=>rs.length-(intOf z).toNat)
  case atStart=>exact⟨0,Nat.zero_le _,rfl,qb (fun j _ h=>absurd h (Nat.not_lt_zero _)),rfl⟩
  case round=>
   obtain⟨i,hi,rfl,HI,rfl⟩:=hrel
   by_cases hin:i<rs.length
   ·have hin':(i:Int)<(rs.length:Int):=by omega
    obtain⟨b2,o2,rfl,hc2⟩:=hB1.out.some (by omega)
    have q2:=hc2 i hin;have ht2:=HR.out rs[i] (qbvk hin);have hl2:=HRL.out rs[i] (qbvk hin);have HN:Hid ((G i==rs[i])=true→∀ j (h:j<rs.length),j<i+1→G j=rs[j]):=qb (fun h j hj hji=>by
     by_cases e:j=i
     ·subst e;simpa using h
     ·exact HI.out j hj (by omega))
    have HM:Hid ((G i==rs[i])=false→D=false):=qb (fun h=>by
     rw[HD.out];simp only[decide_eq_false_iff_not];intro h2;rw[h2 i hin]at h;simp at h)
    clear hc2
    by_cases hix:i<x.rel.length
    ·have hix':(i:Int)<(x.rel.length:Int):=by omega
     obtain⟨b1,o1,rfl,hc1⟩:=hA1.out.some (by omega)
     have q1:=hc1 i hix;have ht1:=List.all_eq_true.1 HX.out.fit.f3 _ (qbvk hix);have hl1:=HX.out.small.r.2 _ (qbvk hix);have hg:G i=x.rel[i]:=by rw[HG.out,List.getD_eq_getElem?_getD,qbsc hix];rfl
     rw[hg]at HN HM;have hq:=qzs ht1 ht2;have CI:=qb (RC.out _ _ hl1 hl2);clear hc1 hg;generalize rs[i]=Y at *;generalize x.rel[i]=X at *;generalize cmpD X Y=F at *;rw[←hq]at HN HM;clear hq;cases hf:(F==0)
     ·have hf1:(F != 0)=true:=by simpa using hf
      have HM2:=qb (HM.out hf);clear HM HN;(go_wp2_with fail);refine(CI.out _).mono ?_;rintro e w2 ⟨rfl,rfl⟩;(go_wp2_with fail);go_ret
      exact⟨by rw[HM2.out];rfl,hBW.out⟩
     ·have hf1:(F != 0)=false:=by simpa using hf
      have HN2:=qb (HN.out hf);clear HM HN;(go_wp2_with fail);refine(CI.out _).mono ?_;rintro e w2 ⟨rfl,rfl⟩;(go_wp2_with fail);go_roundw
      case rel=>exact⟨i+1,by omega,by go_num,HN2,by first|exact rfl|trivial⟩
      case measure=>simp[intOf];omega
    ·have hix':¬ (i:Int)<(x.rel.length:Int):=by omega
     have hg:G i=[48]:=by rw[HG.out,List.getD_eq_getElem?_getD,List.getElem?_eq_none (by omega)];rfl
     rw[hg]at HN HM;have hq:=qzs (a:=[48]) (by decide) ht2
     have CI:=qb (RC.out [48] _ (by simp) hl2)
     clear hg;generalize rs[i]=Y at *;generalize cmpD [48] Y=F at *;rw[←hq]at HN HM;clear hq;cases hf:(F==0)
     ·have hf1:(F != 0)=true:=by simpa using hf
      have HM2:=qb (HM.out hf);clear HM HN;(go_wp2_with fail);refine(CI.out _).mono ?_;rintro e w2 ⟨rfl,rfl⟩;(go_wp2_with fail);go_ret
      exact⟨by rw[HM2.out];rfl,hBW.out⟩
     ·have hf1:(F != 0)=false:=by simpa using hf
      have HN2:=qb (HN.out hf);clear HM HN;(go_wp2_with fail);refine(CI.out _).mono ?_;rintro e w2 ⟨rfl,rfl⟩;(go_wp2_with fail);go_roundw
      case rel=>exact⟨i+1,by omega,by go_num,HN2,by first|exact rfl|trivial⟩
      case measure=>simp[intOf];omega
   ·have hin':¬ (i:Int)<(rs.length:Int):=by omega
    have HT:Hid (D=true):=qb (by rw[HD.out,decide_eq_true_eq];exact fun j hj=>HI.out j hj (by omega))
    (go_wp2_with fail);go_ret
    exact⟨by rw[HT.out];rfl,hBW.out⟩
set_option maxHeartbeats 4000000
set_option maxRecDepth 100000
theorem qzk (x:PepL) (r1 q1:Option Addr) (c1 d1:Nat) (w:World) :
  Calls Tryz.prog 41 #[.agg #[.string (qd x.ep),.slice r1 x.rel.length c1,.int .u8 x.c,.string (qd x.n),.bool x.b,.string (qd x.m),.bool x.d,.string (qd x.k),.slice q1 x.loc.length d1]] w fun e w'=>e=.returned (.agg #[.string (qd x.ep),.slice r1 x.rel.length c1,.int .u8 0,.string ⟨#[]⟩,.bool false,.string ⟨#[]⟩,.bool false,.string ⟨#[]⟩,.slice none 0 0])∧Below w.heap.size w w':=by
 obtain⟨V,hV,n1,n2,bV,sV⟩:=qm w #[.string (qd x.ep),.slice r1 x.rel.length c1,.int .u8 x.c,.string (qd x.n),.bool x.b,.string (qd x.m),.bool x.d,.string (qd x.k),.slice q1 x.loc.length d1] #[.string ⟨#[]⟩,.slice none 0 0,.int .u8 0,.string ⟨#[]⟩,.bool false,.string ⟨#[]⟩,.bool false,.string ⟨#[]⟩,.slice none 0 0] 44 44;obtain⟨s0,s1,s2,s3,s4,s5,s6,s7,s8,_⟩:=qbw n1;obtain⟨x0,x1,x2,x3,x4,x5,x6,x7,x8,y0,y1,y2,y3,y4,y5,y6,y7,y8⟩:=qbw n2;obtain⟨W9,hW9,h9,T9⟩:=qbfx n2 (.string (qd x.ep)) (.slice r1 x.rel.length c1) (.int .u8 0) (.string ⟨#[]⟩) (.bool false) (.string ⟨#[]⟩) (.bool false) (.string ⟨#[]⟩) (.slice none 0 0);have HW9:=qb hW9;have H9:=qb h9;have HB:=qb (bV.trans (T9.below (by omega) bV.size))
 clear n1 n2 bV hW9 h9 T9;go_enter Tryz.func41,Tryz.ntmps41
 (go_wp2_with fail);rw[←HW9.out];refine bodyPost_ret (results_cell_row rfl _ _ (w.heap.size+1) 44 _ (0,0) _ rfl H9.out Tryz.underlying44 rfl qrz) rfl ?_;exact⟨rfl,HB.out⟩
open Nat renaming le_refl → qbtm
open World renaming alloc_heap_new → qbtk, size_alloc → qbtq
set_option maxHeartbeats 4000000
set_option maxRecDepth 100000
theorem qblh (W:World) (A B C:Obj):(((W.alloc A).alloc B).alloc C).heap[W.heap.size+1]? = some B:=by
 have h:=qbtk (W.alloc A) B;rw[qbtq]at h;exact(((Below.refl ((W.alloc A).alloc B).heap.size _).alloc (qbtm _) C).block _ (by simp)).trans h
theorem qsj (x:PepL) (r1 q1:Option Addr) (c1 d1:Nat) (w:World) (rr:qx w (.slice r1 x.rel.length c1) x.rel) (ll:qx w (.slice q1 x.loc.length d1) x.loc) (hl:x.rel.length≤1048576) (hnil:r1=none→c1=0) :
  Calls Tryz.prog 39 #[.agg #[.string (qd x.ep),.slice r1 x.rel.length c1,.int .u8 x.c,.string (qd x.n),.bool x.b,.string (qd x.m),.bool x.d,.string (qd x.k),.slice q1 x.loc.length d1]] w (qbbg x w):=by
 have S0:=TB.start rr ll;have b1:Below (w.alloc (.cells #[.string (qd x.ep),.slice r1 x.rel.length c1,.int .u8 x.c,.string (qd x.n),.bool x.b,.string (qd x.m),.bool x.d,.string (qd x.k),.slice q1 x.loc.length d1] 44)).heap.size (w.alloc (.cells #[.string (qd x.ep),.slice r1 x.rel.length c1,.int .u8 x.c,.string (qd x.n),.bool x.b,.string (qd x.m),.bool x.d,.string (qd x.k),.slice q1 x.loc.length d1] 44)) (((w.alloc (.cells #[.string (qd x.ep),.slice r1 x.rel.length c1,.int .u8 x.c,.string (qd x.n),.bool x.b,.string (qd x.m),.bool x.d,.string (qd x.k),.slice q1 x.loc.length d1] 44)).alloc (.cells #[.string ⟨#[]⟩,.slice none 0 0,.int .u8 0,.string ⟨#[]⟩,.bool false,.string ⟨#[]⟩,.bool false,.string ⟨#[]⟩,.slice none 0 0] 44)).alloc (.cells #[.string (qd x.ep),.slice none 0 0,.int .u8 x.c,.string (qd x.n),.bool x.b,.string (qd x.m),.bool x.d,.string (qd x.k),.slice q1 x.loc.length d1] 44)):=((Below.refl _ _).alloc (qbtm _) _).alloc (by simp) _
 have b2:Below ((w.alloc (.cells #[.string (qd x.ep),.slice r1 x.rel.length c1,.int .u8 x.c,.string (qd x.n),.bool x.b,.string (qd x.m),.bool x.d,.string (qd x.k),.slice q1 x.loc.length d1] 44)).alloc (.cells #[.string ⟨#[]⟩,.slice none 0 0,.int .u8 0,.string ⟨#[]⟩,.bool false,.string ⟨#[]⟩,.bool false,.string ⟨#[]⟩,.slice none 0 0] 44)).heap.size ((w.alloc (.cells #[.string (qd x.ep),.slice r1 x.rel.length c1,.int .u8 x.c,.string (qd x.n),.bool x.b,.string (qd x.m),.bool x.d,.string (qd x.k),.slice q1 x.loc.length d1] 44)).alloc (.cells #[.string ⟨#[]⟩,.slice none 0 0,.int .u8 0,.string ⟨#[]⟩,.bool false,.string ⟨#[]⟩,.bool false,.string ⟨#[]⟩,.slice none 0 0] 44)) (((w.alloc (.cells #[.string (qd x.ep),.slice r1 x.rel.length c1,.int .u8 x.c,.string (qd x.n),.bool x.b,.string (qd x.m),.bool x.d,.string (qd x.k),.slice q1 x.loc.length d1] 44)).alloc (.cells #[.string ⟨#[]⟩,.slice none 0 0,.int .u8 0,.string ⟨#[]⟩,.bool false,.string ⟨#[]⟩,.bool false,.string ⟨#[]⟩,.slice none 0 0] 44)).alloc (.cells #[.string (qd x.ep),.slice none 0 0,.int .u8 x.c,.string (qd x.n),.bool x.b,.string (qd x.m),.bool x.d,.string (qd x.k),.slice q1 x.loc.length d1] 44)):=(Below.refl _ _).alloc (qbtm _) _
 have a0:(((w.alloc (.cells #[.string (qd x.ep),.slice r1 x.rel.length c1,.int .u8 x.c,.string (qd x.n),.bool x.b,.string (qd x.m),.bool x.d,.string (qd x.k),.slice q1 x.loc.length d1] 44)).alloc (.cells #[.string ⟨#[]⟩,.slice none 0 0,.int .u8 0,.string ⟨#[]⟩,.bool false,.string ⟨#[]⟩,.bool false,.string ⟨#[]⟩,.slice none 0 0] 44)).alloc (.cells #[.string (qd x.ep),.slice none 0 0,.int .u8 x.c,.string (qd x.n),.bool x.b,.string (qd x.m),.bool x.d,.string (qd x.k),.slice q1 x.loc.length d1] 44)).heap[w.heap.size]? = some (.cells #[.string (qd x.ep),.slice r1 x.rel.length c1,.int .u8 x.c,.string (qd x.n),.bool x.b,.string (qd x.m),.bool x.d,.string (qd x.k),.slice q1 x.loc.length d1] 44 (0,0)):=(b1.block _ (by simp)).trans S0.ea
 have a1:(((w.alloc (.cells #[.string (qd x.ep),.slice r1 x.rel.length c1,.int .u8 x.c,.string (qd x.n),.bool x.b,.string (qd x.m),.bool x.d,.string (qd x.k),.slice q1 x.loc.length d1] 44)).alloc (.cells #[.string ⟨#[]⟩,.slice none 0 0,.int .u8 0,.string ⟨#[]⟩,.bool false,.string ⟨#[]⟩,.bool false,.string ⟨#[]⟩,.slice none 0 0] 44)).alloc (.cells #[.string (qd x.ep),.slice none 0 0,.int .u8 x.c,.string (qd x.n),.bool x.b,.string (qd x.m),.bool x.d,.string (qd x.k),.slice q1 x.loc.length d1] 44)).heap[w.heap.size+1]? = some (.cells #[.string ⟨#[]⟩,.slice none 0 0,.int .u8 0,.string ⟨#[]⟩,.bool false,.string ⟨#[]⟩,.bool false,.string ⟨#[]⟩,.slice none 0 0] 44 (0,0)):=by
  have h:=qbtk (w.alloc (.cells #[.string (qd x.ep),.slice r1 x.rel.length c1,.int .u8 x.c,.string (qd x.n),.bool x.b,.string (qd x.m),.bool x.d,.string (qd x.k),.slice q1 x.loc.length d1] 44)) (.cells #[.string ⟨#[]⟩,.slice none 0 0,.int .u8 0,.string ⟨#[]⟩,.bool false,.string ⟨#[]⟩,.bool false,.string ⟨#[]⟩,.slice none 0 0] 44);rw[qbtq]at h;exact(b2.block _ (by simp)).trans h
 have g1:(((w.alloc (.cells #[.string (qd x.ep),.slice r1 x.rel.length c1,.int .u8 x.c,.string (qd x.n),.bool x.b,.string (qd x.m),.bool x.d,.string (qd x.k),.slice q1 x.loc.length d1] 44)).alloc (.cells #[.string ⟨#[]⟩,.slice none 0 0,.int .u8 0,.string ⟨#[]⟩,.bool false,.string ⟨#[]⟩,.bool false,.string ⟨#[]⟩,.slice none 0 0] 44)).alloc (.cells #[.string (qd x.ep),.slice none 0 0,.int .u8 x.c,.string (qd x.n),.bool x.b,.string (qd x.m),.bool x.d,.string (qd x.k),.slice q1 x.loc.length d1] 44)).heap[w.heap.size+1+1]? = some (.cells #[.string (qd x.ep),.slice none 0 0,.int .u8 x.c,.string (qd x.n),.bool x.b,.string (qd x.m),.bool x.d,.string (qd x.k),.slice q1 x.loc.length d1] 44 (0,0)):=by
  have h:=qbtk ((w.alloc (.cells #[.string (qd x.ep),.slice r1 x.rel.length c1,.int .u8 x.c,.string (qd x.n),.bool x.b,.string (qd x.m),.bool x.d,.string (qd x.k),.slice q1 x.loc.length d1] 44)).alloc (.cells #[.string ⟨#[]⟩,.slice none 0 0,.int .u8 0,.string ⟨#[]⟩,.bool false,.string ⟨#[]⟩,.bool false,.string ⟨#[]⟩,.slice none 0 0] 44)) (.cells #[.string (qd x.ep),.slice none 0 0,.int .u8 x.c,.string (qd x.n),.bool x.b,.string (qd x.m),.bool x.d,.string (qd x.k),.slice q1 x.loc.length d1] 44);rw[qbtq,qbtq]at h;exact h
 have lP:(((w.alloc (.cells #[.string (qd x.ep),.slice r1 x.rel.length c1,.int .u8 x.c,.string (qd x.n),.bool x.b,.string (qd x.m),.bool x.d,.string (qd x.k),.slice q1 x.loc.length d1] 44)).alloc (.cells #[.string ⟨#[]⟩,.slice none 0 0,.int .u8 0,.string ⟨#[]⟩,.bool false,.string ⟨#[]⟩,.bool false,.string ⟨#[]⟩,.slice none 0 0] 44)).alloc (.cells #[.string (qd x.ep),.slice none 0 0,.int .u8 x.c,.string (qd x.n),.bool x.b,.string (qd x.m),.bool x.d,.string (qd x.k),.slice q1 x.loc.length d1] 44)).heap.size=w.heap.size+1+1+1:=by simp
 have B1:=S0.bel.trans (b1.mono S0.bel.size);have HO:=qb (World.ownsRow_nil (((w.alloc (.cells #[.string (qd x.ep),.slice r1 x.rel.length c1,.int .u8 x.c,.string (qd x.n),.bool x.b,.string (qd x.m),.bool x.d,.string (qd x.k),.slice q1 x.loc.length d1] 44)).alloc (.cells #[.string ⟨#[]⟩,.slice none 0 0,.int .u8 0,.string ⟨#[]⟩,.bool false,.string ⟨#[]⟩,.bool false,.string ⟨#[]⟩,.slice none 0 0] 44)).alloc (.cells #[.string (qd x.ep),.slice none 0 0,.int .u8 x.c,.string (qd x.n),.bool x.b,.string (qd x.m),.bool x.d,.string (qd x.k),.slice q1 x.loc.length d1] 44)) (((w.alloc (.cells #[.string (qd x.ep),.slice r1 x.rel.length c1,.int .u8 x.c,.string (qd x.n),.bool x.b,.string (qd x.m),.bool x.d,.string (qd x.k),.slice q1 x.loc.length d1] 44)).alloc (.cells #[.string ⟨#[]⟩,.slice none 0 0,.int .u8 0,.string ⟨#[]⟩,.bool false,.string ⟨#[]⟩,.bool false,.string ⟨#[]⟩,.slice none 0 0] 44)).alloc (.cells #[.string (qd x.ep),.slice none 0 0,.int .u8 x.c,.string (qd x.n),.bool x.b,.string (qd x.m),.bool x.d,.string (qd x.k),.slice q1 x.loc.length d1] 44)).heap.size 9 1);obtain⟨i0,hi,hz0,hz1,hz2⟩:=info_parts Tryz.info9;clear S0 b1 b2 ll;cases r1 with
 | none=>
  obtain rfl:=hnil rfl;have hs:x.rel=[]:=by
   obtain⟨a,c,hv,hra⟩:=rr;cases hv;rcases hra with h|⟨b,off,h,_⟩
   ·exact h
   ·cases h
  have hl0:x.rel.length=0:=by rw[hs];rfl
  have hv0:valT x.rel=[]:=by rw[hs];rfl
  clear a0 a1 g1 lP B1 rr;rw[hl0]at HO ⊢;go_enter Tryz.func39,Tryz.ntmps39
  go_wp2_with (at_builtin;refine wpList_append_own_none rfl (.tmp 7) (.tmp 9) 37 rfl _ 9 i0 1 Tryz.underlying37 hi _ 0 _ rfl HO.out rfl ?_)
  (try simp only[Exit.inBlock,Exit.then])
  refine bodyPost_ret (results_cell_row rfl _ _ (w.heap.size+1) 44 #[.string (qd x.ep),.slice none 0 0,.int .u8 x.c,.string (qd x.n),.bool x.b,.string (qd x.m),.bool x.d,.string (qd x.k),.slice none 0 0] (0,0) _ rfl (qblh _ _ _ _) Tryz.underlying44 rfl qrz) rfl ?_;refine⟨_,rfl,?_,(((Below.refl _ w).alloc (qbtm _) _).alloc (by simp) _).alloc (by simp;omega) _⟩
  rw[hl0,hv0];exact World.ownsRow_nil _ _ _ _
 | some ad=>
  by_cases h0:x.rel=[]
  ·have hl0:x.rel.length=0:=by rw[h0];rfl
   have hv0:valT x.rel=[]:=by rw[h0];rfl
   clear rr;rw[hl0]at a0 a1 g1 lP B1 HO ⊢;go_enter Tryz.func39,Tryz.ntmps39
   go_wp2_with (at_builtin;refine wpList_append_own _ rfl (.tmp 7) (.tmp 9) 37 rfl _ 9 i0 (.string .empty) 1 16 Tryz.underlying37 hi hz0 hz1 hz2 rfl (by decide) _ _ _ rfl HO.out ad 0 c1 [] rfl rfl (fun j u h=>by simp at h) (fun u h=>by cases h) (by unfold maxLen;omega) (by omega) (qbtm _) ?_;intro v' w3 own1 grow1 _;have own3:w3.ownsRow _ 9 1 v' x.rel.length (valT x.rel):=(by rw[hl0,hv0];exact own1);have B3:=B1.trans (qcv HO.out (qbtm _) grow1 |>.mono B1.size);have f0:=(grow1.block _ (by rw[lP];omega) (fun e=>by cases e)).trans a0;have f1:=(grow1.block _ (by rw[lP];omega) (fun e=>by cases e)).trans a1;have f2:=(grow1.block _ (by rw[lP];omega) (fun e=>by cases e)).trans g1;obtain⟨va,vn,vc,rfl⟩:=qrk own3;have y1:=qc 1 f2 rfl;obtain⟨R1,e1e,g1,k1,B4,o4,z1,n1⟩:=qch (o:=1) (.slice va vn vc) f2 (by omega) B3 own3 (by rw[lP];omega);change R1.heap[w.heap.size+1+1]? = some (.cells #[.string (qd x.ep),.slice va vn vc,.int .u8 x.c,.string (qd x.n),.bool x.b,.string (qd x.m),.bool x.d,.string (qd x.k),.slice q1 x.loc.length d1] 44 (0,0))at g1;have y8:=qc 8 g1 rfl;obtain⟨R2,e2e,g2,k2,B5,o5,z8,n2⟩:=qch (o:=8) (.slice none 0 0) g1 (by omega) B4 o4 (by rw[lP];omega);change R2.heap[w.heap.size+1+1]? = some (.cells #[.string (qd x.ep),.slice va vn vc,.int .u8 x.c,.string (qd x.n),.bool x.b,.string (qd x.m),.bool x.d,.string (qd x.k),.slice none 0 0] 44 (0,0))at g2;have lt1:=(Array.getElem?_eq_some_iff.1 f1).1;have h0:R2.heap[w.heap.size+1]? = _:=((k2 _ (by omega) (by rw[n1];exact lt1)).trans (k1 _ (by omega) lt1)).trans f1;have x0:=qc 0 g2 rfl;have x1:=qc 1 g2 rfl;have x2:=qc 2 g2 rfl;have x3:=qc 3 g2 rfl;have x4:=qc 4 g2 rfl;have x5:=qc 5 g2 rfl;have x6:=qc 6 g2 rfl;have x7:=qc 7 g2 rfl;have x8:=qc 8 g2 rfl;have t0:=qc 0 h0 rfl;obtain⟨Q1,q1q,h1,_,C1,u1,m1,_⟩:=qch (o:=0) (.string (qd x.ep)) h0 (by omega) B5 o5 (by rw[lP];omega);change Q1.heap[w.heap.size+1]? = some (.cells #[.string (qd x.ep),.slice none 0 0,.int .u8 0,.string ⟨#[]⟩,.bool false,.string ⟨#[]⟩,.bool false,.string ⟨#[]⟩,.slice none 0 0] 44 (0,0))at h1;have t1:=qc 1 h1 rfl;obtain⟨Q2,q2q,h2,_,C2,u2,m2,_⟩:=qch (o:=1) (.slice va vn vc) h1 (by omega) C1 u1 (by rw[lP];omega);change Q2.heap[w.heap.size+1]? = some (.cells #[.string (qd x.ep),.slice va vn vc,.int .u8 0,.string ⟨#[]⟩,.bool false,.string ⟨#[]⟩,.bool false,.string ⟨#[]⟩,.slice none 0 0] 44 (0,0))at h2;have t2:=qc 2 h2 rfl;obtain⟨Q3,q3q,h3,_,C3,u3,m3,_⟩:=qch (o:=2) (.int .u8 x.c) h2 (by omega) C2 u2 (by rw[lP];omega);change Q3.heap[w.heap.size+1]? = some (.cells #[.string (qd x.ep),.slice va vn vc,.int .u8 x.c,.string ⟨#[]⟩,.bool false,.string ⟨#[]⟩,.bool false,.string ⟨#[]⟩,.slice none 0 0] 44 (0,0))at h3;have t3:=qc 3 h3 rfl;obtain⟨Q4,q4q,h4,_,C4,u4,m4,_⟩:=qch (o:=3) (.string (qd x.n)) h3 (by omega) C3 u3 (by rw[lP];omega);change Q4.heap[w.heap.size+1]? = some (.cells #[.string (qd x.ep),.slice va vn vc,.int .u8 x.c,.string (qd x.n),.bool false,.string ⟨#[]⟩,.bool false,.string ⟨#[]⟩,.slice none 0 0] 44 (0,0))at h4;have t4:=qc 4 h4 rfl;obtain⟨Q5,q5q,h5,_,C5,u5,m5,_⟩:=qch (o:=4) (.bool x.b) h4 (by omega) C4 u4 (by rw[lP];omega);change Q5.heap[w.heap.size+1]? = some (.cells #[.string (qd x.ep),.slice va vn vc,.int .u8 x.c,.string (qd x.n),.bool x.b,.string ⟨#[]⟩,.bool false,.string ⟨#[]⟩,.slice none 0 0] 44 (0,0))at h5;have t5:=qc 5 h5 rfl;obtain⟨Q6,q6q,h6,_,C6,u6,m6,_⟩:=qch (o:=5) (.string (qd x.m)) h5 (by omega) C5 u5 (by rw[lP];omega);change Q6.heap[w.heap.size+1]? = some (.cells #[.string (qd x.ep),.slice va vn vc,.int .u8 x.c,.string (qd x.n),.bool x.b,.string (qd x.m),.bool false,.string ⟨#[]⟩,.slice none 0 0] 44 (0,0))at h6;have t6:=qc 6 h6 rfl;obtain⟨Q7,q7q,h7,_,C7,u7,m7,_⟩:=qch (o:=6) (.bool x.d) h6 (by omega) C6 u6 (by rw[lP];omega);change Q7.heap[w.heap.size+1]? = some (.cells #[.string (qd x.ep),.slice va vn vc,.int .u8 x.c,.string (qd x.n),.bool x.b,.string (qd x.m),.bool x.d,.string ⟨#[]⟩,.slice none 0 0] 44 (0,0))at h7;have t7:=qc 7 h7 rfl;obtain⟨Q8,q8q,h8,_,C8,u8,m8,_⟩:=qch (o:=7) (.string (qd x.k)) h7 (by omega) C7 u7 (by rw[lP];omega);change Q8.heap[w.heap.size+1]? = some (.cells #[.string (qd x.ep),.slice va vn vc,.int .u8 x.c,.string (qd x.n),.bool x.b,.string (qd x.m),.bool x.d,.string (qd x.k),.slice none 0 0] 44 (0,0))at h8;have t8:=qc 8 h8 rfl;obtain⟨Q9,q9q,h9,_,C9,u9,m9,_⟩:=qch (o:=8) (.slice none 0 0) h8 (by omega) C8 u8 (by rw[lP];omega);change Q9.heap[w.heap.size+1]? = some (.cells #[.string (qd x.ep),.slice va vn vc,.int .u8 x.c,.string (qd x.n),.bool x.b,.string (qd x.m),.bool x.d,.string (qd x.k),.slice none 0 0] 44 (0,0))at h9;have H9:=qb h9;have O9:=qb (qfg (b:=w.heap.size) u9 (by rw[lP];omega));have C9:=qb C9;clear k1 k2 g1 g2 h0 h1 h2 h3 h4 h5 h6 h7 h8 h9 f0 f1 f2 own3 o4 o5 u1 u2 u3 u4 u5 u6 u7 u8 u9 B3 B4 B5 C1 C2 C3 C4 C5 C6 C7 C8)
   (try simp only[Exit.inBlock,Exit.then])
   refine bodyPost_ret (results_cell_row rfl _ _ (w.heap.size+1) 44 _ (0,0) _ rfl H9.out Tryz.underlying44 rfl qrz) rfl ?_;exact⟨_,rfl,O9.out,C9.out⟩
  ·obtain ⟨_,_,hv,hra⟩:=rr.below B1;obtain⟨b,off,hab,hlb,hc⟩:∃ b off,some ad=some ⟨b,off,none⟩∧b<(((w.alloc (.cells #[.string (qd x.ep),.slice (some ad) x.rel.length c1,.int .u8 x.c,.string (qd x.n),.bool x.b,.string (qd x.m),.bool x.d,.string (qd x.k),.slice q1 x.loc.length d1] 44)).alloc (.cells #[.string ⟨#[]⟩,.slice none 0 0,.int .u8 0,.string ⟨#[]⟩,.bool false,.string ⟨#[]⟩,.bool false,.string ⟨#[]⟩,.slice none 0 0] 44)).alloc (.cells #[.string (qd x.ep),.slice none 0 0,.int .u8 x.c,.string (qd x.n),.bool x.b,.string (qd x.m),.bool x.d,.string (qd x.k),.slice q1 x.loc.length d1] 44)).heap.size∧∀ i (h:i<x.rel.length),(((w.alloc (.cells #[.string (qd x.ep),.slice (some ad) x.rel.length c1,.int .u8 x.c,.string (qd x.n),.bool x.b,.string (qd x.m),.bool x.d,.string (qd x.k),.slice q1 x.loc.length d1] 44)).alloc (.cells #[.string ⟨#[]⟩,.slice none 0 0,.int .u8 0,.string ⟨#[]⟩,.bool false,.string ⟨#[]⟩,.bool false,.string ⟨#[]⟩,.slice none 0 0] 44)).alloc (.cells #[.string (qd x.ep),.slice none 0 0,.int .u8 x.c,.string (qd x.n),.bool x.b,.string (qd x.m),.bool x.d,.string (qd x.k),.slice q1 x.loc.length d1] 44)).cell? ⟨b,off+i,none⟩=some (.string (qd x.rel[i])):=by
    cases hv;rcases hra with h1|h1
    ·exact absurd h1 h0
    ·exact h1
   cases hab;have HC:=qb (qvk hc);clear hc;go_enter Tryz.func39,Tryz.ntmps39
   go_wp2_with (at_builtin;refine wpList_append_own _ rfl (.tmp 7) (.tmp 9) 37 rfl _ 9 i0 (.string .empty) 1 16 Tryz.underlying37 hi hz0 hz1 hz2 rfl (by decide) _ _ _ rfl HO.out ⟨b,off,none⟩ x.rel.length c1 (valT x.rel) rfl (qvm _) HC.out (qvs _) (by unfold maxLen;omega) (by omega) (qbtm _) ?_;intro v' w3 own1 grow1 _;have own3:w3.ownsRow _ 9 1 v' x.rel.length (valT x.rel):=(by simpa only[Nat.zero_add,List.nil_append] using own1);have B3:=B1.trans (qcv HO.out (qbtm _) grow1 |>.mono B1.size);have f0:=(grow1.block _ (by rw[lP];omega) (fun e=>by cases e)).trans a0;have f1:=(grow1.block _ (by rw[lP];omega) (fun e=>by cases e)).trans a1;have f2:=(grow1.block _ (by rw[lP];omega) (fun e=>by cases e)).trans g1;obtain⟨va,vn,vc,rfl⟩:=qrk own3;have y1:=qc 1 f2 rfl;obtain⟨R1,e1e,g1,k1,B4,o4,z1,n1⟩:=qch (o:=1) (.slice va vn vc) f2 (by omega) B3 own3 (by rw[lP];omega);change R1.heap[w.heap.size+1+1]? = some (.cells #[.string (qd x.ep),.slice va vn vc,.int .u8 x.c,.string (qd x.n),.bool x.b,.string (qd x.m),.bool x.d,.string (qd x.k),.slice q1 x.loc.length d1] 44 (0,0))at g1;have y8:=qc 8 g1 rfl;obtain⟨R2,e2e,g2,k2,B5,o5,z8,n2⟩:=qch (o:=8) (.slice none 0 0) g1 (by omega) B4 o4 (by rw[lP];omega);change R2.heap[w.heap.size+1+1]? = some (.cells #[.string (qd x.ep),.slice va vn vc,.int .u8 x.c,.string (qd x.n),.bool x.b,.string (qd x.m),.bool x.d,.string (qd x.k),.slice none 0 0] 44 (0,0))at g2;have lt1:=(Array.getElem?_eq_some_iff.1 f1).1;have h0:R2.heap[w.heap.size+1]? = _:=((k2 _ (by omega) (by rw[n1];exact lt1)).trans (k1 _ (by omega) lt1)).trans f1;have x0:=qc 0 g2 rfl;have x1:=qc 1 g2 rfl;have x2:=qc 2 g2 rfl;have x3:=qc 3 g2 rfl;have x4:=qc 4 g2 rfl;have x5:=qc 5 g2 rfl;have x6:=qc 6 g2 rfl;have x7:=qc 7 g2 rfl;have x8:=qc 8 g2 rfl;have t0:=qc 0 h0 rfl;obtain⟨Q1,q1q,h1,_,C1,u1,m1,_⟩:=qch (o:=0) (.string (qd x.ep)) h0 (by omega) B5 o5 (by rw[lP];omega);change Q1.heap[w.heap.size+1]? = some (.cells #[.string (qd x.ep),.slice none 0 0,.int .u8 0,.string ⟨#[]⟩,.bool false,.string ⟨#[]⟩,.bool false,.string ⟨#[]⟩,.slice none 0 0] 44 (0,0))at h1;have t1:=qc 1 h1 rfl;obtain⟨Q2,q2q,h2,_,C2,u2,m2,_⟩:=qch (o:=1) (.slice va vn vc) h1 (by omega) C1 u1 (by rw[lP];omega);change Q2.heap[w.heap.size+1]? = some (.cells #[.string (qd x.ep),.slice va vn vc,.int .u8 0,.string ⟨#[]⟩,.bool false,.string ⟨#[]⟩,.bool false,.string ⟨#[]⟩,.slice none 0 0] 44 (0,0))at h2;have t2:=qc 2 h2 rfl;obtain⟨Q3,q3q,h3,_,C3,u3,m3,_⟩:=qch (o:=2) (.int .u8 x.c) h2 (by omega) C2 u2 (by rw[lP];omega);change Q3.heap[w.heap.size+1]? = some (.cells #[.string (qd x.ep),.slice va vn vc,.int .u8 x.c,.string ⟨#[]⟩,.bool false,.string ⟨#[]⟩,.bool false,.string ⟨#[]⟩,.slice none 0 0] 44 (0,0))at h3;have t3:=qc 3 h3 rfl;obtain⟨Q4,q4q,h4,_,C4,u4,m4,_⟩:=qch (o:=3) (.string (qd x.n)) h3 (by omega) C3 u3 (by rw[lP];omega);change Q4.heap[w.heap.size+1]? = some (.cells #[.string (qd x.ep),.slice va vn vc,.int .u8 x.c,.string (qd x.n),.bool false,.string ⟨#[]⟩,.bool false,.string ⟨#[]⟩,.slice none 0 0] 44 (0,0))at h4;have t4:=qc 4 h4 rfl;obtain⟨Q5,q5q,h5,_,C5,u5,m5,_⟩:=qch (o:=4) (.bool x.b) h4 (by omega) C4 u4 (by rw[lP];omega);change Q5.heap[w.heap.size+1]? = some (.cells #[.string (qd x.ep),.slice va vn vc,.int .u8 x.c,.string (qd x.n),.bool x.b,.string ⟨#[]⟩,.bool false,.string ⟨#[]⟩,.slice none 0 0] 44 (0,0))at h5;have t5:=qc 5 h5 rfl;obtain⟨Q6,q6q,h6,_,C6,u6,m6,_⟩:=qch (o:=5) (.string (qd x.m)) h5 (by omega) C5 u5 (by rw[lP];omega);change Q6.heap[w.heap.size+1]? = some (.cells #[.string (qd x.ep),.slice va vn vc,.int .u8 x.c,.string (qd x.n),.bool x.b,.string (qd x.m),.bool false,.string ⟨#[]⟩,.slice none 0 0] 44 (0,0))at h6;have t6:=qc 6 h6 rfl;obtain⟨Q7,q7q,h7,_,C7,u7,m7,_⟩:=qch (o:=6) (.bool x.d) h6 (by omega) C6 u6 (by rw[lP];omega);change Q7.heap[w.heap.size+1]? = some (.cells #[.string (qd x.ep),.slice va vn vc,.int .u8 x.c,.string (qd x.n),.bool x.b,.string (qd x.m),.bool x.d,.string ⟨#[]⟩,.slice none 0 0] 44 (0,0))at h7;have t7:=qc 7 h7 rfl;obtain⟨Q8,q8q,h8,_,C8,u8,m8,_⟩:=qch (o:=7) (.string (qd x.k)) h7 (by omega) C7 u7 (by rw[lP];omega);change Q8.heap[w.heap.size+1]? = some (.cells #[.string (qd x.ep),.slice va vn vc,.int .u8 x.c,.string (qd x.n),.bool x.b,.string (qd x.m),.bool x.d,.string (qd x.k),.slice none 0 0] 44 (0,0))at h8;have t8:=qc 8 h8 rfl;obtain⟨Q9,q9q,h9,_,C9,u9,m9,_⟩:=qch (o:=8) (.slice none 0 0) h8 (by omega) C8 u8 (by rw[lP];omega);change Q9.heap[w.heap.size+1]? = some (.cells #[.string (qd x.ep),.slice va vn vc,.int .u8 x.c,.string (qd x.n),.bool x.b,.string (qd x.m),.bool x.d,.string (qd x.k),.slice none 0 0] 44 (0,0))at h9;have H9:=qb h9;have O9:=qb (qfg (b:=w.heap.size) u9 (by rw[lP];omega));have C9:=qb C9;clear k1 k2 g1 g2 h0 h1 h2 h3 h4 h5 h6 h7 h8 h9 f0 f1 f2 own3 o4 o5 u1 u2 u3 u4 u5 u6 u7 u8 u9 B3 B4 B5 C1 C2 C3 C4 C5 C6 C7 C8)
   (try simp only[Exit.inBlock,Exit.then])
   refine bodyPost_ret (results_cell_row rfl _ _ (w.heap.size+1) 44 _ (0,0) _ rfl H9.out Tryz.underlying44 rfl qrz) rfl ?_;exact⟨_,rfl,O9.out,C9.out⟩
end Go.Proofs.YtabmfdedbpmfmaaGreat
