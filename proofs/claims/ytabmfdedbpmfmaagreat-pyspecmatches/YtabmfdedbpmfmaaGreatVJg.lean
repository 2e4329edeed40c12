/- Walks: whether some text is read as a clause. -/
import Derived.Deep.Cut
import Derived.Test.YtabmfdedbpmfmaaGreatVPr
import Derived.Test.YtabmfdedbpmfmaaGreatVIe
import Derived.Test.YtabmfdedbpmfmaaGreatVHx
namespace Go.Proofs.YtabmfdedbpmfmaaGreat
open Go.RowKit Go.Shelf
set_option linter.unusedVariables false
set_option maxHeartbeats 4000000
set_option maxRecDepth 100000
def latF (p:QB→Bool) (b:QB×Bool) (t:QB):QB×Bool:=if (p t&&(!b.2||decide (0<cmpT t b.1)))=true then (t,true) else b
def qgg (p:QB→Bool) (ts:List QB):QB×Bool:=ts.foldl (latF p) ([],false)
theorem qbhn (p:QB→Bool) (ts:List QB) (i:Nat) (h:i<ts.length):(ts.take (i+1)).foldl (latF p) ([],false)=latF p ((ts.take i).foldl (latF p) ([],false)) ts[i]:=by
 rw[List.take_succ_eq_append_getElem h,List.foldl_append]
 rfl
theorem qbll (p:QB→Bool) (B:Nat) (ts:List QB) (v:Value) (w:World) (hv:qx w v ts) (hln:ts.length≤9000000000000000000)
  (hz:∀ t∈ts,t.length≤140737488351232) (hp:∀ t∈ts,∀ (W:World),Below w.heap.size w W→Calls Tryz.prog 48 #[.string (qd t),.pointer (some ⟨B,0,none⟩)] W fun e W'=>e=.returned (.bool (p t))∧Below W.heap.size W W') :
  Calls Tryz.prog 47 #[v,.func (.func 48) #[] #[.pointer (some ⟨B,0,none⟩)],.func (.func 50) #[] #[]] w fun e w'=>e=.returned (.tuple #[.string (qd (qgg p ts).1),.bool (qgg p ts).2])∧Below w.heap.size w w':=by
 obtain⟨a,k,rfl,_⟩:=id hv;obtain⟨n,hn⟩:∃ n,ts.length=n:=⟨_,rfl⟩;rw[hn]at hv hln ⊢;have HN:=qb hn;have HV:=qb hv;have HP:=qb hp;have HZ:=qb hz;clear hn hv hp hz;go_enter Tryz.func47,Tryz.ntmps47
 (go_wp2_with fail);go_loopw [8,9,14] (fun x f j wr=>∃ (i:Nat) (S:QB) (F:Bool),S.length≤140737488351232∧i≤n∧x=.string (qd S)∧f=.bool F∧j=.int .i64 i∧Hid (Below w.heap.size w wr)∧Hid ((ts.take i).foldl (latF p) ([],false)=(S,F))) (fun _ _ j _=>n-(intOf j).toNat)
 case atStart=>exact⟨0,[],false,by simp,by omega,rfl,rfl,rfl,Below.refl _ _,rfl⟩
 case round=>
  obtain⟨i,S,F,hS,hin,rfl,rfl,rfl,HB,HA⟩:=hrel
  by_cases hlt:i<n
  ·have hlt':(i:Int)<(n:Int):=by omega
   have i1:i<ts.length:=by rw[HN.out];exact hlt
   obtain⟨b,o,rfl,hrow⟩:=qx.some (HV.out.below HB.out) (by omega)
   have d0:=hrow i i1;have h2:=qbhn p ts i i1;rw[HA.out]at h2;have h3:latF p (S,F) ts[i]=if (p ts[i]&&(!F||decide (0<cmpT ts[i] S)))=true then (ts[i],true) else (S,F):=rfl;rw[h3]at h2;have P1:=qb (fun (W:World) (hW:Below w.heap.size w W)=>(HP.out ts[i] (List.getElem_mem _) W hW:Calls Tryz.prog 48 #[.string (qd ts[i]),.pointer (some ⟨B,0,none⟩)] W fun e W'=>e=.returned (.bool (p ts[i]))∧Below W.heap.size W W'));have C1:=qb (fun (W:World)=>(by have:=qbdh (qd ts[i]) (qd S) W (by rw[←qg,qj];exact HZ.out _ (List.getElem_mem _)) (by rw[←qg,qj];exact hS);rw[qj,qj]at this;exact this:Calls Tryz.prog 50 #[.string (qd ts[i]),.string (qd S)] W fun e W'=>e=.returned (.int .i64 (cmpT ts[i] S))∧Below W.heap.size W W'))
   have H2:=qb h2;have htz:=HZ.out ts[i] (List.getElem_mem _);clear h2 h3 hrow;generalize p ts[i]=X at *;generalize cmpT ts[i] S=C at *;generalize ts[i]=t at *;clear i1;(go_wp2_with fail);refine(P1.out _ HB.out).mono ?_;rintro e W1 ⟨rfl,b1⟩;have HB1:=qb (HB.out.trans (b1.mono HB.out.size));clear b1 HB P1 d0;cases X with
   | false=>
    (go_wp2_with fail);go_roundw
    case rel=>exact⟨i+1,S,F,hS,by omega,rfl,rfl,by go_num,HB1,by show _=_;rw[H2.out];rfl⟩
    case measure=>simp[intOf];omega
   | true=>
    cases F with
    | false=>
     (go_wp2_with fail);go_roundw
     case rel=>exact⟨i+1,t,true,htz,by omega,rfl,rfl,by go_num,HB1,by show _=_;rw[H2.out];rfl⟩
     case measure=>simp[intOf];omega
    | true=>
     (go_wp2_with fail);refine(C1.out _).mono ?_;rintro e W2 ⟨rfl,b2⟩;have HB2:=qb (HB1.out.trans (b2.mono HB1.out.size));clear b2 HB1 C1
     by_cases hC:0<C
     ·have hd:decide (0<C)=true:=by simpa using hC
      (go_wp2_with fail);go_roundw
      case rel=>exact⟨i+1,t,true,htz,by omega,rfl,rfl,by go_num,HB2,by show _=_;rw[H2.out,hd];rfl⟩
      case measure=>simp[intOf];omega
     ·have hd:decide (0<C)=false:=by simpa using hC
      (go_wp2_with fail);go_roundw
      case rel=>exact⟨i+1,S,true,hS,by omega,rfl,rfl,by go_num,HB2,by show _=_;rw[H2.out,hd];rfl⟩
      case measure=>simp[intOf];omega
  ·have hlt':¬ (i:Int)<(n:Int):=by omega
   have hX:qgg p ts=(S,F):=by
    have:=HA.out
    rwa [List.take_of_length_le (by rw[HN.out];omega)]at this
   have HX:=qb hX;clear hX;(go_wp2_with fail);go_ret2
   exact⟨by rw[HX.out];rfl,HB.out⟩
theorem qbqm (Z p:Nat) (v:Value) (its:List It) (s:QY) (w:World) (hp:Boxed w p 50 v) (hv:ClsV Z w v its) (hl:its.length≤33) (hok:∀ x∈its,ClOK x.1) (hs:s.size≤140737488351232) :
  Calls Tryz.prog 48 #[.string s,.pointer (some ⟨p,0,none⟩)] w fun e w'=>e=.returned (.bool (qlb (its.map Prod.fst) s.data.toList))∧Below w.heap.size w w':=by
 have WA:=qb (want_any Z v its s w hv hl hok hs);obtain⟨a,c,rfl,_⟩:=hv.at_;have c0:=hp.cell;clear hp hv hok;go_enter Tryz.func48,Tryz.ntmps48
 (go_wp2_with fail);refine(WA.out).mono ?_;rintro e w2 ⟨rfl,b2⟩;(go_wp2_with fail);go_ret
 exact⟨rfl,b2⟩
def qwg (l:QB) (ts:List QB):QB×Bool:=if (pyL l).1=0 then qgg (qlb (pyL l).2.2) ts else ([],false)
theorem qwf (s:QY) (v:Value) (ts:List QB) (w:World) (hv:qx w v ts) (hln:ts.length≤9000000000000000000) (hz:∀ t∈ts,t.length≤140737488351232) :
  Calls Tryz.prog 20 #[.string s,v] w fun e w'=>e=.returned (.tuple #[.string (qd (qwg s.data.toList ts).1),.bool (qwg s.data.toList ts).2])∧Below w.heap.size w w':=by
 have RC:=qb (fun W=>qls s W);have hlen:=qbcj s.data.toList;have hall:=qbbz s.data.toList;have hP:qwg s.data.toList ts=if (pyL s.data.toList).1=0 then qgg (qlb (pyL s.data.toList).2.2) ts else ([],false):=rfl;generalize pyL s.data.toList=G at *;obtain⟨er,p,cs⟩:=G;dsimp only at hP hlen hall;obtain⟨a,k,rfl,_⟩:=id hv;have HV:=qb hv;have HPP:=qb hP;have HLN:=qb hln;have HZ:=qb hz;clear hv hP hz;go_enter Tryz.func20,Tryz.ntmps20
 (go_wp2_with fail);refine(RC.out _).mono ?_;rintro e w1 ⟨b1,u,rfl,its,hits,hu⟩;dsimp only at hits;subst hits;have hl33:its.length≤33:=by simpa using hlen
 have hok:∀ x∈its,ClOK x.1:=fun x hx=>hall _ (List.mem_map_of_mem hx);obtain⟨ua,uc,rfl,_⟩:=hu.at_;obtain⟨V,hVV,n1,n2,bV,sV⟩:=qm w1 #[.slice ua its.length uc] #[.int .i64 er,.int .i64 (p:Int)] 50 25;have f0:=qc 0 n2 rfl;have f1:=qc 1 n2 rfl;have HB:=qb (b1.trans (bV.mono b1.size));have HU:=qb (hu.below bV);have HN1:=qb (n1:Boxed V w1.heap.size 50 (.slice ua its.length uc));have HVV:=qb hVV;have HT:=qb ((HV.out.below b1).below bV);have HOK:=qb hok;clear hlen hall b1 hu n1 n2 bV sV hVV hok
 by_cases he:er=0
 ·subst he;have LA:=qb (qbll (qlb (its.map Prod.fst)) w1.heap.size ts _ V HT.out HLN.out HZ.out (fun t ht W hb=>by
   have:=qbqm w.heap.size w1.heap.size _ its (qd t) W ((hb.block _ (Array.getElem?_eq_some_iff.1 HN1.out).1).trans HN1.out) (HU.out.below hb) hl33 HOK.out (by rw[←qg,qj];exact HZ.out t ht)
   rwa [qj]at this))
  go_upto_region 2 with fail
  rw[HVV.out];(go_wp2_with fail);refine(LA.out).mono ?_;rintro e w3 ⟨rfl,b3⟩;(go_wp2_with fail);go_ret2
  exact⟨by rw[HPP.out];rfl,HB.out.trans (b3.mono HB.out.size)⟩
 ·have n1:(er != 0)=true:=by simpa using he
  have n2:(er==0)=false:=by simpa using he
  have HE:=qb he;go_upto_region 2 with fail
  rw[HVV.out];(go_wp2_with fail);go_ret2
  exact⟨by rw[HPP.out,if_neg HE.out];rfl,HB.out⟩
def qcd (l u:QB):Bool:=decide ((pyL l).1=0)&&qlb (pyL l).2.2 u
theorem qbjp (l u:QB):(qwg l [u]).2=qcd l u:=by
 unfold qwg qcd;split
 ·rename_i h;rw[h];show(latF (qlb (pyL l).2.2) ([],false) u).2=_;unfold latF;cases qlb (pyL l).2.2 u<;>simp
 ·rename_i h;simp[h]
theorem qcq (s t:QY) (w:World) (ht:t.size≤140737488351232) :
  Calls Tryz.prog 22 #[.string s,.string t] w fun e w'=>e=.returned (.bool (qcd s.data.toList t.data.toList))∧Below w.heap.size w w':=by
 rw [←qbjp];have n0:=World.alloc_heap_new w (.cells #[.string t] 9);have hal:Below w.heap.size w (w.alloc (.cells #[.string t] 9)):=(Below.refl _ w).alloc (Nat.le_refl _) _;have hT:qx (w.alloc (.cells #[.string t] 9)) (.slice (some ⟨w.heap.size,0,none⟩) 1 1) [t.data.toList]:=⟨_,1,rfl,.inr ⟨w.heap.size,0,rfl,by simp,fun i hi=>by
  obtain rfl:i=0:=by simpa using hi
  have:=qc 0 n0 rfl;rw[show([t.data.toList]:List QB)[0]=t.data.toList from rfl,qdb];exact this⟩⟩
 have PK:=qb (qwf s _ [t.data.toList] _ hT (by simp) (fun x hx=>by simp at hx;subst hx;rw[qg];exact ht))
 have HAL:=qb hal;clear n0 hal hT;go_enter Tryz.func22,Tryz.ntmps22
 (go_wp2_with fail);refine(PK.out).mono ?_;rintro e w2 ⟨rfl,b2⟩;(go_wp2_with fail);go_ret
 exact⟨rfl,HAL.out.trans (b2.mono HAL.out.size)⟩
theorem ex_p0:pyL [61,49]=(10,1,[]):=by kernel_rfl
theorem ex_p1:pyL [62,61,49,44,44,60,50]=(10,4,[]):=by kernel_rfl
theorem ex_p2:pyL [126,61,49]=(19,2,[]):=by kernel_rfl
theorem ex_m0:qcd [62,61,49,46,48,44,32,33,61,49,46,53,46,42,44,32,60,50] [49,46,52]=true:=by kernel_rfl
theorem ex_m1:qcd [62,61,49,46,48,44,32,33,61,49,46,53,46,42,44,32,60,50] [49,46,54,46,112,111,115,116,49]=true:=by kernel_rfl
theorem ex_m2:qcd [62,61,49,46,48,44,32,33,61,49,46,53,46,42,44,32,60,50] [49,46,53,46,51]=false:=by kernel_rfl
theorem ex_m3:qcd [62,61,49,46,48,44,32,33,61,49,46,53,46,42,44,32,60,50] [50,46,48,97,49]=false:=by kernel_rfl
theorem ex_m4:qcd [62,61,49,46,48,44,32,33,61,49,46,53,46,42,44,32,60,50] [50,46,48]=false:=by kernel_rfl
theorem ex_m5:qcd [126,61,49,46,52,46,50] [49,46,52,46,57]=true:=by kernel_rfl
theorem ex_m6:qcd [126,61,49,46,52,46,50] [49,46,53]=false:=by kernel_rfl
theorem ex_m7:qcd [61,61,49,46,49] [49,46,49,46,48,43,108,111,99,97,108]=true:=by kernel_rfl
theorem ex_m8:qcd [62,49,46,55] [49,46,55,46,49]=true:=by kernel_rfl
theorem ex_m9:qcd [62,49,46,55] [49,46,55,46,48,46,112,111,115,116,49]=false:=by kernel_rfl
theorem ex_m10:qcd [62,61,50,46,48,97,49] [50,46,48,98,49]=true:=by kernel_rfl
open Go.RowKit renaming Below → QE
open Go.Proofs.Tryz (prog)
set_option maxHeartbeats 8000000
set_option maxRecDepth 100000
theorem qts (W:World) (e p:Int):(W.alloc (.cells #[.int .i64 e,.int .i64 p] 25)).heap[W.heap.size]? = some (.cells #[.int .i64 e,.int .i64 p] 25 (0,0)):=World.alloc_heap_new W _
theorem qbfs (w:World):Calls prog 13 #[] w fun e w'=>e=.returned (.bool true)∧QE w.heap.size w w':=by
 have P0:Hid (∀ W,Calls prog 9 #[.string ⟨#[61,49]⟩] W fun e w'=>QE W.heap.size W w'∧∃ v,e=.returned (.tuple #[v,.agg #[.int .i64 10,.int .i64 1]])):=qb fun W=>(qpj ⟨#[61,49]⟩ W).mono fun e w' h=>by
  obtain⟨h1,v,h2,_⟩:=h;rw[show pyL (⟨#[61,49]⟩:QY).data.toList=(10,1,[]) from ex_p0]at h2;exact⟨h1,v,h2⟩
 have P1:Hid (∀ W,Calls prog 9 #[.string ⟨#[62,61,49,44,44,60,50]⟩] W fun e w'=>QE W.heap.size W w'∧∃ v,e=.returned (.tuple #[v,.agg #[.int .i64 10,.int .i64 4]])):=qb fun W=>(qpj ⟨#[62,61,49,44,44,60,50]⟩ W).mono fun e w' h=>by
  obtain⟨h1,v,h2,_⟩:=h;rw[show pyL (⟨#[62,61,49,44,44,60,50]⟩:QY).data.toList=(10,4,[]) from ex_p1]at h2;exact⟨h1,v,h2⟩
 have P2:Hid (∀ W,Calls prog 9 #[.string ⟨#[126,61,49]⟩] W fun e w'=>QE W.heap.size W w'∧∃ v,e=.returned (.tuple #[v,.agg #[.int .i64 19,.int .i64 2]])):=qb fun W=>(qpj ⟨#[126,61,49]⟩ W).mono fun e w' h=>by
  obtain⟨h1,v,h2,_⟩:=h;rw[show pyL (⟨#[126,61,49]⟩:QY).data.toList=(19,2,[]) from ex_p2]at h2;exact⟨h1,v,h2⟩
 have M0:Hid (∀ W,Calls prog 22 #[.string ⟨#[62,61,49,46,48,44,32,33,61,49,46,53,46,42,44,32,60,50]⟩,.string ⟨#[49,46,52]⟩] W fun e w'=>e=.returned (.bool true)∧QE W.heap.size W w'):=qb fun W=>(qcq ⟨#[62,61,49,46,48,44,32,33,61,49,46,53,46,42,44,32,60,50]⟩ ⟨#[49,46,52]⟩ W (by decide)).mono fun e w' h=>by
  rw[show qcd (⟨#[62,61,49,46,48,44,32,33,61,49,46,53,46,42,44,32,60,50]⟩:QY).data.toList (⟨#[49,46,52]⟩:QY).data.toList=true from ex_m0]at h;exact h
 have M1:Hid (∀ W,Calls prog 22 #[.string ⟨#[62,61,49,46,48,44,32,33,61,49,46,53,46,42,44,32,60,50]⟩,.string ⟨#[49,46,54,46,112,111,115,116,49]⟩] W fun e w'=>e=.returned (.bool true)∧QE W.heap.size W w'):=qb fun W=>(qcq ⟨#[62,61,49,46,48,44,32,33,61,49,46,53,46,42,44,32,60,50]⟩ ⟨#[49,46,54,46,112,111,115,116,49]⟩ W (by decide)).mono fun e w' h=>by
  rw[show qcd (⟨#[62,61,49,46,48,44,32,33,61,49,46,53,46,42,44,32,60,50]⟩:QY).data.toList (⟨#[49,46,54,46,112,111,115,116,49]⟩:QY).data.toList=true from ex_m1]at h;exact h
 have M2:Hid (∀ W,Calls prog 22 #[.string ⟨#[62,61,49,46,48,44,32,33,61,49,46,53,46,42,44,32,60,50]⟩,.string ⟨#[49,46,53,46,51]⟩] W fun e w'=>e=.returned (.bool false)∧QE W.heap.size W w'):=qb fun W=>(qcq ⟨#[62,61,49,46,48,44,32,33,61,49,46,53,46,42,44,32,60,50]⟩ ⟨#[49,46,53,46,51]⟩ W (by decide)).mono fun e w' h=>by
  rw[show qcd (⟨#[62,61,49,46,48,44,32,33,61,49,46,53,46,42,44,32,60,50]⟩:QY).data.toList (⟨#[49,46,53,46,51]⟩:QY).data.toList=false from ex_m2]at h;exact h
 have M3:Hid (∀ W,Calls prog 22 #[.string ⟨#[62,61,49,46,48,44,32,33,61,49,46,53,46,42,44,32,60,50]⟩,.string ⟨#[50,46,48,97,49]⟩] W fun e w'=>e=.returned (.bool false)∧QE W.heap.size W w'):=qb fun W=>(qcq ⟨#[62,61,49,46,48,44,32,33,61,49,46,53,46,42,44,32,60,50]⟩ ⟨#[50,46,48,97,49]⟩ W (by decide)).mono fun e w' h=>by
  rw[show qcd (⟨#[62,61,49,46,48,44,32,33,61,49,46,53,46,42,44,32,60,50]⟩:QY).data.toList (⟨#[50,46,48,97,49]⟩:QY).data.toList=false from ex_m3]at h;exact h
 have M4:Hid (∀ W,Calls prog 22 #[.string ⟨#[62,61,49,46,48,44,32,33,61,49,46,53,46,42,44,32,60,50]⟩,.string ⟨#[50,46,48]⟩] W fun e w'=>e=.returned (.bool false)∧QE W.heap.size W w'):=qb fun W=>(qcq ⟨#[62,61,49,46,48,44,32,33,61,49,46,53,46,42,44,32,60,50]⟩ ⟨#[50,46,48]⟩ W (by decide)).mono fun e w' h=>by
  rw[show qcd (⟨#[62,61,49,46,48,44,32,33,61,49,46,53,46,42,44,32,60,50]⟩:QY).data.toList (⟨#[50,46,48]⟩:QY).data.toList=false from ex_m4]at h;exact h
 have M5:Hid (∀ W,Calls prog 22 #[.string ⟨#[126,61,49,46,52,46,50]⟩,.string ⟨#[49,46,52,46,57]⟩] W fun e w'=>e=.returned (.bool true)∧QE W.heap.size W w'):=qb fun W=>(qcq ⟨#[126,61,49,46,52,46,50]⟩ ⟨#[49,46,52,46,57]⟩ W (by decide)).mono fun e w' h=>by
  rw[show qcd (⟨#[126,61,49,46,52,46,50]⟩:QY).data.toList (⟨#[49,46,52,46,57]⟩:QY).data.toList=true from ex_m5]at h;exact h
 have M6:Hid (∀ W,Calls prog 22 #[.string ⟨#[126,61,49,46,52,46,50]⟩,.string ⟨#[49,46,53]⟩] W fun e w'=>e=.returned (.bool false)∧QE W.heap.size W w'):=qb fun W=>(qcq ⟨#[126,61,49,46,52,46,50]⟩ ⟨#[49,46,53]⟩ W (by decide)).mono fun e w' h=>by
  rw[show qcd (⟨#[126,61,49,46,52,46,50]⟩:QY).data.toList (⟨#[49,46,53]⟩:QY).data.toList=false from ex_m6]at h;exact h
 have M7:Hid (∀ W,Calls prog 22 #[.string ⟨#[61,61,49,46,49]⟩,.string ⟨#[49,46,49,46,48,43,108,111,99,97,108]⟩] W fun e w'=>e=.returned (.bool true)∧QE W.heap.size W w'):=qb fun W=>(qcq ⟨#[61,61,49,46,49]⟩ ⟨#[49,46,49,46,48,43,108,111,99,97,108]⟩ W (by decide)).mono fun e w' h=>by
  rw[show qcd (⟨#[61,61,49,46,49]⟩:QY).data.toList (⟨#[49,46,49,46,48,43,108,111,99,97,108]⟩:QY).data.toList=true from ex_m7]at h;exact h
 have M8:Hid (∀ W,Calls prog 22 #[.string ⟨#[62,49,46,55]⟩,.string ⟨#[49,46,55,46,49]⟩] W fun e w'=>e=.returned (.bool true)∧QE W.heap.size W w'):=qb fun W=>(qcq ⟨#[62,49,46,55]⟩ ⟨#[49,46,55,46,49]⟩ W (by decide)).mono fun e w' h=>by
  rw[show qcd (⟨#[62,49,46,55]⟩:QY).data.toList (⟨#[49,46,55,46,49]⟩:QY).data.toList=true from ex_m8]at h;exact h
 have M9:Hid (∀ W,Calls prog 22 #[.string ⟨#[62,49,46,55]⟩,.string ⟨#[49,46,55,46,48,46,112,111,115,116,49]⟩] W fun e w'=>e=.returned (.bool false)∧QE W.heap.size W w'):=qb fun W=>(qcq ⟨#[62,49,46,55]⟩ ⟨#[49,46,55,46,48,46,112,111,115,116,49]⟩ W (by decide)).mono fun e w' h=>by
  rw[show qcd (⟨#[62,49,46,55]⟩:QY).data.toList (⟨#[49,46,55,46,48,46,112,111,115,116,49]⟩:QY).data.toList=false from ex_m9]at h;exact h
 have M10:Hid (∀ W,Calls prog 22 #[.string ⟨#[62,61,50,46,48,97,49]⟩,.string ⟨#[50,46,48,98,49]⟩] W fun e w'=>e=.returned (.bool true)∧QE W.heap.size W w'):=qb fun W=>(qcq ⟨#[62,61,50,46,48,97,49]⟩ ⟨#[50,46,48,98,49]⟩ W (by decide)).mono fun e w' h=>by
  rw[show qcd (⟨#[62,61,50,46,48,97,49]⟩:QY).data.toList (⟨#[50,46,48,98,49]⟩:QY).data.toList=true from ex_m10]at h;exact h
 go_enter Tryz.func13,Tryz.ntmps13
 (go_wp2_with fail);refine(P0.out _).mono ?_;rintro e w1 ⟨b1,v1,rfl⟩;have h1:QE w.heap.size w (w1.alloc (.cells #[.int .i64 10,.int .i64 1] 25)):=b1.alloc b1.size _;have q1:=qts w1 10 1;have z1:w1.heap.size<(w1.alloc (.cells #[.int .i64 10,.int .i64 1] 25)).heap.size:=by simp
 go_upto_region 3 with fail
 generalize w1.alloc _=W1 at *;(go_wp2_with fail);refine(P1.out _).mono ?_;rintro e w2 ⟨b2,v2,rfl⟩;have h2:QE W1.heap.size W1 (w2.alloc (.cells #[.int .i64 10,.int .i64 4] 25)):=b2.alloc b2.size _;have q2:=qts w2 10 4;have z2:w2.heap.size<(w2.alloc (.cells #[.int .i64 10,.int .i64 4] 25)).heap.size:=by simp
 go_upto_region 4 with fail
 generalize w2.alloc _=W2 at *;(go_wp2_with fail);refine(P2.out _).mono ?_;rintro e w3 ⟨b3,v3,rfl⟩;have h3:QE W2.heap.size W2 (w3.alloc (.cells #[.int .i64 19,.int .i64 2] 25)):=b3.alloc b3.size _;have q3:=qts w3 19 2;have z3:w3.heap.size<(w3.alloc (.cells #[.int .i64 19,.int .i64 2] 25)).heap.size:=by simp
 go_upto_region 5 with fail
 generalize w3.alloc _=W3 at *;have H1:=qb h1;have H2:=qb h2;have H3:=qb h3;have Q1:=qb q1;have Q2:=qb q2;have Q3:=qb q3;clear h1 h2 h3 q1 q2 q3 b1 b2 b3 P0 P1 P2;(go_wp2_with fail);refine(M0.out _).mono ?_;rintro e V0 ⟨rfl,c0⟩;have C0:=qb c0;clear c0;(go_wp2_with fail);refine(M1.out _).mono ?_;rintro e V1 ⟨rfl,c1⟩;have C1:=qb (C0.out.trans (c1.mono C0.out.size));clear c1;(go_wp2_with fail);refine(M2.out _).mono ?_;rintro e V2 ⟨rfl,c2⟩;have C2:=qb (C1.out.trans (c2.mono C1.out.size));clear c2;(go_wp2_with fail);refine(M3.out _).mono ?_;rintro e V3 ⟨rfl,c3⟩;have C3:=qb (C2.out.trans (c3.mono C2.out.size));clear c3;(go_wp2_with fail);refine(M4.out _).mono ?_;rintro e V4 ⟨rfl,c4⟩;have C4:=qb (C3.out.trans (c4.mono C3.out.size));clear c4;(go_wp2_with fail);refine(M5.out _).mono ?_;rintro e V5 ⟨rfl,c5⟩;have C5:=qb (C4.out.trans (c5.mono C4.out.size));clear c5;(go_wp2_with fail);refine(M6.out _).mono ?_;rintro e V6 ⟨rfl,c6⟩;have C6:=qb (C5.out.trans (c6.mono C5.out.size));clear c6;(go_wp2_with fail);refine(M7.out _).mono ?_;rintro e V7 ⟨rfl,c7⟩;have C7:=qb (C6.out.trans (c7.mono C6.out.size));clear c7;(go_wp2_with fail);refine(M8.out _).mono ?_;rintro e V8 ⟨rfl,c8⟩;have C8:=qb (C7.out.trans (c8.mono C7.out.size));clear c8;(go_wp2_with fail);refine(M9.out _).mono ?_;rintro e V9 ⟨rfl,c9⟩;have C9:=qb (C8.out.trans (c9.mono C8.out.size));clear c9;(go_wp2_with fail);refine(M10.out _).mono ?_
 rintro e V10 ⟨rfl,c10⟩;have C10:=qb (C9.out.trans (c10.mono C9.out.size));have s1:=H2.out.size;have s2:=H3.out.size;have s3:=C10.out.size;have e3:=(C10.out.block _ z3).trans Q3.out;have e2:=(C10.out.block _ (by omega)).trans ((H3.out.block _ z2).trans Q2.out)
 have e1:=(C10.out.block _ (by omega)).trans ((H3.out.block _ (by omega)).trans ((H2.out.block _ z1).trans Q1.out))
 have a1:=qc 0 e1 rfl;have a2:=qc 1 e1 rfl;have a3:=qc 0 e2 rfl;have a4:=qc 1 e2 rfl;have a5:=qc 0 e3 rfl;have a6:=qc 1 e3 rfl;have HF:=qb (H1.out.trans ((H2.out.trans ((H3.out.trans (C10.out.mono (by omega))).mono (by omega))).mono (by have:=H1.out.size;omega)))
 clear e1 e2 e3;clear c10;(go_wp2_with fail);go_ret
 exact⟨rfl,HF.out⟩
theorem go_bad (l:QB):∀ (n a:Nat) (acc:List Cl) (e:Int) (p:Nat) (cs:List Cl),pyGo l n a acc=(e,p,cs)→e≠0→cs=[]
 | 0,_,_,_,_,_,h,_=>by unfold pyGo at h;cases h;rfl
 | n + 1,a,acc,e,p,cs,h,he=>by
  unfold pyGo at h;split at h
  ·cases h;rfl
  ·split at h
   ·cases h;rfl
   ·split at h
    ·exact go_bad l n _ _ e p cs h he
    ·cases h;exact absurd rfl he
theorem py_bad {l:QB} {e:Int} {p:Nat} {cs:List Cl} (h:pyL l=(e,p,cs)) (he:e≠0):cs=[]:=by
 unfold pyL at h;split at h
 ·cases h;rfl
 ·split at h
  ·cases h;rfl
  ·exact go_bad l 33 0 [] e p cs h he
theorem core_map {α : Type} (f:Cl→α) (g:Nat×PepL×QB×Bool→α) (hf:∀ c,f c=g (qhq c)) {ds cs:List Cl} (h:ds.map qhq=cs.map qhq):ds.map f=cs.map f:=by
 have e:∀ xs:List Cl,xs.map f=(xs.map qhq).map g:=fun xs=>by
  rw[List.map_map];exact List.map_congr_left fun x _=>hf x
 rw[e,e,h]
theorem PyAt.same {W:World} {v:Value} {ds cs:List Cl} (h:PyAt W v ds) (hs:ds.map qhq=cs.map qhq):PyAt W v cs:=by
 obtain⟨a,c,rfl,h1⟩:=h;have hl:ds.length=cs.length:=by simpa using congrArg List.length hs
 have hp:ds.map plL=cs.map plL:=core_map plL (fun q=>[.string (qd (sgn q.1)),.string (qd q.2.2.1),.bool q.2.2.2]) (fun _=>rfl) hs;have hf:ds.flatMap plL=cs.flatMap plL:=by rw[List.flatMap_def,List.flatMap_def,hp]
 refine⟨a,c,by rw[hl],?_⟩
 rcases h1 with h1|h1
 ·left;apply List.length_eq_zero_iff.1;rw[←hl,h1]
  rfl
 ·right;rw[←hf];exact h1
open _root_.Array renaming getElem?_eq_some_iff → qbth
set_option maxHeartbeats 4000000
set_option maxRecDepth 100000
def fitT (q:Tri):Bool:=decide ((pyL (wrT q)).2.2.map triC=[q])
def triV (q:Tri):Value:=.agg #[.string (qd q.1),.string (qd q.2.1),.bool q.2.2]
theorem qbrv (q:Tri):qhv [q]=wrT q:=by simp[qhv,Lib.join,List.intercalate]
theorem tri_one {W:World} {b:Nat} {q:Tri} {t:TypeId} (h:W.heap[b]? = some (.cells #[.string (qd q.1),.string (qd q.2.1),.bool q.2.2] t (0,0))):qqd W (.slice (some ⟨b,0,none⟩) 1 1) [q]:=by
 refine⟨_,1,rfl,fun i hi=>⟨b,0,rfl,(qbth.1 h).1,?_⟩⟩;obtain rfl:i=0:=by simpa using hi
 exact⟨qc 0 h rfl,qc 1 h rfl,qc 2 h rfl⟩
theorem qrp (q:Tri) (w:World) (h0:q.1.length≤10000000) (h1:q.2.1.length≤10000000) :
  Calls Tryz.prog 37 #[triV q] w fun e w'=>e=.returned (.bool (fitT q))∧Below w.heap.size w w':=by
 have hs:qjr [q]:=⟨by simp,fun x hx=>by rw[List.mem_singleton]at hx;subst hx;exact⟨h0,h1⟩⟩
 have P34:=qb (fun (W:World) b t (h:(W:World).heap[b]? = some (Obj.cells #[.string (qd q.1),.string (qd q.2.1),.bool q.2.2] t (0,0)))=>qbmc _ [q] W (tri_one h) hs);rw[qbrv]at P34;have P31:=qb (fun W=>qqs (qd (wrT q)) W);rw[qj]at P31;have hb:=@py_bad (wrT q);unfold fitT triV;clear hs h0 h1;generalize wrT q=T at *;generalize pyL T=R at *;obtain⟨er,p,cs⟩:=R;dsimp only at *;unfold qgk at P31;dsimp only at P31;have hB0:=(Below.refl _ w).alloc (Nat.le_refl _) (.cells #[.string (qd q.1),.string (qd q.2.1),.bool q.2.2] 32);have n0:=qb (World.alloc_heap_new w (.cells #[.string (qd q.1),.string (qd q.2.1),.bool q.2.2] 32));have HN:Hid (((w.alloc (.cells #[.string (qd q.1),.string (qd q.2.1),.bool q.2.2] 32)).alloc (.cells #[.string (qd q.1),.string (qd q.2.1),.bool q.2.2] 32)).heap[w.heap.size+1]? = some (.cells #[.string (qd q.1),.string (qd q.2.1),.bool q.2.2] 32 (0,0))):=qb (by
  have:=World.alloc_heap_new (w.alloc (.cells #[.string (qd q.1),.string (qd q.2.1),.bool q.2.2] 32)) (.cells #[.string (qd q.1),.string (qd q.2.1),.bool q.2.2] 32)
  rwa [World.size_alloc]at this)
 have bA:=(Below.refl _ (w.alloc (.cells #[.string (qd q.1),.string (qd q.2.1),.bool q.2.2] 32))).alloc (Nat.le_refl _) (.cells #[.string (qd q.1),.string (qd q.2.1),.bool q.2.2] 32);have HM:=qb ((bA.block _ (qbth.1 n0.out).1).trans n0.out);have HB1:=qb (hB0.trans (bA.mono hB0.size));clear bA hB0 n0
 by_cases he:er=0
 ·subst he;clear hb
  by_cases hc:cs.length=1
  ·obtain ⟨c,rfl⟩:=List.length_eq_one_iff.1 hc;clear hc;obtain⟨Y0,Y1,Y2⟩:=q;dsimp only at *;obtain⟨X0,X1,X2,hx⟩:∃ X0 X1 X2,triC c=(X0,X1,X2):=⟨_,_,_,rfl⟩;have HX:Hid (decide ([(X0,X1,X2)]=[(Y0,Y1,Y2)])=((X0==Y0)&&((X1==Y1)&&(X2==Y2)))):=qb (by rw[Bool.eq_iff_iff];simp)
   rw[List.map_cons,List.map_nil,hx,HX.out];clear HX;have e0:=qbjs X0 Y0;have e1:=qbjs X1 Y1;generalize (X0==Y0)=E0 at *;generalize (X1==Y1)=E1 at *;go_enter Tryz.func37,Tryz.ntmps37
   (go_wp2_with fail);refine(P34.out _ _ 32 HN.out).mono ?_;rintro e w2 ⟨rfl,b2⟩;have HB2:=qb (HB1.out.trans (b2.mono HB1.out.size));have HM2:=qb ((b2.block _ (qbth.1 HM.out).1).trans HM.out);clear b2;(go_wp2_with fail);refine(P31.out _).mono ?_;rintro e w3 ⟨b3,v3,rfl,hv3,_⟩;have HB3:=qb (HB2.out.trans (b3.mono HB2.out.size));have m3:=(b3.block _ (qbth.1 HM2.out).1).trans HM2.out;have x0:=qc 0 m3 rfl;have x1:=qc 1 m3 rfl;have x2:=qc 2 m3 rfl;obtain⟨a3,k3,hv,hA⟩:=hv3.tri;obtain⟨g1,o1,rfl,_,p0,p1,p2⟩:=hA 0 (by simp)
   subst hv;simp only[Nat.zero_mul,Nat.add_zero,List.map_cons,List.map_nil,List.getElem_cons_zero,hx]at p0 p1 p2;clear b3 m3 hv3 hA hx;cases E0<;>cases E1<;>cases X2<;>cases Y2
   all_goals
    (go_wp2_with fail);go_quiet (fail)
    have hb':Below w.heap.size w (w3.drewN nq):=HB3.out.trans ((qz _ _ _).mono HB3.out.size);generalize w3.drewN nq=W9 at *;(go_wp2_with fail);go_ret
    exact⟨rfl,hb'⟩
  ·have hf:decide (cs.map triC=[q])=false:=by
    simp only[decide_eq_false_iff_not];intro h;apply hc;simpa using congrArg List.length h
   have hc1:((cs.length:Int)==1)=false:=by simp;omega
   have hc2:¬ (cs.length:Int)=1:=by omega
   rw[hf];go_enter Tryz.func37,Tryz.ntmps37
   (go_wp2_with fail);refine(P34.out _ _ 32 HN.out).mono ?_;rintro e w2 ⟨rfl,b2⟩;have HB2:=qb (HB1.out.trans (b2.mono HB1.out.size));have HM2:=qb ((b2.block _ (qbth.1 HM.out).1).trans HM.out);clear b2;(go_wp2_with fail);refine(P31.out _).mono ?_;rintro e w3 ⟨b3,v3,rfl,hv3,_⟩;have HB3:=qb (HB2.out.trans (b3.mono HB2.out.size));have m3:=(b3.block _ (qbth.1 HM2.out).1).trans HM2.out;have x0:=qc 0 m3 rfl;have x1:=qc 1 m3 rfl;have x2:=qc 2 m3 rfl;obtain⟨a3,k3,rfl,_⟩:=id hv3;clear b3 m3 hv3;(go_wp2_with fail);go_quiet (fail)
   have hb':Below w.heap.size w (w3.drewN nq):=HB3.out.trans ((qz _ _ _).mono HB3.out.size);generalize w3.drewN nq=W9 at *;(go_wp2_with fail);go_ret
   exact⟨rfl,hb'⟩
 ·obtain rfl:=hb rfl he;have he1:(er==0)=false:=by simpa using he
  have he2:(er != 0)=true:=by simpa using he
  have hf:decide (([]:List Cl).map triC=[q])=false:=by simp
  rw[hf];clear hb;go_enter Tryz.func37,Tryz.ntmps37
  (go_wp2_with fail);refine(P34.out _ _ 32 HN.out).mono ?_;rintro e w2 ⟨rfl,b2⟩;have HB2:=qb (HB1.out.trans (b2.mono HB1.out.size));have HM2:=qb ((b2.block _ (qbth.1 HM.out).1).trans HM.out);clear b2;(go_wp2_with fail);refine(P31.out _).mono ?_;rintro e w3 ⟨b3,v3,rfl,hv3,_⟩;have HB3:=qb (HB2.out.trans (b3.mono HB2.out.size));have m3:=(b3.block _ (qbth.1 HM2.out).1).trans HM2.out;have x0:=qc 0 m3 rfl;have x1:=qc 1 m3 rfl;have x2:=qc 2 m3 rfl;obtain⟨a3,k3,rfl,_⟩:=id hv3;clear b3 m3 hv3;(go_wp2_with fail);go_quiet (fail)
  have hb':Below w.heap.size w (w3.drewN nq):=HB3.out.trans ((qz _ _ _).mono HB3.out.size);generalize w3.drewN nq=W9 at *;(go_wp2_with fail);go_ret
  exact⟨rfl,hb'⟩
end Go.Proofs.YtabmfdedbpmfmaaGreat
