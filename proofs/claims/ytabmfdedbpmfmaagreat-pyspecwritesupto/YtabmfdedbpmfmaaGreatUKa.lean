/- Walks: a clause with what it means. -/
import Derived.Deep.Cut
import Derived.Test.YtabmfdedbpmfmaaGreatUIg
import Derived.Test.YtabmfdedbpmfmaaGreatUJc
import Derived.Test.YtabmfdedbpmfmaaGreatUZe
import Derived.Deep.RegionWith
namespace Go.Proofs.YtabmfdedbpmfmaaGreat
open Go.RowKit Go.Shelf
open Go.RowKit renaming Below → QE
open Go.Proofs.Tryz (prog)
set_option linter.unusedVariables false
set_option maxHeartbeats 8000000
set_option maxRecDepth 100000
theorem qwc (W:World) (e p:Int):(W.alloc (.cells #[.int .i64 e,.int .i64 p] 25)).heap[W.heap.size]? = some (.cells #[.int .i64 e,.int .i64 p] 25 (0,0)):=World.alloc_heap_new W _
theorem qbfd (w:World):Calls prog 13 #[] w fun e w'=>e=.returned (.bool true)∧QE w.heap.size w w':=by
 have P0:Hid (∀ W,Calls prog 9 #[.string ⟨#[61,49]⟩] W fun e w'=>QE W.heap.size W w'∧∃ v,e=.returned (.tuple #[v,.agg #[.int .i64 10,.int .i64 1]])):=qb fun W=>(qkw ⟨#[61,49]⟩ W).mono fun e w' h=>by
  obtain⟨h1,v,h2,_⟩:=h;rw[show pyL (⟨#[61,49]⟩:QY).data.toList=(10,1,[]) from ex_p0]at h2;exact⟨h1,v,h2⟩
 have P1:Hid (∀ W,Calls prog 9 #[.string ⟨#[62,61,49,44,44,60,50]⟩] W fun e w'=>QE W.heap.size W w'∧∃ v,e=.returned (.tuple #[v,.agg #[.int .i64 10,.int .i64 4]])):=qb fun W=>(qkw ⟨#[62,61,49,44,44,60,50]⟩ W).mono fun e w' h=>by
  obtain⟨h1,v,h2,_⟩:=h;rw[show pyL (⟨#[62,61,49,44,44,60,50]⟩:QY).data.toList=(10,4,[]) from ex_p1]at h2;exact⟨h1,v,h2⟩
 have P2:Hid (∀ W,Calls prog 9 #[.string ⟨#[126,61,49]⟩] W fun e w'=>QE W.heap.size W w'∧∃ v,e=.returned (.tuple #[v,.agg #[.int .i64 19,.int .i64 2]])):=qb fun W=>(qkw ⟨#[126,61,49]⟩ W).mono fun e w' h=>by
  obtain⟨h1,v,h2,_⟩:=h;rw[show pyL (⟨#[126,61,49]⟩:QY).data.toList=(19,2,[]) from ex_p2]at h2;exact⟨h1,v,h2⟩
 have M0:Hid (∀ W,Calls prog 22 #[.string ⟨#[62,61,49,46,48,44,32,33,61,49,46,53,46,42,44,32,60,50]⟩,.string ⟨#[49,46,52]⟩] W fun e w'=>e=.returned (.bool true)∧QE W.heap.size W w'):=qb fun W=>(qcx ⟨#[62,61,49,46,48,44,32,33,61,49,46,53,46,42,44,32,60,50]⟩ ⟨#[49,46,52]⟩ W (by decide)).mono fun e w' h=>by
  rw[show qcz (⟨#[62,61,49,46,48,44,32,33,61,49,46,53,46,42,44,32,60,50]⟩:QY).data.toList (⟨#[49,46,52]⟩:QY).data.toList=true from ex_m0]at h;exact h
 have M1:Hid (∀ W,Calls prog 22 #[.string ⟨#[62,61,49,46,48,44,32,33,61,49,46,53,46,42,44,32,60,50]⟩,.string ⟨#[49,46,54,46,112,111,115,116,49]⟩] W fun e w'=>e=.returned (.bool true)∧QE W.heap.size W w'):=qb fun W=>(qcx ⟨#[62,61,49,46,48,44,32,33,61,49,46,53,46,42,44,32,60,50]⟩ ⟨#[49,46,54,46,112,111,115,116,49]⟩ W (by decide)).mono fun e w' h=>by
  rw[show qcz (⟨#[62,61,49,46,48,44,32,33,61,49,46,53,46,42,44,32,60,50]⟩:QY).data.toList (⟨#[49,46,54,46,112,111,115,116,49]⟩:QY).data.toList=true from ex_m1]at h;exact h
 have M2:Hid (∀ W,Calls prog 22 #[.string ⟨#[62,61,49,46,48,44,32,33,61,49,46,53,46,42,44,32,60,50]⟩,.string ⟨#[49,46,53,46,51]⟩] W fun e w'=>e=.returned (.bool false)∧QE W.heap.size W w'):=qb fun W=>(qcx ⟨#[62,61,49,46,48,44,32,33,61,49,46,53,46,42,44,32,60,50]⟩ ⟨#[49,46,53,46,51]⟩ W (by decide)).mono fun e w' h=>by
  rw[show qcz (⟨#[62,61,49,46,48,44,32,33,61,49,46,53,46,42,44,32,60,50]⟩:QY).data.toList (⟨#[49,46,53,46,51]⟩:QY).data.toList=false from ex_m2]at h;exact h
 have M3:Hid (∀ W,Calls prog 22 #[.string ⟨#[62,61,49,46,48,44,32,33,61,49,46,53,46,42,44,32,60,50]⟩,.string ⟨#[50,46,48,97,49]⟩] W fun e w'=>e=.returned (.bool false)∧QE W.heap.size W w'):=qb fun W=>(qcx ⟨#[62,61,49,46,48,44,32,33,61,49,46,53,46,42,44,32,60,50]⟩ ⟨#[50,46,48,97,49]⟩ W (by decide)).mono fun e w' h=>by
  rw[show qcz (⟨#[62,61,49,46,48,44,32,33,61,49,46,53,46,42,44,32,60,50]⟩:QY).data.toList (⟨#[50,46,48,97,49]⟩:QY).data.toList=false from ex_m3]at h;exact h
 have M4:Hid (∀ W,Calls prog 22 #[.string ⟨#[62,61,49,46,48,44,32,33,61,49,46,53,46,42,44,32,60,50]⟩,.string ⟨#[50,46,48]⟩] W fun e w'=>e=.returned (.bool false)∧QE W.heap.size W w'):=qb fun W=>(qcx ⟨#[62,61,49,46,48,44,32,33,61,49,46,53,46,42,44,32,60,50]⟩ ⟨#[50,46,48]⟩ W (by decide)).mono fun e w' h=>by
  rw[show qcz (⟨#[62,61,49,46,48,44,32,33,61,49,46,53,46,42,44,32,60,50]⟩:QY).data.toList (⟨#[50,46,48]⟩:QY).data.toList=false from ex_m4]at h;exact h
 have M5:Hid (∀ W,Calls prog 22 #[.string ⟨#[126,61,49,46,52,46,50]⟩,.string ⟨#[49,46,52,46,57]⟩] W fun e w'=>e=.returned (.bool true)∧QE W.heap.size W w'):=qb fun W=>(qcx ⟨#[126,61,49,46,52,46,50]⟩ ⟨#[49,46,52,46,57]⟩ W (by decide)).mono fun e w' h=>by
  rw[show qcz (⟨#[126,61,49,46,52,46,50]⟩:QY).data.toList (⟨#[49,46,52,46,57]⟩:QY).data.toList=true from ex_m5]at h;exact h
 have M6:Hid (∀ W,Calls prog 22 #[.string ⟨#[126,61,49,46,52,46,50]⟩,.string ⟨#[49,46,53]⟩] W fun e w'=>e=.returned (.bool false)∧QE W.heap.size W w'):=qb fun W=>(qcx ⟨#[126,61,49,46,52,46,50]⟩ ⟨#[49,46,53]⟩ W (by decide)).mono fun e w' h=>by
  rw[show qcz (⟨#[126,61,49,46,52,46,50]⟩:QY).data.toList (⟨#[49,46,53]⟩:QY).data.toList=false from ex_m6]at h;exact h
 have M7:Hid (∀ W,Calls prog 22 #[.string ⟨#[61,61,49,46,49]⟩,.string ⟨#[49,46,49,46,48,43,108,111,99,97,108]⟩] W fun e w'=>e=.returned (.bool true)∧QE W.heap.size W w'):=qb fun W=>(qcx ⟨#[61,61,49,46,49]⟩ ⟨#[49,46,49,46,48,43,108,111,99,97,108]⟩ W (by decide)).mono fun e w' h=>by
  rw[show qcz (⟨#[61,61,49,46,49]⟩:QY).data.toList (⟨#[49,46,49,46,48,43,108,111,99,97,108]⟩:QY).data.toList=true from ex_m7]at h;exact h
 have M8:Hid (∀ W,Calls prog 22 #[.string ⟨#[62,49,46,55]⟩,.string ⟨#[49,46,55,46,49]⟩] W fun e w'=>e=.returned (.bool true)∧QE W.heap.size W w'):=qb fun W=>(qcx ⟨#[62,49,46,55]⟩ ⟨#[49,46,55,46,49]⟩ W (by decide)).mono fun e w' h=>by
  rw[show qcz (⟨#[62,49,46,55]⟩:QY).data.toList (⟨#[49,46,55,46,49]⟩:QY).data.toList=true from ex_m8]at h;exact h
 have M9:Hid (∀ W,Calls prog 22 #[.string ⟨#[62,49,46,55]⟩,.string ⟨#[49,46,55,46,48,46,112,111,115,116,49]⟩] W fun e w'=>e=.returned (.bool false)∧QE W.heap.size W w'):=qb fun W=>(qcx ⟨#[62,49,46,55]⟩ ⟨#[49,46,55,46,48,46,112,111,115,116,49]⟩ W (by decide)).mono fun e w' h=>by
  rw[show qcz (⟨#[62,49,46,55]⟩:QY).data.toList (⟨#[49,46,55,46,48,46,112,111,115,116,49]⟩:QY).data.toList=false from ex_m9]at h;exact h
 have M10:Hid (∀ W,Calls prog 22 #[.string ⟨#[62,61,50,46,48,97,49]⟩,.string ⟨#[50,46,48,98,49]⟩] W fun e w'=>e=.returned (.bool true)∧QE W.heap.size W w'):=qb fun W=>(qcx ⟨#[62,61,50,46,48,97,49]⟩ ⟨#[50,46,48,98,49]⟩ W (by decide)).mono fun e w' h=>by
  rw[show qcz (⟨#[62,61,50,46,48,97,49]⟩:QY).data.toList (⟨#[50,46,48,98,49]⟩:QY).data.toList=true from ex_m10]at h;exact h
 go_enter Tryz.func13,Tryz.ntmps13
 (go_wp2_with fail);refine(P0.out _).mono ?_;rintro e w1 ⟨b1,v1,rfl⟩;have h1:QE w.heap.size w (w1.alloc (.cells #[.int .i64 10,.int .i64 1] 25)):=b1.alloc b1.size _;have q1:=qwc w1 10 1;have z1:w1.heap.size<(w1.alloc (.cells #[.int .i64 10,.int .i64 1] 25)).heap.size:=by simp
 go_upto_region 3 with fail
 generalize w1.alloc _=W1 at *;(go_wp2_with fail);refine(P1.out _).mono ?_;rintro e w2 ⟨b2,v2,rfl⟩;have h2:QE W1.heap.size W1 (w2.alloc (.cells #[.int .i64 10,.int .i64 4] 25)):=b2.alloc b2.size _;have q2:=qwc w2 10 4;have z2:w2.heap.size<(w2.alloc (.cells #[.int .i64 10,.int .i64 4] 25)).heap.size:=by simp
 go_upto_region 4 with fail
 generalize w2.alloc _=W2 at *;(go_wp2_with fail);refine(P2.out _).mono ?_;rintro e w3 ⟨b3,v3,rfl⟩;have h3:QE W2.heap.size W2 (w3.alloc (.cells #[.int .i64 19,.int .i64 2] 25)):=b3.alloc b3.size _;have q3:=qwc w3 19 2;have z3:w3.heap.size<(w3.alloc (.cells #[.int .i64 19,.int .i64 2] 25)).heap.size:=by simp
 go_upto_region 5 with fail
 generalize w3.alloc _=W3 at *;have H1:=qb h1;have H2:=qb h2;have H3:=qb h3;have Q1:=qb q1;have Q2:=qb q2;have Q3:=qb q3;clear h1 h2 h3 q1 q2 q3 b1 b2 b3 P0 P1 P2;(go_wp2_with fail);refine(M0.out _).mono ?_;rintro e V0 ⟨rfl,c0⟩;have C0:=qb c0;clear c0;(go_wp2_with fail);refine(M1.out _).mono ?_;rintro e V1 ⟨rfl,c1⟩;have C1:=qb (C0.out.trans (c1.mono C0.out.size));clear c1;(go_wp2_with fail);refine(M2.out _).mono ?_;rintro e V2 ⟨rfl,c2⟩;have C2:=qb (C1.out.trans (c2.mono C1.out.size));clear c2;(go_wp2_with fail);refine(M3.out _).mono ?_;rintro e V3 ⟨rfl,c3⟩;have C3:=qb (C2.out.trans (c3.mono C2.out.size));clear c3;(go_wp2_with fail);refine(M4.out _).mono ?_;rintro e V4 ⟨rfl,c4⟩;have C4:=qb (C3.out.trans (c4.mono C3.out.size));clear c4;(go_wp2_with fail);refine(M5.out _).mono ?_;rintro e V5 ⟨rfl,c5⟩;have C5:=qb (C4.out.trans (c5.mono C4.out.size));clear c5;(go_wp2_with fail);refine(M6.out _).mono ?_;rintro e V6 ⟨rfl,c6⟩;have C6:=qb (C5.out.trans (c6.mono C5.out.size));clear c6;(go_wp2_with fail);refine(M7.out _).mono ?_;rintro e V7 ⟨rfl,c7⟩;have C7:=qb (C6.out.trans (c7.mono C6.out.size));clear c7;(go_wp2_with fail);refine(M8.out _).mono ?_;rintro e V8 ⟨rfl,c8⟩;have C8:=qb (C7.out.trans (c8.mono C7.out.size));clear c8;(go_wp2_with fail);refine(M9.out _).mono ?_;rintro e V9 ⟨rfl,c9⟩;have C9:=qb (C8.out.trans (c9.mono C8.out.size));clear c9;(go_wp2_with fail);refine(M10.out _).mono ?_
 rintro e V10 ⟨rfl,c10⟩;have C10:=qb (C9.out.trans (c10.mono C9.out.size));have s1:=H2.out.size;have s2:=H3.out.size;have s3:=C10.out.size;have e3:=(C10.out.block _ z3).trans Q3.out;have e2:=(C10.out.block _ (by omega)).trans ((H3.out.block _ z2).trans Q2.out)
 have e1:=(C10.out.block _ (by omega)).trans ((H3.out.block _ (by omega)).trans ((H2.out.block _ z1).trans Q1.out))
 have a1:=qc 0 e1 rfl;have a2:=qc 1 e1 rfl;have a3:=qc 0 e2 rfl;have a4:=qc 1 e2 rfl;have a5:=qc 0 e3 rfl;have a6:=qc 1 e3 rfl;have HF:=qb (H1.out.trans ((H2.out.trans ((H3.out.trans (C10.out.mono (by omega))).mono (by omega))).mono (by have:=H1.out.size;omega)))
 clear e1 e2 e3;clear c10;(go_wp2_with fail);go_ret
 exact⟨rfl,HF.out⟩
theorem go_bad (l:QB):∀ (n a:Nat) (acc:List Cl) (e:Int) (p:Nat) (cs:List Cl),pyGo l n a acc=(e,p,cs)→e≠0→cs=[]
 | 0,_,_,_,_,_,h,_=>by unfold pyGo at h;cases h;rfl
 | n + 1,a,acc,e,p,cs,h,he=>by
  unfold pyGo at h;split at h
  ·cases h;rfl
  ·split at h
   ·cases h;rfl
   ·split at h
    ·exact go_bad l n _ _ e p cs h he
    ·cases h;exact absurd rfl he
theorem py_bad {l:QB} {e:Int} {p:Nat} {cs:List Cl} (h:pyL l=(e,p,cs)) (he:e≠0):cs=[]:=by
 unfold pyL at h;split at h
 ·cases h;rfl
 ·split at h
  ·cases h;rfl
  ·exact go_bad l 33 0 [] e p cs h he
theorem core_map {α : Type} (f:Cl→α) (g:Nat×PepL×QB×Bool→α) (hf:∀ c,f c=g (qxp c)) {ds cs:List Cl} (h:ds.map qxp=cs.map qxp):ds.map f=cs.map f:=by
 have e:∀ xs:List Cl,xs.map f=(xs.map qxp).map g:=fun xs=>by
  rw[List.map_map];exact List.map_congr_left fun x _=>hf x
 rw[e,e,h]
theorem PyAt.same {W:World} {v:Value} {ds cs:List Cl} (h:PyAt W v ds) (hs:ds.map qxp=cs.map qxp):PyAt W v cs:=by
 obtain⟨a,c,rfl,h1⟩:=h;have hl:ds.length=cs.length:=by simpa using congrArg List.length hs
 have hp:ds.map plL=cs.map plL:=core_map plL (fun q=>[.string (qd (sgn q.1)),.string (qd q.2.2.1),.bool q.2.2.2]) (fun _=>rfl) hs;have hf:ds.flatMap plL=cs.flatMap plL:=by rw[List.flatMap_def,List.flatMap_def,hp]
 refine⟨a,c,by rw[hl],?_⟩
 rcases h1 with h1|h1
 ·left;apply List.length_eq_zero_iff.1;rw[←hl,h1]
  rfl
 ·right;rw[←hf];exact h1
set_option maxHeartbeats 4000000
set_option maxRecDepth 100000
theorem qwt (v:Value) (qs:List Tri) (w:World) (hv:qgn w v qs) (hs:qgm qs) :
  Calls Tryz.prog 15 #[v] w fun e w'=>e=.returned (.string (qd (fmtT qs)))∧Below w.heap.size w w':=by
 have P34:=qb (qwd v qs w hv hs);have P31:=qb (fun W=>qqd (qd (qdv qs)) W);rw[qj]at P31;have HS:=qb (show qs.length≤9000000000000000000 by have:=hs.1;omega)
 have hz:qs=[]→qdv qs=[]:=by rintro rfl;rfl
 obtain⟨a,c,rfl,_⟩:=id hv;have HV:=qb hv;have hb:=@py_bad (qdv qs);clear hv hs;unfold fmtT;generalize qdv qs=T at *;generalize pyL T=R at *;obtain⟨er,p,cs⟩:=R;dsimp only at *;unfold qrh at P31;dsimp only at P31
 by_cases he:er=0
 ·subst he;clear hb hz;cases hd:decide (qs=cs.map triC)
  ·have hne:¬ (cs.map triC=qs):=fun h=>by simp[h]at hd
   rw[if_neg hne];go_enter Tryz.func15,Tryz.ntmps15
   (go_wp2_with fail);refine(P34.out).mono ?_;rintro e w1 ⟨rfl,b1⟩;have HB1:=qb b1;have HV1:=qb (HV.out.below b1);clear b1;(go_wp2_with fail);refine(P31.out _).mono ?_;rintro e w2 ⟨b2,v2,rfl,hv2,_⟩;obtain⟨a2,k2,rfl,_⟩:=id hv2;have HB2:=qb (HB1.out.trans (b2.mono HB1.out.size));have HE:=qb (qnj (.slice a qs.length c) (.slice a2 cs.length k2) qs (cs.map triC) w2 (HV1.out.below b2) hv2.tri HS.out);rw[hd]at HE;clear hv2 b2 hd;(go_wp2_with fail);refine(HE.out).mono ?_;rintro e w3 ⟨rfl,b3⟩;have HB3:=qb (HB2.out.trans (b3.mono HB2.out.size));clear b3;(go_wp2_with fail);go_ret
   exact⟨rfl,HB3.out⟩
  ·have hne:cs.map triC=qs:=by simpa using (of_decide_eq_true hd).symm
   rw[if_pos hne];go_enter Tryz.func15,Tryz.ntmps15
   (go_wp2_with fail);refine(P34.out).mono ?_;rintro e w1 ⟨rfl,b1⟩;have HB1:=qb b1;have HV1:=qb (HV.out.below b1);clear b1;(go_wp2_with fail);refine(P31.out _).mono ?_;rintro e w2 ⟨b2,v2,rfl,hv2,_⟩;obtain⟨a2,k2,rfl,_⟩:=id hv2;have HB2:=qb (HB1.out.trans (b2.mono HB1.out.size));have HE:=qb (qnj (.slice a qs.length c) (.slice a2 cs.length k2) qs (cs.map triC) w2 (HV1.out.below b2) hv2.tri HS.out);rw[hd]at HE;clear hv2 b2 hd;(go_wp2_with fail);refine(HE.out).mono ?_;rintro e w3 ⟨rfl,b3⟩;have HB3:=qb (HB2.out.trans (b3.mono HB2.out.size));clear b3;(go_wp2_with fail);go_ret
   exact⟨rfl,HB3.out⟩
 ·obtain rfl:=hb rfl he;have he1:(er==0)=false:=by simpa using he
  have he2:(er != 0)=true:=by simpa using he
  have hT:(if List.map triC []=qs then T else [])=[]:=by
   split
   ·rename_i h;exact hz h.symm
   ·rfl
  rw[hT];clear hT hb hz;go_enter Tryz.func15,Tryz.ntmps15
  (go_wp2_with fail);refine(P34.out).mono ?_;rintro e w1 ⟨rfl,b1⟩;have HB1:=qb b1;have HV1:=qb (HV.out.below b1);clear b1;(go_wp2_with fail);refine(P31.out _).mono ?_;rintro e w2 ⟨b2,v2,rfl,hv2,_⟩;obtain⟨a2,k2,rfl,_⟩:=id hv2;have HB2:=qb (HB1.out.trans (b2.mono HB1.out.size));clear hv2 b2;(go_wp2_with fail);go_ret
  exact⟨rfl,HB2.out⟩
open _root_.Array renaming getElem?_eq_some_iff → qbsp
set_option maxHeartbeats 4000000
set_option maxRecDepth 100000
def fitT (q:Tri):Bool:=decide ((pyL (wrT q)).2.2.map triC=[q])
def triV (q:Tri):Value:=.agg #[.string (qd q.1),.string (qd q.2.1),.bool q.2.2]
theorem qzq (q:Tri):qdv [q]=wrT q:=by simp[qdv,Lib.join,List.intercalate]
theorem qbnc {W:World} {b:Nat} {q:Tri} {t:TypeId} (h:W.heap[b]? = some (.cells #[.string (qd q.1),.string (qd q.2.1),.bool q.2.2] t (0,0))):qgn W (.slice (some ⟨b,0,none⟩) 1 1) [q]:=by
 refine⟨_,1,rfl,fun i hi=>⟨b,0,rfl,(qbsp.1 h).1,?_⟩⟩;obtain rfl:i=0:=by simpa using hi
 exact⟨qc 0 h rfl,qc 1 h rfl,qc 2 h rfl⟩
theorem qrm (q:Tri) (w:World) (h0:q.1.length≤10000000) (h1:q.2.1.length≤10000000) :
  Calls Tryz.prog 37 #[triV q] w fun e w'=>e=.returned (.bool (fitT q))∧Below w.heap.size w w':=by
 have hs:qgm [q]:=⟨by simp,fun x hx=>by rw[List.mem_singleton]at hx;subst hx;exact⟨h0,h1⟩⟩
 have P34:=qb (fun (W:World) b t (h:(W:World).heap[b]? = some (Obj.cells #[.string (qd q.1),.string (qd q.2.1),.bool q.2.2] t (0,0)))=>qwd _ [q] W (qbnc h) hs);rw[qzq]at P34;have P31:=qb (fun W=>qqd (qd (wrT q)) W);rw[qj]at P31;have hb:=@py_bad (wrT q);unfold fitT triV;clear hs h0 h1;generalize wrT q=T at *;generalize pyL T=R at *;obtain⟨er,p,cs⟩:=R;dsimp only at *;unfold qrh at P31;dsimp only at P31;have hB0:=(Below.refl _ w).alloc (Nat.le_refl _) (.cells #[.string (qd q.1),.string (qd q.2.1),.bool q.2.2] 32);have n0:=qb (World.alloc_heap_new w (.cells #[.string (qd q.1),.string (qd q.2.1),.bool q.2.2] 32));have HN:Hid (((w.alloc (.cells #[.string (qd q.1),.string (qd q.2.1),.bool q.2.2] 32)).alloc (.cells #[.string (qd q.1),.string (qd q.2.1),.bool q.2.2] 32)).heap[w.heap.size+1]? = some (.cells #[.string (qd q.1),.string (qd q.2.1),.bool q.2.2] 32 (0,0))):=qb (by
  have:=World.alloc_heap_new (w.alloc (.cells #[.string (qd q.1),.string (qd q.2.1),.bool q.2.2] 32)) (.cells #[.string (qd q.1),.string (qd q.2.1),.bool q.2.2] 32)
  rwa [World.size_alloc]at this)
 have bA:=(Below.refl _ (w.alloc (.cells #[.string (qd q.1),.string (qd q.2.1),.bool q.2.2] 32))).alloc (Nat.le_refl _) (.cells #[.string (qd q.1),.string (qd q.2.1),.bool q.2.2] 32);have HM:=qb ((bA.block _ (qbsp.1 n0.out).1).trans n0.out);have HB1:=qb (hB0.trans (bA.mono hB0.size));clear bA hB0 n0
 by_cases he:er=0
 ·subst he;clear hb
  by_cases hc:cs.length=1
  ·obtain ⟨c,rfl⟩:=List.length_eq_one_iff.1 hc;clear hc;obtain⟨Y0,Y1,Y2⟩:=q;dsimp only at *;obtain⟨X0,X1,X2,hx⟩:∃ X0 X1 X2,triC c=(X0,X1,X2):=⟨_,_,_,rfl⟩;have HX:Hid (decide ([(X0,X1,X2)]=[(Y0,Y1,Y2)])=((X0==Y0)&&((X1==Y1)&&(X2==Y2)))):=qb (by rw[Bool.eq_iff_iff];simp)
   rw[List.map_cons,List.map_nil,hx,HX.out];clear HX;have e0:=qld X0 Y0;have e1:=qld X1 Y1;generalize (X0==Y0)=E0 at *;generalize (X1==Y1)=E1 at *;go_enter Tryz.func37,Tryz.ntmps37
   (go_wp2_with fail);refine(P34.out _ _ 32 HN.out).mono ?_;rintro e w2 ⟨rfl,b2⟩;have HB2:=qb (HB1.out.trans (b2.mono HB1.out.size));have HM2:=qb ((b2.block _ (qbsp.1 HM.out).1).trans HM.out);clear b2;(go_wp2_with fail);refine(P31.out _).mono ?_;rintro e w3 ⟨b3,v3,rfl,hv3,_⟩;have HB3:=qb (HB2.out.trans (b3.mono HB2.out.size));have m3:=(b3.block _ (qbsp.1 HM2.out).1).trans HM2.out;have x0:=qc 0 m3 rfl;have x1:=qc 1 m3 rfl;have x2:=qc 2 m3 rfl;obtain⟨a3,k3,hv,hA⟩:=hv3.tri;obtain⟨g1,o1,rfl,_,p0,p1,p2⟩:=hA 0 (by simp)
   subst hv;simp only[Nat.zero_mul,Nat.add_zero,List.map_cons,List.map_nil,List.getElem_cons_zero,hx]at p0 p1 p2;clear b3 m3 hv3 hA hx;cases E0<;>cases E1<;>cases X2<;>cases Y2
   all_goals
    (go_wp2_with fail);go_quiet (fail)
    have hb':Below w.heap.size w (w3.drewN nq):=HB3.out.trans ((qx _ _ _).mono HB3.out.size);generalize w3.drewN nq=W9 at *;(go_wp2_with fail);go_ret
    exact⟨rfl,hb'⟩
  ·have hf:decide (cs.map triC=[q])=false:=by
    simp only[decide_eq_false_iff_not];intro h;apply hc;simpa using congrArg List.length h
   have hc1:((cs.length:Int)==1)=false:=by simp;omega
   have hc2:¬ (cs.length:Int)=1:=by omega
   rw[hf];go_enter Tryz.func37,Tryz.ntmps37
   (go_wp2_with fail);refine(P34.out _ _ 32 HN.out).mono ?_;rintro e w2 ⟨rfl,b2⟩;have HB2:=qb (HB1.out.trans (b2.mono HB1.out.size));have HM2:=qb ((b2.block _ (qbsp.1 HM.out).1).trans HM.out);clear b2;(go_wp2_with fail);refine(P31.out _).mono ?_;rintro e w3 ⟨b3,v3,rfl,hv3,_⟩;have HB3:=qb (HB2.out.trans (b3.mono HB2.out.size));have m3:=(b3.block _ (qbsp.1 HM2.out).1).trans HM2.out;have x0:=qc 0 m3 rfl;have x1:=qc 1 m3 rfl;have x2:=qc 2 m3 rfl;obtain⟨a3,k3,rfl,_⟩:=id hv3;clear b3 m3 hv3;(go_wp2_with fail);go_quiet (fail)
   have hb':Below w.heap.size w (w3.drewN nq):=HB3.out.trans ((qx _ _ _).mono HB3.out.size);generalize w3.drewN nq=W9 at *;(go_wp2_with fail);go_ret
   exact⟨rfl,hb'⟩
 ·obtain rfl:=hb rfl he;have he1:(er==0)=false:=by simpa using he
  have he2:(er != 0)=true:=by simpa using he
  have hf:decide (([]:List Cl).map triC=[q])=false:=by simp
  rw[hf];clear hb;go_enter Tryz.func37,Tryz.ntmps37
  (go_wp2_with fail);refine(P34.out _ _ 32 HN.out).mono ?_;rintro e w2 ⟨rfl,b2⟩;have HB2:=qb (HB1.out.trans (b2.mono HB1.out.size));have HM2:=qb ((b2.block _ (qbsp.1 HM.out).1).trans HM.out);clear b2;(go_wp2_with fail);refine(P31.out _).mono ?_;rintro e w3 ⟨b3,v3,rfl,hv3,_⟩;have HB3:=qb (HB2.out.trans (b3.mono HB2.out.size));have m3:=(b3.block _ (qbsp.1 HM2.out).1).trans HM2.out;have x0:=qc 0 m3 rfl;have x1:=qc 1 m3 rfl;have x2:=qc 2 m3 rfl;obtain⟨a3,k3,rfl,_⟩:=id hv3;clear b3 m3 hv3;(go_wp2_with fail);go_quiet (fail)
  have hb':Below w.heap.size w (w3.drewN nq):=HB3.out.trans ((qx _ _ _).mono HB3.out.size);generalize w3.drewN nq=W9 at *;(go_wp2_with fail);go_ret
  exact⟨rfl,hb'⟩
set_option maxHeartbeats 8000000
set_option maxRecDepth 100000
def qmj (q:Tri) (w:World) (e:Ending) (w':World):Prop:=
 Below w.heap.size w w'∧((fitT q=false∧e=.returned (.tuple #[.agg Z61,.bool false])) ∨
  ∃ it:It,(pyL (wrT q)).2.2=[it.1]∧triC it.1=q∧(∃ A,TxC A w' it)∧e=.returned (.tuple #[.agg (clV it.1 it.2.1 it.2.2),.bool true]))
theorem fin35 {R:Ending→World→Prop} (tmps:Array Value) (W:World) (B:Nat) (cs:Array Value) (hcs:cs.size=18) (v:Value)
  (h2:tmps.getD 2 undef=.pointer (some ⟨B,0,none⟩)) (h3:tmps.getD 3 undef=v) (e1:W.heap[B]? = some (.cells cs 61 (0,0))) (hR:R (.returned (.tuple #[.agg cs,v])) W) :
  bodyPost Tryz.prog Tryz.f35 R .ret { tmps:=tmps,defers:=[] } W:=by
 refine bodyPost_ret ?_ rfl hR;have h2':tmps[2]?.getD undef=.pointer (some ⟨B,0,none⟩):=by simpa using h2
 have h3':tmps[3]?.getD undef=v:=by simpa using h3
 have hl:=run_loadVar_row (P:=Tryz.prog) W B 61 61 cs (0,0) _ e1 Tryz.underlying61 rfl (by rw[qcs,hcs])
 simp[results,h2',h3',asAddr,hl]
theorem qblb {A:Nat→Prop} {B:Nat} {W W':World} (h:Turn B W W') (hA:∀ b,A b→b≠B):qfc A W W':=
 ⟨h.size,fun b cs t m hb hh=>(h.block b (qbsp.1 hh).1 (hA b hb)).trans hh⟩
theorem qgf {W:World} {B:Nat} {c z:Array Value} (h:W.heap[B]? = some (.cells z 61 (0,0))) (hz:z.size=c.size):(W.setCells B 0 c.toList).heap[B]? = some (.cells c 61 (0,0))∧Turn B W (W.setCells B 0 c.toList):=by
 rw[qdd];refine⟨?_,qcc _ _ _ _⟩;have k:=qcl c.toList W B 0 _ _ h;rw[qmf z c.toList (by simpa using hz)]at k
 simpa using k
theorem qmh {W W':World} {g o:Nat} {l:List Value} (h:W.rangeAt g o l) (hb:Below W.heap.size W W'):W'.rangeAt g o l:=fun j u hj=>by
 have hc:=h j u hj;have hlt:g<W.heap.size:=by
  rcases Nat.lt_or_ge g W.heap.size with h1|h1
  ·exact h1
  ·unfold World.cell? at hc;rw[Array.getElem?_eq_none h1]at hc;cases hc
 exact(hb.cell hlt).trans hc
set_option profiler true in
set_option profiler.threshold 2000 in
theorem qlp (q:Tri) (w:World) (h0:q.1.length≤10000000) (h1:q.2.1.length≤10000000):Calls Tryz.prog 35 #[triV q] w (qmj q w):=by
 have hs:qgm [q]:=⟨by simp,fun x hx=>by rw[List.mem_singleton]at hx;subst hx;exact⟨h0,h1⟩⟩
 have P32:=qb (fun (W:World) b t (h:W.heap[b]? = some (Obj.cells #[.string (qd q.1),.string (qd q.2.1),.bool q.2.2] t (0,0)))=>qsb _ [q] W (qbnc h) hs);rw[qzq]at P32;have RC:=qb (fun W=>qht (qd (wrT q)) W);rw[qj]at RC;unfold qmj fitT triV;clear hs h0 h1;generalize wrT q=T at *;generalize pyL T=R at *;obtain⟨er,p,cs⟩:=R;unfold qvr at RC;dsimp only at *;obtain⟨V2,hV2,m1,m2,bV2,sV2⟩:=ql w #[.string (qd q.1),.string (qd q.2.1),.bool q.2.2] Z61 32 61;have a0:=qc 0 m1 rfl;have a1:=qc 1 m1 rfl;have a2:=qc 2 m1 rfl;have n3:=World.alloc_heap_new V2 (.cells #[.string (qd q.1),.string (qd q.2.1),.bool q.2.2] 32);have bA:Below V2.heap.size V2 (V2.alloc (.cells #[.string (qd q.1),.string (qd q.2.1),.bool q.2.2] 32)):=(Below.refl _ V2).alloc (Nat.le_refl _) _;have HN:=qb n3;have HB3:=qb (bV2.trans (bA.mono bV2.size));have M1:=qb ((bA.block _ (qbsp.1 m1).1).trans m1);have M2:=qb ((bA.block _ (qbsp.1 m2).1).trans m2);have HS3:=qb (show w.heap.size+3=(V2.alloc (.cells #[.string (qd q.1),.string (qd q.2.1),.bool q.2.2] 32)).heap.size by simp[sV2])
 unfold Z61 at hV2;have HV2:=qb hV2;clear m1 m2 n3 bA bV2 sV2 hV2;go_enter Tryz.func35,Tryz.ntmps35
 go_upto_region 1 with fail
 rw[HV2.out];clear HV2;(go_wp2_with fail);refine(P32.out _ _ 32 HN.out).mono ?_;rintro e w3 ⟨rfl,b3⟩;have HB4:=qb (HB3.out.trans (b3.mono HB3.out.size));have M3:=qb ((b3.block _ (qbsp.1 M1.out).1).trans M1.out);have M4:=qb ((b3.block _ (qbsp.1 M2.out).1).trans M2.out);have HS4:=qb (Nat.le_trans (Nat.le_of_eq HS3.out) b3.size);clear P32 HN b3 M1 M2 HS3 HB3 a0 a1 a2;(go_wp2_with fail);refine(RC.out _).mono ?_;rintro e w4 ⟨b4,v,rfl,its,hits,hv⟩;have hal:Below w4.heap.size w4 (w4.alloc (.cells #[.int .i64 er,.int .i64 (p:Int)] 25)):=(Below.refl _ w4).alloc (Nat.le_refl _) _;have bb:=b4.trans (hal.mono b4.size);have HB5:=qb (HB4.out.trans (bb.mono HB4.out.size));have M5:=qb ((bb.block _ (qbsp.1 M3.out).1).trans M3.out);have M6:=qb ((bb.block _ (qbsp.1 M4.out).1).trans M4.out);have HV:=qb (hv.below hal);obtain⟨av,cv,rfl,_⟩:=hv.at_;clear RC b4 hv hal bb M3 M4 HB4;go_upto_region 2 with fail
 generalize w4.alloc _=W5 at *;have a0:=qc 0 M5.out rfl;have a1:=qc 1 M5.out rfl;have a2:=qc 2 M5.out rfl;subst hits
 by_cases hl:its.length=1
 ·obtain ⟨it,rfl⟩:=List.length_eq_one_iff.1 hl;clear hl;obtain⟨av',cv',he,hA⟩:=HV.out.at_;cases he;obtain⟨g,rfl,hr⟩:=hA 0 (by simp)
  obtain⟨Y0,Y1,Y2⟩:=q;obtain⟨⟨k,y,u,su,s,e0,er0⟩,x2,x3⟩:=it;obtain⟨rb,lb,_,_⟩:=HV.out.2 _ (List.mem_singleton.2 rfl);dsimp only at rb lb;obtain⟨r2,c2,rfl,_⟩:=id rb;obtain⟨q2,d2,rfl,_⟩:=id lb;have HR:=qb hr;have HONE:Hid ((clV ⟨k,y,u,su,s,e0,er0⟩ (.slice r2 y.rel.length c2) (.slice q2 y.loc.length d2)).all (·.oneCell')=true):=qb (by have:=all_oneCell_toArray (qjd (c:=⟨k,y,u,su,s,e0,er0⟩) rb lb);simpa using this)
  clear hA hr rb lb;dsimp only[triC]at *;have HD:=qb (Below.refl W5.heap.size W5).drew;have M9:=(HD.out.block _ (qbsp.1 M5.out).1).trans M5.out;refine wp_region_held_drew (S:=fun w'=>w'.rangeAt g 0 [.string (qd (sgn k)),fnV (rdF k),fnV (hoF k),.bool (opB k),.string (qd y.ep),.slice r2 y.rel.length c2,.int .u8 y.c,.string (qd y.n),.bool y.b,.string (qd y.m),.bool y.d,.string (qd y.k),.slice q2 y.loc.length d2,.string (qd u),.bool su,.int .i64 (s:Int),.int .i64 (e0:Int),.int .i64 er0]∧w'.cell? ⟨w.heap.size,0,none⟩=some (.string (qd Y0))∧w'.cell? ⟨w.heap.size,1,none⟩=some (.string (qd Y1))∧w'.cell? ⟨w.heap.size,2,none⟩=some (.bool Y2)) (by kernel_rfl) ⟨qmh HR.out HD.out,qc 0 M9 rfl,qc 1 M9 rfl,qc 2 M9 rfl⟩ (fun hHeld=>?_)
  refine wpAnyH_take (i:=0) (oi:=⟨some 13,.move (.tmp 4),50, "pyspec.go:50",#[],none⟩) (v:=.slice (some ⟨g,0,none⟩) 1 cv) rfl (by kernel_rfl) (by kernel_rfl) (by kernel_rfl) (fun _ _ _ h=>h) (Or.inl ⟨by rfl,fun w hS=>by go_simp⟩) hHeld ?_
  try simp only[Act.put,List.setIfInBounds_toArray,List.set_cons_zero,List.set_cons_succ]
  refine wpAnyH_take (i:=1) (oi:=⟨some 14,.call ⟨.builtin .len,#[.tmp 13],#[50]⟩,3, "pyspec.go:50",#[⟨0,.data⟩],none⟩) (v:=.int .i64 1) rfl (by kernel_rfl) (by kernel_rfl) (by kernel_rfl) (fun _ _ _ h=>h) (Or.inl ⟨by rfl,fun w hS=>by go_simp⟩) hHeld ?_
  try simp only[Act.put,List.setIfInBounds_toArray,List.set_cons_zero,List.set_cons_succ]
  refine wpAnyH_take (i:=2) (oi:=⟨some 15,.binOp .neq 3 (.tmp 14) (.const (.int .i64 1)) 3,4, "pyspec.go:50",#[⟨1,.data⟩],none⟩) (v:=.bool false) rfl (by kernel_rfl) (by kernel_rfl) (by kernel_rfl) (fun _ _ _ h=>h) (Or.inl ⟨by rfl,fun w hS=>by go_simp⟩) hHeld ?_
  try simp only[Act.put,List.setIfInBounds_toArray,List.set_cons_zero,List.set_cons_succ]
  refine wpAnyH_take (i:=3) (oi:=⟨some 16,.move (.tmp 15),4, "pyspec.go:50",#[⟨2,.data⟩],none⟩) (v:=.bool false) rfl (by kernel_rfl) (by kernel_rfl) (by kernel_rfl) (fun _ _ _ h=>h) (Or.inl ⟨by rfl,fun w hS=>by go_simp⟩) hHeld ?_
  try simp only[Act.put,List.setIfInBounds_toArray,List.set_cons_zero,List.set_cons_succ]
  refine wpAnyH_take (i:=4) (oi:=⟨some 17,.move (.tmp 4),50, "pyspec.go:50",#[⟨3,.guard⟩],some (3,false)⟩) (v:=.slice (some ⟨g,0,none⟩) 1 cv) rfl (by kernel_rfl) (by kernel_rfl) (by kernel_rfl) (fun _ _ _ h=>h) (Or.inl ⟨by rfl,fun w hS=>by go_simp⟩) hHeld ?_
  try simp only[Act.put,List.setIfInBounds_toArray,List.set_cons_zero,List.set_cons_succ]
  refine wpAnyH_take (i:=5) (oi:=⟨some 18,.indexAddr 50 (.tmp 17) (.const (.int .i64 0)),0, "pyspec.go:50",#[⟨4,.data⟩,⟨3,.guard⟩],some (3,false)⟩) (v:=.pointer (some ⟨g,0,none⟩)) rfl (by kernel_rfl) (by kernel_rfl) (by kernel_rfl) (fun _ _ _ h=>h) (Or.inl ⟨by rfl,fun w hS=>by go_simp⟩) hHeld ?_
  try simp only[Act.put,List.setIfInBounds_toArray,List.set_cons_zero,List.set_cons_succ]
  refine wpAnyH_take (i:=6) (oi:=⟨some 19,.load 61 (.tmp 18),61, "pyspec.go:50",#[⟨5,.data⟩,⟨3,.guard⟩],some (3,false)⟩) (v:=.agg #[.string (qd (sgn k)),fnV (rdF k),fnV (hoF k),.bool (opB k),.string (qd y.ep),.slice r2 y.rel.length c2,.int .u8 y.c,.string (qd y.n),.bool y.b,.string (qd y.m),.bool y.d,.string (qd y.k),.slice q2 y.loc.length d2,.string (qd u),.bool su,.int .i64 (s:Int),.int .i64 (e0:Int),.int .i64 er0]) rfl (by kernel_rfl) (by kernel_rfl) (by kernel_rfl) (fun _ _ _ h=>h) (yieldsIf_load_mid (by rfl) 61 (.tmp 18) rfl g 0 rfl [.string (qd (sgn k)),fnV (rdF k),fnV (hoF k),.bool (opB k),.string (qd y.ep),.slice r2 y.rel.length c2,.int .u8 y.c,.string (qd y.n),.bool y.b,.string (qd y.m),.bool y.d,.string (qd y.k),.slice q2 y.loc.length d2,.string (qd u),.bool su,.int .i64 (s:Int),.int .i64 (e0:Int),.int .i64 er0] _ (fun w h=>h.1) Tryz.underlying61 rfl qcs) hHeld ?_
  try simp only[Act.put,List.setIfInBounds_toArray,List.set_cons_zero,List.set_cons_succ]
  refine wpAnyH_take (i:=8) (oi:=⟨some 21,.load 32 (.tmp 1),32, "pyspec.go:50",#[⟨3,.guard⟩],some (3,false)⟩) (v:=.agg #[.string (qd Y0),.string (qd Y1),.bool Y2]) rfl (by kernel_rfl) (by kernel_rfl) (by kernel_rfl) (fun _ _ _ h=>h) (Or.inl ⟨by rfl,fun w hS=>by obtain⟨_,hS1,hS2,hS3⟩:=hS;go_simp⟩) hHeld ?_
  try simp only[Act.put,List.setIfInBounds_toArray,List.set_cons_zero,List.set_cons_succ]
  refine wpAnyH_ready (rs:=[7]) (by kernel_rfl) (by simp) ?_
  refine AllReadyH.cons (o:=⟨some 20,.call ⟨.value (.func 30),#[.tmp 19],#[61]⟩,32, "pyspec.go:50",#[⟨6,.data⟩,⟨3,.chain⟩,⟨3,.guard⟩],some (3,false)⟩) rfl (fun K hK=>?_) AllReadyH.nil;rw[if_pos (by rfl)]
  go_simp
  refine(qbfm y r2 q2 c2 d2 (qd (sgn k)) (qd u) (fnV (rdF k)) (fnV (hoF k)) (opB k) su (s:Int) (e0:Int) er0 _).mono ?_;rintro e w6 ⟨rfl,b6⟩;have B6:=HD.out.trans (b6.mono HD.out.size);have M8:=(B6.block _ (qbsp.1 M5.out).1).trans M5.out;(go_wp2_with fail);refine hK.out _ _ ⟨qmh HR.out B6,qc 0 M8 rfl,qc 1 M8 rfl,qc 2 M8 rfl⟩ (fun hHeld=>?_);clear hK K
  try simp only[Act.put,List.setIfInBounds_toArray,List.set_cons_zero,List.set_cons_succ]
  have eqa:=qld (sgn k) Y0;have eqb:=qld u Y1;obtain⟨D,hD⟩:∃ D,D=!decide ((sgn k,u,su)=(Y0,Y1,Y2)):=⟨_,rfl⟩;have hD2:D=!((sgn k==Y0)&&((u==Y1)&&(su==Y2))):=by rw[hD];congr 1;rw[Bool.eq_iff_iff];simp
  refine wpAnyH_take (i:=9) (oi:=⟨some 22,.binOp .neq 32 (.tmp 20) (.tmp 21) 32,4, "pyspec.go:50",#[⟨7,.data⟩,⟨8,.data⟩,⟨3,.guard⟩],some (3,false)⟩) (v:=.bool D) rfl (by kernel_rfl) (by kernel_rfl) (by kernel_rfl) (fun _ _ _ h=>h) (Or.inl ⟨by rfl,fun w hS=>by rw[hD2];generalize (sgn k==Y0)=E0 at *;generalize (u==Y1)=E1 at *;clear hD hD2 hHeld;cases E0<;>cases E1<;>cases su<;>cases Y2<;>go_simp⟩) hHeld ?_
  try simp only[Act.put,List.setIfInBounds_toArray,List.set_cons_zero,List.set_cons_succ]
  refine wpAnyH_take (i:=10) (oi:=⟨some 23,.pick (.tmp 16) (.const (.bool true)) (.tmp 22),4, "pyspec.go:50",#[⟨3,.data⟩,⟨9,.data⟩],none⟩) (v:=.bool D) rfl (by kernel_rfl) (by kernel_rfl) (by kernel_rfl) (fun _ _ _ h=>h) (Or.inl ⟨by rfl,fun w hS=>by go_simp⟩) hHeld ?_
  try simp only[Act.put,List.setIfInBounds_toArray,List.set_cons_zero,List.set_cons_succ]
  refine wpAnyH_done (by kernel_rfl) ?_ _
  have HB6:=qb (HB5.out.trans (B6.mono HB5.out.size));have M7:=qb ((B6.block _ (qbsp.1 M6.out).1).trans M6.out);have HV6:=qb (HV.out.below B6);have HR6:=qb (qmh HR.out B6)
  by_cases hq:(sgn k,u,su)=(Y0,Y1,Y2)
  ·have hDf:D=false:=by rw[hD,hq];simp
   rw[hDf];clear hD hD2 hDf eqa eqb hHeld;go_upto_region 4 with fail
   refine wp_region_lit ?_;go_step
   go_step
   go_step
   go_step
   go_step
   go_step
   refine wpList_load_mid rfl 61 (.tmp 26) rfl g 0 rfl _ _ HR6.out Tryz.underlying61 rfl qcs ?_;refine wpList_store_mid rfl 61 (.tmp 2) (.tmp 27) rfl (w.heap.size+1) 0 #[.string (qd (sgn k)),fnV (rdF k),fnV (hoF k),.bool (opB k),.string (qd y.ep),.slice r2 y.rel.length c2,.int .u8 y.c,.string (qd y.n),.bool y.b,.string (qd y.m),.bool y.d,.string (qd y.k),.slice q2 y.loc.length d2,.string (qd u),.bool su,.int .i64 (s:Int),.int .i64 (e0:Int),.int .i64 er0] rfl rfl (qcf M7.out (Nat.le_refl 18)) qcs HONE.out ?_;obtain⟨hbk,hT⟩:=qgf (c:=#[.string (qd (sgn k)),fnV (rdF k),fnV (hoF k),.bool (opB k),.string (qd y.ep),.slice r2 y.rel.length c2,.int .u8 y.c,.string (qd y.n),.bool y.b,.string (qd y.m),.bool y.d,.string (qd y.k),.slice q2 y.loc.length d2,.string (qd u),.bool su,.int .i64 (s:Int),.int .i64 (e0:Int),.int .i64 er0]) M7.out rfl;have HB7:=qb (HB6.out.trans (hT.below (by omega) HB6.out.size))
   have hTx:=(HV6.out.keep (qblb hT (fun b hb=>by have:=HS4.out;omega))).2 _ (List.mem_singleton.2 rfl)
   generalize w6.setCells _ _ _=WE at *;(go_wp2_with fail);refine fin35 _ _ (w.heap.size+1) #[.string (qd (sgn k)),fnV (rdF k),fnV (hoF k),.bool (opB k),.string (qd y.ep),.slice r2 y.rel.length c2,.int .u8 y.c,.string (qd y.n),.bool y.b,.string (qd y.m),.bool y.d,.string (qd y.k),.slice q2 y.loc.length d2,.string (qd u),.bool su,.int .i64 (s:Int),.int .i64 (e0:Int),.int .i64 er0] rfl _ rfl rfl hbk ?_;exact⟨HB7.out,.inr ⟨(⟨k,y,u,su,s,e0,er0⟩,.slice r2 y.rel.length c2,.slice q2 y.loc.length d2),rfl,hq,⟨_,hTx⟩,rfl⟩⟩
  ·have hf:decide ([(sgn k,u,su)]=[(Y0,Y1,Y2)])=false:=by simpa using hq
   have hDt:D=true:=by rw[hD,decide_eq_false hq];rfl
   rw[hDt];clear hD hD2 hDt eqa eqb hHeld;go_upto_region 3 with fail
   refine wp_region_lit ?_;go_step
   go_step
   go_step
   refine wpList_store_mid rfl 61 (.tmp 2) (.tmp 24) rfl (w.heap.size+1) 0 Z61 rfl rfl (qcf M7.out (by decide)) qcs (by kernel_rfl) ?_
   obtain⟨hbk,hT⟩:=qgf (c:=Z61) M7.out rfl;have HB7:=qb (HB6.out.trans (hT.below (by omega) HB6.out.size))
   generalize w6.setCells _ _ _=WE at *;(go_wp2_with fail);refine fin35 _ _ (w.heap.size+1) Z61 rfl _ rfl rfl hbk ?_;exact⟨HB7.out,.inl ⟨hf,rfl⟩⟩
 ·have hc1:((its.length:Int)==1)=false:=by simp;omega
  have hc2:¬ (its.length:Int)=1:=by omega
  have hc3:((its.length:Int) != 1)=true:=by simp;omega
  have hf:decide ((its.map Prod.fst).map triC=[q])=false:=by
   simp only[decide_eq_false_iff_not];intro h;apply hl;simpa using congrArg List.length h
  go_quiet (fail)
  have hb':Below W5.heap.size W5 (W5.drewN nq):=qx _ _ _;have M7:=qb ((hb'.block _ (qbsp.1 M6.out).1).trans M6.out);have HB6:=qb (HB5.out.trans (hb'.mono HB5.out.size));generalize W5.drewN nq=W9 at *;go_upto_region 3 with fail
  refine wp_region_lit ?_;go_step
  go_step
  go_step
  refine wpList_store_mid rfl 61 (.tmp 2) (.tmp 24) rfl (w.heap.size+1) 0 Z61 rfl rfl (qcf M7.out (by decide)) qcs (by kernel_rfl) ?_
  obtain⟨hbk,hT⟩:=qgf (c:=Z61) M7.out rfl;have HB7:=qb (HB6.out.trans (hT.below (by omega) HB6.out.size))
  generalize W9.setCells _ _ _=WE at *;(go_wp2_with fail);refine fin35 _ _ (w.heap.size+1) Z61 rfl _ rfl rfl hbk ?_;exact⟨HB7.out,.inl ⟨hf,rfl⟩⟩
end Go.Proofs.YtabmfdedbpmfmaaGreat
