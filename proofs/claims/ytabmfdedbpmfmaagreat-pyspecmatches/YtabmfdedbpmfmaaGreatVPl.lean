/- Walks: orders of stages. -/
import Derived.Test.YtabmfdedbpmfmaaGreatVPi
import Derived.StillTailTactics
import Derived.Deep.QuietTactic
import Derived.BigQuiet
namespace Go.Proofs.YtabmfdedbpmfmaaGreat
open Go.RowKit Go.Shelf
open _root_.Array renaming getElem?_eq_some_iff → qbth
open Below renaming heap_alloc → qbvb, heap_setCell → qbtz
open World renaming alloc_heap_new → qbtk
set_option linter.unusedVariables false
set_option maxHeartbeats 4000000
set_option maxRecDepth 100000
def qk (l:QB):QB:=l.map lowC
structure PepF (n₀:Nat) (W:World) (v:Value) (u:QB):Prop where
 ex:∃ vr vl,v=pepV (qd (epoT u (vp1 u))) vr (preC u (vp3 u)) (qd (stN u (vp3 u) qbp)) (posB u (vp4 u)) (qd (posN u (vp4 u))) (qbl u (vp5 u) qbk).isSome (qd (stN u (vp5 u) qbk)) vl ∧
  W.ownsRow n₀ 9 1 vr (vals u (vrel u)).length (vals u (vrel u))∧W.ownsRow n₀ 9 1 vl (vals u (qfb u)).length (vals u (qfb u))
def qfz (l:QB) (w:World) (r:Ending) (w':World):Prop:=
 Below w.heap.size w w' ∧
  if 64<l.length then r=.returned (.tuple #[.agg pepZ,.agg #[.int .i64 12,.int .i64 64]])
  else if (verX (qk l)).1=0 then ∃ v,r=.returned (.tuple #[v,.agg #[.int .i64 0,.int .i64 0]])∧PepF w.heap.size w' v (qk l)
  else r=.returned (.tuple #[.agg pepZ,.agg #[.int .i64 (verX (qk l)).1,.int .i64 ((verX (qk l)).2:Int)]])
theorem fin7 {R:Ending→World→Prop} (tmps:Array Value) (W:World) (B C:Nat) (x y:Int) (e:QY) (vr:Value) (c:Int) (n:QY) (b:Bool) (m:QY) (d:Bool) (k:QY) (vl:Value) (op:∃ a i c,vr=.slice a i c) (ob:∃ a i c,vl=.slice a i c)
  (h2:tmps.getD 2 undef=.pointer (some ⟨B,0,none⟩)) (h3:tmps.getD 3 undef=.pointer (some ⟨C,0,none⟩)) (e1:W.heap[B]? = some (.cells #[.string e,vr,.int .u8 c,.string n,.bool b,.string m,.bool d,.string k,vl] 44 (0,0))) (e2:W.heap[C]? = some (.cells #[.int .i64 x,.int .i64 y] 25 (0,0)))
  (hR:R (.returned (.tuple #[pepV e vr c n b m d k vl,.agg #[.int .i64 x,.int .i64 y]])) W) :
  bodyPost Tryz.prog Tryz.f67 R .ret { tmps:=tmps,defers:=[] } W:=by
 obtain⟨a1,i1,c1,rfl⟩:=op;obtain⟨a2,i2,c2,rfl⟩:=ob;obtain⟨r0,r1,r2,r3,r4,r5,r6,r7,r8⟩:=qdh e1;have s0:=qc 0 e2 rfl;have s1:=qc 1 e2 rfl;rw[Array.getD_eq_getD_getElem?]at h2 h3;refine⟨rfl,_,?_,hR⟩;simp[results,Tryz.results67,go_sem,h2,h3,r0,r1,r2,r3,r4,r5,r6,r7,r8,s0,s1]
 try rfl
theorem qdw (l:QB):(qk l).length=l.length:=by simp[qk]
theorem qrc (s:QY) (w:World) (hs:s.size≤maxLen):Calls Tryz.prog 67 #[.string s] w (qfz s.data.toList w):=by
 obtain⟨W0,hW0⟩:∃ W0,W0=(w.alloc (.cells #[.string ⟨#[]⟩,.slice none 0 0,.int .u8 0,.string ⟨#[]⟩,.bool false,.string ⟨#[]⟩,.bool false,.string ⟨#[]⟩,.slice none 0 0] 44)).alloc (.cells #[.int .i64 0,.int .i64 0] 25):=⟨_,rfl⟩;have k0:=qbtk w (.cells #[.string ⟨#[]⟩,.slice none 0 0,.int .u8 0,.string ⟨#[]⟩,.bool false,.string ⟨#[]⟩,.bool false,.string ⟨#[]⟩,.slice none 0 0] 44);have k1:=qbtk (w.alloc (.cells #[.string ⟨#[]⟩,.slice none 0 0,.int .u8 0,.string ⟨#[]⟩,.bool false,.string ⟨#[]⟩,.bool false,.string ⟨#[]⟩,.slice none 0 0] 44)) (.cells #[.int .i64 0,.int .i64 0] 25);simp only[World.size_alloc]at k1;have E0:Hid (W0.heap[w.heap.size]? = some (.cells #[.string ⟨#[]⟩,.slice none 0 0,.int .u8 0,.string ⟨#[]⟩,.bool false,.string ⟨#[]⟩,.bool false,.string ⟨#[]⟩,.slice none 0 0] 44 (0,0))):=by rw[hW0];exact(qbvb _ _ _ (by simp)).trans k0
 have E1:Hid (W0.heap[w.heap.size+1]? = some (.cells #[.int .i64 0,.int .i64 0] 25 (0,0))):=by rw[hW0];exact k1
 have B0:Hid (Below w.heap.size w W0):=by rw[hW0];exact((Below.refl w.heap.size w).alloc (Nat.le_refl _) _).alloc (by simp) _
 clear k0 k1;have HL:=qb (qg s)
 by_cases hl:64<s.size
 ·have hd:decide ((64:Int)<(s.size:Int))=true:=by simp;omega
  have hd3:(64:Int)<(s.size:Int):=by omega
  go_enter Tryz.func67,Tryz.ntmps67
  (go_wp2_with fail);have j0:=qbtk w (.cells #[.string ⟨#[]⟩,.slice none 0 0,.int .u8 0,.string ⟨#[]⟩,.bool false,.string ⟨#[]⟩,.bool false,.string ⟨#[]⟩,.slice none 0 0] 44);have j1:=qbtk (w.alloc (.cells #[.string ⟨#[]⟩,.slice none 0 0,.int .u8 0,.string ⟨#[]⟩,.bool false,.string ⟨#[]⟩,.bool false,.string ⟨#[]⟩,.slice none 0 0] 44)) (.cells #[.int .i64 12,.int .i64 64] 25);simp only[World.size_alloc]at j1;refine fin7 _ _ w.heap.size (w.heap.size+1) 12 64 ⟨#[]⟩ (.slice none 0 0) 0 ⟨#[]⟩ false ⟨#[]⟩ false ⟨#[]⟩ (.slice none 0 0) ⟨_,_,_,rfl⟩ ⟨_,_,_,rfl⟩ rfl rfl ((qbvb _ _ _ (by simp)).trans j0) j1 ?_
  refine⟨((Below.refl w.heap.size w).alloc (Nat.le_refl _) _).alloc (by simp) _,?_⟩
  rw[if_pos (by rw[HL.out];exact hl)]
  rfl
 ·have hd:decide ((64:Int)<(s.size:Int))=false:=by simp;omega
  have hd3:¬ (64:Int)<(s.size:Int):=by omega
  have C1:=qb (fun W=>qmw s W hs);obtain⟨u,hu⟩:∃ u,u=qd (s.data.toList.map lowC):=⟨_,rfl⟩;rw[←hu]at C1;have HU:Hid (u.data.toList=qk s.data.toList):=by show _=_;rw[hu,qj];rfl
  have hus:u.size≤64:=by have:=qg u;rw[HU.out,qdw,HL.out]at this;omega
  have NL64:Hid (¬ 64<s.data.toList.length):=by show ¬ _;rw[HL.out];exact hl
  clear hu;go_enter Tryz.func67,Tryz.ntmps67
  (go_wp2_with fail);rw[←hW0];refine(C1.out W0).mono ?_;rintro r W1 ⟨rfl,b1⟩;have F0:=qb ((b1.block _ (qbth.1 E0.out).1).trans E0.out);have F1:=qb ((b1.block _ (qbth.1 E1.out).1).trans E1.out);have B1:=qb (B0.out.trans (b1.mono B0.out.size));clear b1 E0 E1 B0 hW0;(go_wp2_with fail);have hn0:w.heap.size+1+1≤W1.heap.size:=(qbth.1 F1.out).1;have RD:RdAt (W1.alloc (.cells #[.string u,.int .i64 0] 122)) W1.heap.size u 0:=qbtk W1 _;refine(qbfc W1.heap.size u _ RD hus).mono ?_;rintro r W2 ⟨e,vr,c,n,b,m,d,k,vl,rfl,hrd,ht,⟨a1,i1,c1,rfl⟩,⟨a2,i2,c2,rfl⟩,hok⟩;have hz2:W1.heap.size<W2.heap.size:=by have:=ht.size;simp at this;omega
  have G0:=qb ((ht.block w.heap.size (by simp;omega) (by omega)).trans ((qbvb _ _ _ (by omega)).trans F0.out))
  have G1:=qb ((ht.block (w.heap.size+1) (by simp;omega) (by omega)).trans ((qbvb _ _ _ (by omega)).trans F1.out))
  have B2:Hid (Below w.heap.size w W2):=B1.out.trans (((Below.refl w.heap.size W1).alloc (by omega) _).trans (ht.below (by omega) (by simp;omega)))
  have OK:=qb hok;have hsz:W1.heap.size+1=(W1.alloc (.cells #[.string u,.int .i64 0] 122)).heap.size:=by simp
  rw [←hsz]at OK;rw[HU.out]at OK hrd;rw[HU.out];have PP:Hid (∀ r w',Below w.heap.size w w'→(((verX (qk s.data.toList)).1=0→∃ v,r=.returned (.tuple #[v,.agg #[.int .i64 0,.int .i64 0]])∧PepF w.heap.size w' v (qk s.data.toList))∧(¬ (verX (qk s.data.toList)).1=0→r=.returned (.tuple #[.agg pepZ,.agg #[.int .i64 (verX (qk s.data.toList)).1,.int .i64 ((verX (qk s.data.toList)).2:Int)]])))→qfz s.data.toList w r w'):=by
   intro r w' hb h;refine⟨hb,?_⟩;rw[if_neg NL64.out]
   by_cases hx:(verX (qk s.data.toList)).1=0
   ·rw[if_pos hx];exact h.1 hx
   ·rw[if_neg hx];exact h.2 hx
  clear RD ht hok F0 F1 B1 hsz;generalize (verX (qk s.data.toList)).1=X at *;generalize (verX (qk s.data.toList)).2=Y at *;unfold pepV;have v0:∀ o:Obj,(W2.alloc o).heap[w.heap.size]? = some (.cells #[.string ⟨#[]⟩,.slice none 0 0,.int .u8 0,.string ⟨#[]⟩,.bool false,.string ⟨#[]⟩,.bool false,.string ⟨#[]⟩,.slice none 0 0] 44 (0,0)):=fun o=>(qbvb _ _ _ (by omega)).trans G0.out
  have v1:∀ o:Obj,(W2.alloc o).heap[w.heap.size+1]? = some (.cells #[.int .i64 0,.int .i64 0] 25 (0,0)):=fun o=>(qbvb _ _ _ (by omega)).trans G1.out
  have v2:∀ o:Obj,RdAt (W2.alloc o) W1.heap.size u Y:=fun o=>(qbvb _ _ _ (by omega)).trans hrd
  have v3:∀ o:Obj,Below w.heap.size w (W2.alloc o):=fun o=>B2.out.trans ((Below.refl _ _).alloc (by omega) o)
  have V0:=qb v0;have V1:=qb v1;have V2:=qb v2;have V3:=qb v3;have V4:Hid (∀ cs:Array Value,(W2.alloc (.cells cs 44)).heap[W2.heap.size]? = some (.cells cs 44 (0,0))):=fun cs=>qbtk W2 _;clear v0 v1 v2 v3
  by_cases hx:X=0
  ·have hxb:(X==0)=true:=by simp[hx]
   have HX:=qb hx;clear hx;have y0:=fun (o:Obj) (i:Nat)=>qf i (V0.out o);have y1:=fun (o:Obj) (i:Nat)=>qf i (V1.out o);have x0:=fun (o:Obj)=>qdh (V0.out o);have x1:=fun (o:Obj)=>qc 0 (V1.out o) rfl;have x2:=fun (o:Obj)=>qc 1 (V1.out o) rfl;(go_wp2_with fail);obtain⟨⟨he,hc,hn,hb,hm,hd',hk⟩,o1,o2⟩:=OK.out HX.out;obtain⟨W99,hW99,g99,t99⟩:=qdk (W:=W2.alloc (.cells #[.string e,.slice a1 i1 c1,.int .u8 c,.string n,.bool b,.string m,.bool d,.string k,.slice a2 i2 c2] 44)) (.string e) (.slice a1 i1 c1) (.int .u8 c) (.string n) (.bool b) (.string m) (.bool d) (.string k) (.slice a2 i2 c2) (V0.out _);rw[←hW99];have q1:=(t99.block (w.heap.size+1) (by simp;omega) (by omega)).trans (V1.out _)
   have r1:=qbc (o1.alloc (.cells #[.string e,.slice a1 i1 c1,.int .u8 c,.string n,.bool b,.string m,.bool d,.string k,.slice a2 i2 c2] 44)) t99 (by omega)
   have r2:=qbc (o2.alloc (.cells #[.string e,.slice a1 i1 c1,.int .u8 c,.string n,.bool b,.string m,.bool d,.string k,.slice a2 i2 c2] 44)) t99 (by omega)
   have b3:Below w.heap.size w W99:=(V3.out _).trans (t99.below (Nat.le_refl _) (by simp;omega))
   refine fin7 _ _ w.heap.size (w.heap.size+1) 0 0 e (.slice a1 i1 c1) c n b m d k (.slice a2 i2 c2) ⟨_,_,_,rfl⟩ ⟨_,_,_,rfl⟩ rfl rfl ((qbtz _ _ _ _ (by simp only;omega)).trans ((qbtz _ _ _ _ (by simp only;omega)).trans g99)) (qw 1 _ (qw 0 _ q1)) ?_
   refine PP.out _ _ ((b3.setCell (p:=⟨w.heap.size+1,0,none⟩) (by simp only;omega) _).setCell (p:=⟨w.heap.size+1,1,none⟩) (by simp only;omega) _) ⟨fun _=>⟨_,rfl,⟨.slice a1 i1 c1,.slice a2 i2 c2,?_,?_,?_⟩⟩,fun h=>absurd HX.out h⟩
   ·rw[he,hc,hn,hb,hm,hd',hk]
   ·exact qfg (ownsRow_setCell_below (ownsRow_setCell_below r1 (a:=⟨w.heap.size+1,0,none⟩) (by simp only;omega) _) (a:=⟨w.heap.size+1,1,none⟩) (by simp only;omega) _) (by omega)
   ·exact qfg (ownsRow_setCell_below (ownsRow_setCell_below r2 (a:=⟨w.heap.size+1,0,none⟩) (by simp only;omega) _) (a:=⟨w.heap.size+1,1,none⟩) (by simp only;omega) _) (by omega)
  ·have hxb:(X==0)=false:=by simp[hx]
   have HX:=qb hx;clear hx;(go_wp2_with fail);have T0:=V0.out (.cells #[.string e,.slice a1 i1 c1,.int .u8 c,.string n,.bool b,.string m,.bool d,.string k,.slice a2 i2 c2] 44);have T1:=V1.out (.cells #[.string e,.slice a1 i1 c1,.int .u8 c,.string n,.bool b,.string m,.bool d,.string k,.slice a2 i2 c2] 44);have T2:=V2.out (.cells #[.string e,.slice a1 i1 c1,.int .u8 c,.string n,.bool b,.string m,.bool d,.string k,.slice a2 i2 c2] 44);have T3:=V3.out (.cells #[.string e,.slice a1 i1 c1,.int .u8 c,.string n,.bool b,.string m,.bool d,.string k,.slice a2 i2 c2] 44);clear V0 V1 V2 V3 V4;have hw2:W2.heap.size<(W2.alloc (.cells #[.string e,.slice a1 i1 c1,.int .u8 c,.string n,.bool b,.string m,.bool d,.string k,.slice a2 i2 c2] 44)).heap.size:=by simp
   generalize W2.alloc (.cells #[.string e,.slice a1 i1 c1,.int .u8 c,.string n,.bool b,.string m,.bool d,.string k,.slice a2 i2 c2] 44)=W3 at *;have TT0:=qb T0;have TT1:=qb T1;have TT2:=qb T2;have TT3:=qb T3;obtain⟨x0,x1,x2,x3,x4,x5,x6,x7,x8⟩:=qdh T0;have y0:=fun o=>qf o T0;have y1:=fun o=>qf o T1;have x9:=qc 0 T1 rfl;have x10:=qc 1 T1 rfl;obtain⟨c0,c1,f1⟩:=T2.seen;have n1:W1.heap.size≠w.heap.size:=by omega
   have n2:w.heap.size≠W1.heap.size:=by omega
   have n3:W1.heap.size≠w.heap.size+1:=by omega
   have n4:w.heap.size+1≠W1.heap.size:=by omega
   clear T0 T1 T2 T3 hrd;go_region_held3 (fun w'=>w'.cell? ⟨W1.heap.size,1,none⟩=some (.int .i64 (Y:Int))) (go_keep) (fail)
   (go_wp2_with fail);obtain⟨W99,hW99,g99,t99⟩:=qdk (W:=W3) (.string ⟨#[]⟩) (.slice none 0 0) (.int .u8 0) (.string ⟨#[]⟩) (.bool false) (.string ⟨#[]⟩) (.bool false) (.string ⟨#[]⟩) (.slice none 0 0) TT0.out;rw[←hW99];have hz3:=(qbth.1 TT1.out).1;have q1:=(t99.block (w.heap.size+1) hz3 (by omega)).trans TT1.out
   have b3:Below w.heap.size w W99:=TT3.out.trans (t99.below (Nat.le_refl _) (by omega))
   refine fin7 _ _ w.heap.size (w.heap.size+1) X (Y:Int) ⟨#[]⟩ (.slice none 0 0) 0 ⟨#[]⟩ false ⟨#[]⟩ false ⟨#[]⟩ (.slice none 0 0) ⟨_,_,_,rfl⟩ ⟨_,_,_,rfl⟩ rfl rfl ((qbtz _ _ _ _ (by simp only;omega)).trans ((qbtz _ _ _ _ (by simp only;omega)).trans g99)) (qw 1 _ (qw 0 _ q1)) ?_
   exact PP.out _ _ ((b3.setCell (p:=⟨w.heap.size+1,0,none⟩) (by simp only;omega) _).setCell (p:=⟨w.heap.size+1,1,none⟩) (by simp only;omega) _).drew ⟨fun h=>absurd h HX.out,fun _=>rfl⟩
set_option maxHeartbeats 1000000
def orI:List Int→Int
 | []=>0
 | x::r=>if x=0 then orI r else x
def locO (a b:QB):Int:=if digB a then (if digB b then cmpD a b else 1) else if digB b then -1 else Lib.compareBytes a b
def padO (O:QB→QB→Int) (d:QB) (xs ys:List QB) (k:Nat):Int:=
 orI ((List.range' k (max xs.length ys.length-k)).map fun i=>O (xs.getD i d) (ys.getD i d))
theorem qpp (O:QB→QB→Int) (d:QB) (xs ys:List QB) (k:Nat) (h:max xs.length ys.length≤k):padO O d xs ys k=0:=by
 unfold padO;rw[show max xs.length ys.length-k=0 by omega]
 rfl
theorem qjp (O:QB→QB→Int) (d:QB) (xs ys:List QB) (k:Nat) (h:k<max xs.length ys.length):padO O d xs ys k=if O (xs.getD k d) (ys.getD k d)=0 then padO O d xs ys (k+1) else O (xs.getD k d) (ys.getD k d):=by
 unfold padO;rw[show max xs.length ys.length-k=(max xs.length ys.length-(k+1))+1 by omega,List.range'_succ]
 rfl
theorem qww (a b:QY) (w:World) (ha:a.size≤9223372036854775806) (hb:b.size≤9223372036854775806) :
  Calls Tryz.prog 111 #[.string a,.string b] w fun e w'=>e=.returned (.int .i64 (locO a.data.toList b.data.toList))∧w'=w:=by
 have hO:locO a.data.toList b.data.toList=if digB a.data.toList then (if digB b.data.toList then cmpD a.data.toList b.data.toList else 1) else if digB b.data.toList then -1 else Lib.compareBytes a.data.toList b.data.toList:=rfl;have D1:=qb (fun w=>qgw a w (by unfold maxLen;omega))
 have D2:=qb (fun w=>qgw b w (by unfold maxLen;omega))
 generalize locO a.data.toList b.data.toList=O at *;generalize digB a.data.toList=x at *;generalize digB b.data.toList=y at *;have HO:=qb hO;clear hO;cases x<;>cases y
 ·go_enter Tryz.func111,Tryz.ntmps111
  (go_wp2_with fail);refine(D1.out _).mono ?_;rintro e w' ⟨rfl,rfl⟩;(go_wp2_with fail);refine(D2.out _).mono ?_;rintro e w' ⟨rfl,rfl⟩;(go_wp2_with fail);refine(qmb _ _ _).mono ?_;rintro e w' ⟨rfl,rfl⟩;(go_wp2_with fail);go_ret
  exact⟨qbv (by rw[HO.out];rfl),rfl⟩
 ·go_enter Tryz.func111,Tryz.ntmps111
  (go_wp2_with fail);refine(D1.out _).mono ?_;rintro e w' ⟨rfl,rfl⟩;(go_wp2_with fail);refine(D2.out _).mono ?_;rintro e w' ⟨rfl,rfl⟩;(go_wp2_with fail);go_ret
  exact⟨qbv (by rw[HO.out];rfl),rfl⟩
 ·go_enter Tryz.func111,Tryz.ntmps111
  (go_wp2_with fail);refine(D1.out _).mono ?_;rintro e w' ⟨rfl,rfl⟩;(go_wp2_with fail);refine(D2.out _).mono ?_;rintro e w' ⟨rfl,rfl⟩;(go_wp2_with fail);go_ret
  exact⟨qbv (by rw[HO.out];rfl),rfl⟩
 ·go_enter Tryz.func111,Tryz.ntmps111
  (go_wp2_with fail);refine(D1.out _).mono ?_;rintro e w' ⟨rfl,rfl⟩;(go_wp2_with fail);refine(D2.out _).mono ?_;rintro e w' ⟨rfl,rfl⟩;(go_wp2_with fail);refine(qsz _ _ _ ha hb).mono ?_;rintro e w' ⟨rfl,rfl⟩;(go_wp2_with fail);go_ret
  exact⟨qbv (by rw[HO.out];rfl),rfl⟩
theorem qlq (v:Value) (xs:List QB) (i:Nat) (d:QY) (w:World) (h:qx w v xs) (hl:xs.length≤9223372036854775806) :
  Calls Tryz.prog 130 #[v,.int .i64 (i:Int),.string d] w fun e w'=>e=.returned (.string (qd (xs.getD i d.data.toList)))∧w'=w:=by
 obtain⟨a1,c1,rfl,_⟩:=id h
 by_cases hi:i<xs.length
 ·obtain⟨b1,o1,rfl,hc1⟩:=h.some (by omega)
  have p1:=hc1 i hi;have hd:decide ((i:Int)<(xs.length:Int))=true:=by simp;omega
  have HG:Hid (xs.getD i d.data.toList=xs[i]):=by show _=_;rw[List.getD_eq_getElem?_getD,List.getElem?_eq_getElem hi];rfl
  rw[HG.out];clear hc1 h HG;generalize xs[i]=x at *;go_enter Tryz.func130,Tryz.ntmps130
  (go_wp2_with fail);go_ret
  exact⟨rfl,rfl⟩
 ·have hd:decide ((i:Int)<(xs.length:Int))=false:=by simp;omega
  have hd3:¬ ((i:Int)<(xs.length:Int)):=by omega
  have HG:Hid (xs.getD i d.data.toList=d.data.toList):=by show _=_;rw[List.getD_eq_getElem?_getD,List.getElem?_eq_none (by omega)];rfl
  rw[HG.out];have HD:Hid (qd d.data.toList=d):=qdb d;rw[HD.out];clear HG HD h;go_enter Tryz.func130,Tryz.ntmps130
  (go_wp2_with fail);go_ret
  exact⟨rfl,rfl⟩
theorem qlm {ts:List QB} (h:qsh ts) (i:Nat) (d:QB) (hd:d.length≤9223372036854775806):(ts.getD i d).length≤9223372036854775806:=by
 rw[List.getD_eq_getElem?_getD]
 by_cases hi:i<ts.length
 ·rw[List.getElem?_eq_getElem hi];exact h.2 _ (List.getElem_mem _)
 ·rw[List.getElem?_eq_none (by omega)];exact hd
theorem qvc (va vb:Value) (xs ys:List QB) (d:QY) (w:World) (ha:qx w va xs) (hb:qx w vb ys) (sx:qsh xs) (sy:qsh ys) (hd:d.size≤9223372036854775806) :
  Calls Tryz.prog 107 #[va,vb,.string d,.func (.func 106) #[] #[]] w fun e w'=>e=.returned (.int .i64 (padO cmpD d.data.toList xs ys 0))∧w'=w:=by
 obtain ⟨a1,c1,rfl,_⟩:=id ha;obtain⟨a2,c2,rfl,_⟩:=id hb;have PA:=qb (fun i:Nat=>qlq _ xs i d w ha sx.1);have PB:=qb (fun i:Nat=>qlq _ ys i d w hb sy.1);have CC:Hid (∀ i:Nat,Calls Tryz.prog 106 #[.string (qd (xs.getD i d.data.toList)),.string (qd (ys.getD i d.data.toList))] w fun e w'=>e=.returned (.int .i64 (cmpD (xs.getD i d.data.toList) (ys.getD i d.data.toList)))∧w'=w):=by
  intro i;have:=qsz (qd (xs.getD i d.data.toList)) (qd (ys.getD i d.data.toList)) w (by rw[qr];exact qlm sx i _ (by rw[qg];exact hd)) (by rw[qr];exact qlm sy i _ (by rw[qg];exact hd))
  rwa [qj,qj]at this
 have lx:=sx.1;have ly:=sy.1;have HS:=qb (fun k h=>qjp cmpD d.data.toList xs ys k h);have HE:=qb (fun k h=>qpp cmpD d.data.toList xs ys k h)
 by_cases hle:xs.length<ys.length
 ·have hM:max xs.length ys.length=ys.length:=by omega
  have g1:(xs.length:Int)<(ys.length:Int):=by omega
  have g2:¬ (ys.length:Int)≤(xs.length:Int):=by omega
  have g3:¬ (ys.length:Int)<(xs.length:Int):=by omega
  rw[hM]at HS HE;clear ha hb sx sy hM;go_enter Tryz.func107,Tryz.ntmps107
  (go_wp2_with fail);go_loop [16] (fun i=>∃ k:Nat,k≤ys.length∧i=.int .i64 k∧Hid (padO cmpD d.data.toList xs ys 0=padO cmpD d.data.toList xs ys k)) (fun i=>ys.length-(intOf i).toNat)
  case atStart=>exact⟨0,by omega,rfl,rfl⟩
  case round=>
   obtain⟨k,hk,rfl,HR⟩:=hrel
   by_cases h1:k<ys.length
   ·have hd1:decide ((k:Int)<(ys.length:Int))=true:=by simp;omega
    have pa:=qb (PA.out k);have pb:=qb (PB.out k);have cc:=qb (CC.out k);have hX:=HS.out k h1;generalize cmpD (xs.getD k d.data.toList) (ys.getD k d.data.toList)=O at *;generalize qd (xs.getD k d.data.toList)=x at *;generalize qd (ys.getD k d.data.toList)=y at *
    by_cases h0:O=0
    ·subst h0;rw[if_pos rfl]at hX;have HX:=qb hX;clear hX;(go_wp2_with fail);refine pa.out.mono ?_;rintro e w' ⟨rfl,hw'⟩;rw[hw'];clear hw' w';(go_wp2_with fail);refine pb.out.mono ?_;rintro e w' ⟨rfl,hw'⟩;rw[hw'];clear hw' w';(go_wp2_with fail);refine cc.out.mono ?_;rintro e w' ⟨rfl,hw'⟩;rw[hw'];clear hw' w';(go_wp2_with fail);go_round
     case rel=>exact⟨k+1,by omega,by go_num,by show _=_;rw[HR.out,HX.out]⟩
     case measure=>simp[intOf];omega
    ·rw[if_neg h0]at hX;have hb0:(O != 0)=true:=by simpa using h0
     have HX:=qb hX;clear hX h0;(go_wp2_with fail);refine pa.out.mono ?_;rintro e w' ⟨rfl,hw'⟩;rw[hw'];clear hw' w';(go_wp2_with fail);refine pb.out.mono ?_;rintro e w' ⟨rfl,hw'⟩;rw[hw'];clear hw' w';(go_wp2_with fail);refine cc.out.mono ?_;rintro e w' ⟨rfl,hw'⟩;rw[hw'];clear hw' w';(go_wp2_with fail);go_ret
     exact⟨qbv (by rw[HR.out,HX.out]),rfl⟩
   ·have hd1:decide ((k:Int)<(ys.length:Int))=false:=by simp;omega
    have hd3:¬ ((k:Int)<(ys.length:Int)):=by omega
    have HX:=qb (HE.out k (by omega))
    (go_wp2_with fail);go_ret
    exact⟨qbv (by rw[HR.out,HX.out]),rfl⟩
 ·have hM:max xs.length ys.length=xs.length:=by omega
  have g1:¬ (xs.length:Int)<(ys.length:Int):=by omega
  have g2:(ys.length:Int)≤(xs.length:Int):=by omega
  rw[hM]at HS HE;clear ha hb sx sy hM;go_enter Tryz.func107,Tryz.ntmps107
  (go_wp2_with fail);go_loop [16] (fun i=>∃ k:Nat,k≤xs.length∧i=.int .i64 k∧Hid (padO cmpD d.data.toList xs ys 0=padO cmpD d.data.toList xs ys k)) (fun i=>xs.length-(intOf i).toNat)
  case atStart=>exact⟨0,by omega,rfl,rfl⟩
  case round=>
   obtain⟨k,hk,rfl,HR⟩:=hrel
   by_cases h1:k<xs.length
   ·have hd1:decide ((k:Int)<(xs.length:Int))=true:=by simp;omega
    have pa:=qb (PA.out k);have pb:=qb (PB.out k);have cc:=qb (CC.out k);have hX:=HS.out k h1;generalize cmpD (xs.getD k d.data.toList) (ys.getD k d.data.toList)=O at *;generalize qd (xs.getD k d.data.toList)=x at *;generalize qd (ys.getD k d.data.toList)=y at *
    by_cases h0:O=0
    ·subst h0;rw[if_pos rfl]at hX;have HX:=qb hX;clear hX;(go_wp2_with fail);refine pa.out.mono ?_;rintro e w' ⟨rfl,hw'⟩;rw[hw'];clear hw' w';(go_wp2_with fail);refine pb.out.mono ?_;rintro e w' ⟨rfl,hw'⟩;rw[hw'];clear hw' w';(go_wp2_with fail);refine cc.out.mono ?_;rintro e w' ⟨rfl,hw'⟩;rw[hw'];clear hw' w';(go_wp2_with fail);go_round
     case rel=>exact⟨k+1,by omega,by go_num,by show _=_;rw[HR.out,HX.out]⟩
     case measure=>simp[intOf];omega
    ·rw[if_neg h0]at hX;have hb0:(O != 0)=true:=by simpa using h0
     have HX:=qb hX;clear hX h0;(go_wp2_with fail);refine pa.out.mono ?_;rintro e w' ⟨rfl,hw'⟩;rw[hw'];clear hw' w';(go_wp2_with fail);refine pb.out.mono ?_;rintro e w' ⟨rfl,hw'⟩;rw[hw'];clear hw' w';(go_wp2_with fail);refine cc.out.mono ?_;rintro e w' ⟨rfl,hw'⟩;rw[hw'];clear hw' w';(go_wp2_with fail);go_ret
     exact⟨qbv (by rw[HR.out,HX.out]),rfl⟩
   ·have hd1:decide ((k:Int)<(xs.length:Int))=false:=by simp;omega
    have hd3:¬ ((k:Int)<(xs.length:Int)):=by omega
    have HX:=qb (HE.out k (by omega))
    (go_wp2_with fail);go_ret
    exact⟨qbv (by rw[HR.out,HX.out]),rfl⟩
theorem qtx (va vb:Value) (xs ys:List QB) (d:QY) (w:World) (ha:qx w va xs) (hb:qx w vb ys) (sx:qsh xs) (sy:qsh ys) (hd:d.size≤9223372036854775806) :
  Calls Tryz.prog 107 #[va,vb,.string d,.func (.func 111) #[] #[]] w fun e w'=>e=.returned (.int .i64 (padO locO d.data.toList xs ys 0))∧w'=w:=by
 obtain ⟨a1,c1,rfl,_⟩:=id ha;obtain⟨a2,c2,rfl,_⟩:=id hb;have PA:=qb (fun i:Nat=>qlq _ xs i d w ha sx.1);have PB:=qb (fun i:Nat=>qlq _ ys i d w hb sy.1);have CC:Hid (∀ i:Nat,Calls Tryz.prog 111 #[.string (qd (xs.getD i d.data.toList)),.string (qd (ys.getD i d.data.toList))] w fun e w'=>e=.returned (.int .i64 (locO (xs.getD i d.data.toList) (ys.getD i d.data.toList)))∧w'=w):=by
  intro i;have:=qww (qd (xs.getD i d.data.toList)) (qd (ys.getD i d.data.toList)) w (by rw[qr];exact qlm sx i _ (by rw[qg];exact hd)) (by rw[qr];exact qlm sy i _ (by rw[qg];exact hd))
  rwa [qj,qj]at this
 have lx:=sx.1;have ly:=sy.1;have HS:=qb (fun k h=>qjp locO d.data.toList xs ys k h);have HE:=qb (fun k h=>qpp locO d.data.toList xs ys k h)
 by_cases hle:xs.length<ys.length
 ·have hM:max xs.length ys.length=ys.length:=by omega
  have g1:(xs.length:Int)<(ys.length:Int):=by omega
  have g2:¬ (ys.length:Int)≤(xs.length:Int):=by omega
  have g3:¬ (ys.length:Int)<(xs.length:Int):=by omega
  rw[hM]at HS HE;clear ha hb sx sy hM;go_enter Tryz.func107,Tryz.ntmps107
  (go_wp2_with fail);go_loop [16] (fun i=>∃ k:Nat,k≤ys.length∧i=.int .i64 k∧Hid (padO locO d.data.toList xs ys 0=padO locO d.data.toList xs ys k)) (fun i=>ys.length-(intOf i).toNat)
  case atStart=>exact⟨0,by omega,rfl,rfl⟩
  case round=>
   obtain⟨k,hk,rfl,HR⟩:=hrel
   by_cases h1:k<ys.length
   ·have hd1:decide ((k:Int)<(ys.length:Int))=true:=by simp;omega
    have pa:=qb (PA.out k);have pb:=qb (PB.out k);have cc:=qb (CC.out k);have hX:=HS.out k h1;generalize locO (xs.getD k d.data.toList) (ys.getD k d.data.toList)=O at *;generalize qd (xs.getD k d.data.toList)=x at *;generalize qd (ys.getD k d.data.toList)=y at *
    by_cases h0:O=0
    ·subst h0;rw[if_pos rfl]at hX;have HX:=qb hX;clear hX;(go_wp2_with fail);refine pa.out.mono ?_;rintro e w' ⟨rfl,hw'⟩;rw[hw'];clear hw' w';(go_wp2_with fail);refine pb.out.mono ?_;rintro e w' ⟨rfl,hw'⟩;rw[hw'];clear hw' w';(go_wp2_with fail);refine cc.out.mono ?_;rintro e w' ⟨rfl,hw'⟩;rw[hw'];clear hw' w';(go_wp2_with fail);go_round
     case rel=>exact⟨k+1,by omega,by go_num,by show _=_;rw[HR.out,HX.out]⟩
     case measure=>simp[intOf];omega
    ·rw[if_neg h0]at hX;have hb0:(O != 0)=true:=by simpa using h0
     have HX:=qb hX;clear hX h0;(go_wp2_with fail);refine pa.out.mono ?_;rintro e w' ⟨rfl,hw'⟩;rw[hw'];clear hw' w';(go_wp2_with fail);refine pb.out.mono ?_;rintro e w' ⟨rfl,hw'⟩;rw[hw'];clear hw' w';(go_wp2_with fail);refine cc.out.mono ?_;rintro e w' ⟨rfl,hw'⟩;rw[hw'];clear hw' w';(go_wp2_with fail);go_ret
     exact⟨qbv (by rw[HR.out,HX.out]),rfl⟩
   ·have hd1:decide ((k:Int)<(ys.length:Int))=false:=by simp;omega
    have hd3:¬ ((k:Int)<(ys.length:Int)):=by omega
    have HX:=qb (HE.out k (by omega))
    (go_wp2_with fail);go_ret
    exact⟨qbv (by rw[HR.out,HX.out]),rfl⟩
 ·have hM:max xs.length ys.length=xs.length:=by omega
  have g1:¬ (xs.length:Int)<(ys.length:Int):=by omega
  have g2:(ys.length:Int)≤(xs.length:Int):=by omega
  rw[hM]at HS HE;clear ha hb sx sy hM;go_enter Tryz.func107,Tryz.ntmps107
  (go_wp2_with fail);go_loop [16] (fun i=>∃ k:Nat,k≤xs.length∧i=.int .i64 k∧Hid (padO locO d.data.toList xs ys 0=padO locO d.data.toList xs ys k)) (fun i=>xs.length-(intOf i).toNat)
  case atStart=>exact⟨0,by omega,rfl,rfl⟩
  case round=>
   obtain⟨k,hk,rfl,HR⟩:=hrel
   by_cases h1:k<xs.length
   ·have hd1:decide ((k:Int)<(xs.length:Int))=true:=by simp;omega
    have pa:=qb (PA.out k);have pb:=qb (PB.out k);have cc:=qb (CC.out k);have hX:=HS.out k h1;generalize locO (xs.getD k d.data.toList) (ys.getD k d.data.toList)=O at *;generalize qd (xs.getD k d.data.toList)=x at *;generalize qd (ys.getD k d.data.toList)=y at *
    by_cases h0:O=0
    ·subst h0;rw[if_pos rfl]at hX;have HX:=qb hX;clear hX;(go_wp2_with fail);refine pa.out.mono ?_;rintro e w' ⟨rfl,hw'⟩;rw[hw'];clear hw' w';(go_wp2_with fail);refine pb.out.mono ?_;rintro e w' ⟨rfl,hw'⟩;rw[hw'];clear hw' w';(go_wp2_with fail);refine cc.out.mono ?_;rintro e w' ⟨rfl,hw'⟩;rw[hw'];clear hw' w';(go_wp2_with fail);go_round
     case rel=>exact⟨k+1,by omega,by go_num,by show _=_;rw[HR.out,HX.out]⟩
     case measure=>simp[intOf];omega
    ·rw[if_neg h0]at hX;have hb0:(O != 0)=true:=by simpa using h0
     have HX:=qb hX;clear hX h0;(go_wp2_with fail);refine pa.out.mono ?_;rintro e w' ⟨rfl,hw'⟩;rw[hw'];clear hw' w';(go_wp2_with fail);refine pb.out.mono ?_;rintro e w' ⟨rfl,hw'⟩;rw[hw'];clear hw' w';(go_wp2_with fail);refine cc.out.mono ?_;rintro e w' ⟨rfl,hw'⟩;rw[hw'];clear hw' w';(go_wp2_with fail);go_ret
     exact⟨qbv (by rw[HR.out,HX.out]),rfl⟩
   ·have hd1:decide ((k:Int)<(xs.length:Int))=false:=by simp;omega
    have hd3:¬ ((k:Int)<(xs.length:Int)):=by omega
    have HX:=qb (HE.out k (by omega))
    (go_wp2_with fail);go_ret
    exact⟨qbv (by rw[HR.out,HX.out]),rfl⟩
set_option maxHeartbeats 1000000
set_option maxRecDepth 100000
theorem qbhr (xs:List Int) (k:Nat) (h:k<xs.length):orI (xs.drop k)=if xs[k]=0 then orI (xs.drop (k+1)) else xs[k]:=by
 rw[List.drop_eq_getElem_cons h]
 rfl
theorem qbmz (xs:List Int) (k:Nat) (h:xs.length≤k):orI (xs.drop k)=0:=by
 rw[List.drop_eq_nil_of_le h]
 rfl
theorem Or_any (B:Nat) (xs:List Int) (n:Nat) (hn:xs.length=n) (w:World) (h:∀ i (h:i<xs.length),w.cell? ⟨B,i,none⟩=some (.int .i64 xs[i])) (hl:n≤64) :
  Calls Tryz.prog 105 #[.slice (some ⟨B,0,none⟩) n n] w fun e w'=>e=.returned (.int .i64 (orI xs))∧w'=w:=by
 have HC:=qb h;have HN:=qb hn;clear h hn;go_enter Tryz.func105,Tryz.ntmps105
 (go_wp2_with fail);go_loop [8] (fun i=>∃ k:Nat,k≤n∧i=.int .i64 k∧Hid (orI xs=orI (xs.drop k))) (fun i=>n-(intOf i).toNat)
 case atStart=>exact⟨0,by omega,rfl,rfl⟩
 case round=>
  obtain⟨k,hk,rfl,HR⟩:=hrel
  by_cases h1:k<n
  ·have hd1:decide ((k:Int)<(n:Int))=true:=by simp;omega
   have hk':k<xs.length:=by rw[HN.out];exact h1
   have p1:=HC.out k hk';have hX:=qbhr xs k hk';generalize xs[k]=O at *
   by_cases h0:O=0
   ·subst h0;rw[if_pos rfl]at hX;have HX:=qb hX;clear hX hk';(go_wp2_with fail);go_round
    case rel=>exact⟨k+1,by omega,by go_num,by show _=_;rw[HR.out,HX.out]⟩
    case measure=>simp[intOf];omega
   ·rw[if_neg h0]at hX;have hb0:(O != 0)=true:=by simpa using h0
    have HX:=qb hX;clear hX h0 hk';(go_wp2_with fail);go_ret
    exact⟨qbv (by rw[HR.out,HX.out]),rfl⟩
  ·have hd1:decide ((k:Int)<(n:Int))=false:=by simp;omega
   have hd3:¬ ((k:Int)<(n:Int)):=by omega
   have HX:=qb (qbmz xs k (by rw[HN.out];omega))
   (go_wp2_with fail);go_ret
   exact⟨qbv (by rw[HR.out,HX.out]),rfl⟩
def cmpI (a b:Int):Int:=if a<b then -1 else if b<a then 1 else 0
theorem qjn (a:Int) (w:World):Calls Tryz.prog 148 #[.int .u8 a] w fun e w'=>e=.returned (.bool false)∧w'=w:=by
 go_enter Tryz.func148,Tryz.ntmps148
 (go_wp2_with fail);go_ret
 exact⟨by simp,rfl⟩
theorem cmpB_any (a b:Int) (w:World):Calls Tryz.prog 132 #[.int .u8 a,.int .u8 b] w fun e w'=>e=.returned (.int .i64 (cmpI a b))∧w'=w:=by
 by_cases h1:a<b
 ·have HO:Hid (cmpI a b=-1):=by show _=_;unfold cmpI;rw[if_pos h1]
  have hd:decide (a<b)=true:=by simp;omega
  go_enter Tryz.func132,Tryz.ntmps132
  (go_wp2_with fail);refine(qjn _ _).mono ?_;rintro e w' ⟨rfl,rfl⟩;(go_wp2_with fail);refine(qjn _ _).mono ?_;rintro e w' ⟨rfl,rfl⟩;(go_wp2_with fail);go_ret
  exact⟨qbv HO.out.symm,rfl⟩
 ·by_cases h2:b<a
  ·have HO:Hid (cmpI a b=1):=by show _=_;unfold cmpI;rw[if_neg h1,if_pos h2]
   have hd:decide (a<b)=false:=by simp;omega
   have hd2:decide (b<a)=true:=by simp;omega
   go_enter Tryz.func132,Tryz.ntmps132
   (go_wp2_with fail);refine(qjn _ _).mono ?_;rintro e w' ⟨rfl,rfl⟩;(go_wp2_with fail);refine(qjn _ _).mono ?_;rintro e w' ⟨rfl,rfl⟩;(go_wp2_with fail);go_ret
   exact⟨qbv HO.out.symm,rfl⟩
  ·have HO:Hid (cmpI a b=0):=by show _=_;unfold cmpI;rw[if_neg h1,if_neg h2]
   have hd:decide (a<b)=false:=by simp;omega
   have hd2:decide (b<a)=false:=by simp;omega
   go_enter Tryz.func132,Tryz.ntmps132
   (go_wp2_with fail);refine(qjn _ _).mono ?_;rintro e w' ⟨rfl,rfl⟩;(go_wp2_with fail);refine(qjn _ _).mono ?_;rintro e w' ⟨rfl,rfl⟩;(go_wp2_with fail);go_ret
   exact⟨qbv HO.out.symm,rfl⟩
def stgO (x y:Int×QB):Int:=orI [cmpI x.1 y.1,cmpD x.2 y.2]
theorem qjz (a b:Int) (m n:QY) (w:World) (hm:m.size≤9223372036854775806) (hn:n.size≤9223372036854775806) :
  Calls Tryz.prog 110 #[.agg #[.int .u8 a,.string m],.agg #[.int .u8 b,.string n]] w fun e w'=>e=.returned (.int .i64 (stgO (a,m.data.toList) (b,n.data.toList)))∧Below w.heap.size w w':=by
 have C1:=qb (fun w=>cmpB_any a b w);have C2:=qb (fun w=>qsz m n w hm hn);have HO:Hid (stgO (a,m.data.toList) (b,n.data.toList)=orI [cmpI a b,cmpD m.data.toList n.data.toList]):=rfl;generalize stgO (a,m.data.toList) (b,n.data.toList)=O at *;generalize cmpI a b=o1 at *;generalize cmpD m.data.toList n.data.toList=o2 at *;go_enter Tryz.func110,Tryz.ntmps110
 (go_wp2_with fail);refine wp_region_still_tail 10 (by kernel_rfl) (by kernel_rfl) ?_
 change wpStill _ _ (World.drew _) _ _ _
 simp only[List.take_succ_cons,List.take_zero,List.drop_succ_cons,List.drop_zero]
 still_step
 still_step
 still_step
 still_step
 still_call (C1.out _)
 still_step
 still_step
 still_step
 still_step
 still_call (C2.out _)
 refine wpStill_nil ?_;(go_wp2_with fail);refine(Or_any _ [o1,o2] 2 rfl _ (by
  intro i hi
  match i,hi with
  | 0,_=>go_simp
  | 1,_=>go_simp) (by omega)).mono ?_
 rintro e w' ⟨rfl,rfl⟩;(go_wp2_with fail);go_ret
 exact⟨qbv HO.out.symm,((((Below.refl _ w).alloc (Nat.le_refl _) _).alloc (by simp) _).alloc (by simp;omega) _).drew⟩
end Go.Proofs.YtabmfdedbpmfmaaGreat
