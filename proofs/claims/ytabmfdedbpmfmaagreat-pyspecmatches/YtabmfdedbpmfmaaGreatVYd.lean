/- Walks: the document's Compare. -/
import Derived.Test.YtabmfdedbpmfmaaGreatVYc
import Derived.Test.YtabmfdedbpmfmaaGreatVYb
namespace Go.Proofs.YtabmfdedbpmfmaaGreat
open Go.RowKit Go.Shelf
open Calls renaming quiet_of_same → qbts
open World renaming alloc_heap_new → qbtk
set_option linter.unusedVariables false
set_option maxHeartbeats 4000000
set_option maxRecDepth 100000
theorem qnc {w1 w2:World} {A F:Array Value} (b2:Below ((w1.alloc (.cells A 44)).alloc (.cells F 25)).heap.size ((w1.alloc (.cells A 44)).alloc (.cells F 25)) w2) (A2 F2:Array Value) :
 ((w2.alloc (.cells A2 44)).alloc (.cells F2 25)).heap[w1.heap.size]? = some (.cells A 44 (0,0))∧((w2.alloc (.cells A2 44)).alloc (.cells F2 25)).heap[w1.heap.size+1]? = some (.cells F 25 (0,0)) ∧
 ((w2.alloc (.cells A2 44)).alloc (.cells F2 25)).heap[w2.heap.size]? = some (.cells A2 44 (0,0))∧((w2.alloc (.cells A2 44)).alloc (.cells F2 25)).heap[w2.heap.size+1]? = some (.cells F2 25 (0,0)) ∧
 Below w1.heap.size w1 ((w2.alloc (.cells A2 44)).alloc (.cells F2 25))∧Below w2.heap.size w2 ((w2.alloc (.cells A2 44)).alloc (.cells F2 25)):=by
  have hs:=b2.size;simp only[World.size_alloc]at hs;have bb:=((Below.refl w1.heap.size w1).alloc (Nat.le_refl _) (.cells A 44)).alloc (by simp) (.cells F 25)
  have k0:=qbtk w1 (.cells A 44);have k1:=qbtk (w1.alloc (.cells A 44)) (.cells F 25);simp only[World.size_alloc]at k1;have k2:=qbtk w2 (.cells A2 44);have k3:=qbtk (w2.alloc (.cells A2 44)) (.cells F2 25);simp only[World.size_alloc]at k3;have g0:w2.heap[w1.heap.size]? = _:=(b2.block _ (by simp;omega)).trans ((Below.heap_alloc _ _ _ (by simp)).trans k0)
  have g1:w2.heap[w1.heap.size+1]? = _:=(b2.block _ (by simp)).trans k1
  have c2:=((Below.refl w2.heap.size w2).alloc (Nat.le_refl _) (.cells A2 44)).alloc (by simp) (.cells F2 25)
  refine⟨(c2.block _ (Array.getElem?_eq_some_iff.1 g0).1).trans g0,(c2.block _ (Array.getElem?_eq_some_iff.1 g1).1).trans g1,(Below.heap_alloc _ _ _ (by simp)).trans k2,k3,(bb.trans (b2.mono (by simp;omega))).trans (c2.mono (by omega)),c2⟩
theorem qbdp (s t:QY) (w:World) (h1:okP s.data.toList=false) (h2:okP t.data.toList=false) :
  Calls Tryz.prog 51 #[.string s,.string t] w fun e w'=>e=.returned (.int .i64 0)∧Below w.heap.size w w':=by
 have P1:=fun w=>qct s w h1;have n1:=qcx _ h1;have P2:=fun w=>qct t w h2;have n2:=qcx _ h2;generalize (errX s.data.toList).1=E1 at *;generalize ((errX s.data.toList).2:Int)=E2 at *;have m1:(E1 != 0)=true:=by rw[bne,n1];rfl
 generalize (errX t.data.toList).1=G1 at *;generalize ((errX t.data.toList).2:Int)=G2 at *;have m2:(G1 != 0)=true:=by rw[bne,n2];rfl
 unfold pepZ at *;have P1:=qb P1;have P2:=qb P2;have RK:=qb (fun b w=>qgm b w);have IT:=qb (fun a b w=>qhj a b w);clear h1 h2;go_enter Tryz.func51,Tryz.ntmps51
 (go_wp2_with fail);refine(P1.out _).mono ?_;rintro e w1 ⟨rfl,b1⟩;(go_wp2_with fail);refine(P2.out _).mono ?_;rintro e w2 ⟨rfl,b2⟩;obtain⟨g1,g2,g3,g4,bw,bx⟩:=qnc b2 #[.string ⟨#[]⟩,.slice none 0 0,.int .u8 0,.string ⟨#[]⟩,.bool false,.string ⟨#[]⟩,.bool false,.string ⟨#[]⟩,.slice none 0 0] #[.int .i64 G1,.int .i64 G2];have u0:=qc 0 g2 rfl;have v0:=qc 0 g4 rfl;have BB:=qb (b1.trans (bw.mono b1.size));clear b1 b2 g1 g2 g3 g4 bw bx;(go_wp2_with fail);generalize (w2.alloc (.cells #[.string ⟨#[]⟩,.slice none 0 0,.int .u8 0,.string ⟨#[]⟩,.bool false,.string ⟨#[]⟩,.bool false,.string ⟨#[]⟩,.slice none 0 0] 44)).alloc (.cells #[.int .i64 G1,.int .i64 G2] 25)=W at *;go_quiet (first|(go_at_call 74;exact qbts (RK.out _ _))|(go_at_call 72;exact qbts (IT.out _ _ _))|fail)
 have B9:=qb (BB.out.trans (qz _ W nq));generalize W.drewN nq=W9 at *;(go_wp2_with fail);go_ret
 exact⟨rfl,B9.out⟩
theorem qbgh (s t:QY) (w:World) (h1:okP s.data.toList=false) (h2:okP t.data.toList=true) :
  Calls Tryz.prog 51 #[.string s,.string t] w fun e w'=>e=.returned (.int .i64 (-1))∧Below w.heap.size w w':=by
 have P1:=fun w=>qct s w h1;have n1:=qcx _ h1;have P2:=fun w=>qcc t w h2;have S2:SmallP (ql (qk t.data.toList)):=qhg _ (by rw[qdw];exact(qkn h2).2)
 have M2:=qzt _ (qnf (qkf _ (by rw[qdw];exact(qkn h2).2)))
 have F2:=qrh (qnx h2);generalize (errX s.data.toList).1=E1 at *;generalize ((errX s.data.toList).2:Int)=E2 at *;have m1:(E1 != 0)=true:=by rw[bne,n1];rfl
 clear S2 M2 F2;generalize ql (qk t.data.toList)=Y at *;unfold pepZ at *;have P1:=qb P1;have P2:=qb P2;have RK:=qb (fun b w=>qgm b w);have IT:=qb (fun a b w=>qhj a b w);clear h1 h2;go_enter Tryz.func51,Tryz.ntmps51
 (go_wp2_with fail);refine(P1.out _).mono ?_;rintro e w1 ⟨rfl,b1⟩;(go_wp2_with fail);refine(P2.out _).mono ?_;rintro e w2 ⟨vr,vl,rfl,t3,t4,b2⟩;obtain⟨r2,c2,rfl,_⟩:=id t3;obtain⟨q2,d2,rfl,_⟩:=id t4
 try unfold pepV
 obtain⟨g1,g2,g3,g4,bw,bx⟩:=qnc b2 #[.string (qd Y.ep),.slice r2 Y.rel.length c2,.int .u8 Y.c,.string (qd Y.n),.bool Y.b,.string (qd Y.m),.bool Y.d,.string (qd Y.k),.slice q2 Y.loc.length d2] #[.int .i64 0,.int .i64 0];have u0:=qc 0 g2 rfl;have v0:=qc 0 g4 rfl;have BB:=qb (b1.trans (bw.mono b1.size));clear b1 b2 g1 g2 g3 g4 bw bx;(go_wp2_with fail);generalize (w2.alloc (.cells #[.string (qd Y.ep),.slice r2 Y.rel.length c2,.int .u8 Y.c,.string (qd Y.n),.bool Y.b,.string (qd Y.m),.bool Y.d,.string (qd Y.k),.slice q2 Y.loc.length d2] 44)).alloc (.cells #[.int .i64 0,.int .i64 0] 25)=W at *;go_quiet (first|(go_at_call 74;exact qbts (RK.out _ _))|(go_at_call 72;exact qbts (IT.out _ _ _))|fail)
 have B9:=qb (BB.out.trans (qz _ W nq));generalize W.drewN nq=W9 at *;(go_wp2_with fail);go_ret
 exact⟨rfl,B9.out⟩
theorem qbhd (s t:QY) (w:World) (h1:okP s.data.toList=true) (h2:okP t.data.toList=false) :
  Calls Tryz.prog 51 #[.string s,.string t] w fun e w'=>e=.returned (.int .i64 1)∧Below w.heap.size w w':=by
 have P1:=fun w=>qcc s w h1;have S1:SmallP (ql (qk s.data.toList)):=qhg _ (by rw[qdw];exact(qkn h1).2)
 have M1:=qzt _ (qnf (qkf _ (by rw[qdw];exact(qkn h1).2)))
 have F1:=qrh (qnx h1);have P2:=fun w=>qct t w h2;have n2:=qcx _ h2;clear S1 M1 F1;generalize ql (qk s.data.toList)=X at *;generalize (errX t.data.toList).1=G1 at *;generalize ((errX t.data.toList).2:Int)=G2 at *;have m2:(G1 != 0)=true:=by rw[bne,n2];rfl
 unfold pepZ at *;have P1:=qb P1;have P2:=qb P2;have RK:=qb (fun b w=>qgm b w);have IT:=qb (fun a b w=>qhj a b w);clear h1 h2;go_enter Tryz.func51,Tryz.ntmps51
 (go_wp2_with fail);refine(P1.out _).mono ?_;rintro e w1 ⟨vr,vl,rfl,t1,t2,b1⟩;obtain⟨r1,c1,rfl,_⟩:=id t1;obtain⟨q1,d1,rfl,_⟩:=id t2
 try unfold pepV
 (go_wp2_with fail);refine(P2.out _).mono ?_;rintro e w2 ⟨rfl,b2⟩;obtain⟨g1,g2,g3,g4,bw,bx⟩:=qnc b2 #[.string ⟨#[]⟩,.slice none 0 0,.int .u8 0,.string ⟨#[]⟩,.bool false,.string ⟨#[]⟩,.bool false,.string ⟨#[]⟩,.slice none 0 0] #[.int .i64 G1,.int .i64 G2];have u0:=qc 0 g2 rfl;have v0:=qc 0 g4 rfl;have BB:=qb (b1.trans (bw.mono b1.size));clear b1 b2 g1 g2 g3 g4 bw bx;(go_wp2_with fail);generalize (w2.alloc (.cells #[.string ⟨#[]⟩,.slice none 0 0,.int .u8 0,.string ⟨#[]⟩,.bool false,.string ⟨#[]⟩,.bool false,.string ⟨#[]⟩,.slice none 0 0] 44)).alloc (.cells #[.int .i64 G1,.int .i64 G2] 25)=W at *;go_quiet (first|(go_at_call 74;exact qbts (RK.out _ _))|(go_at_call 72;exact qbts (IT.out _ _ _))|fail)
 have B9:=qb (BB.out.trans (qz _ W nq));generalize W.drewN nq=W9 at *;(go_wp2_with fail);go_ret
 exact⟨rfl,B9.out⟩
theorem qbhz (s t:QY) (w:World) (h1:okP s.data.toList=true) (h2:okP t.data.toList=true) :
  Calls Tryz.prog 51 #[.string s,.string t] w fun e w'=>e=.returned (.int .i64 (ordR (ql (qk s.data.toList)) (ql (qk t.data.toList))))∧Below w.heap.size w w':=by
 have P1:=fun w=>qcc s w h1;have S1:SmallP (ql (qk s.data.toList)):=qhg _ (by rw[qdw];exact(qkn h1).2)
 have M1:=qzt _ (qnf (qkf _ (by rw[qdw];exact(qkn h1).2)))
 have F1:=qrh (qnx h1);have P2:=fun w=>qcc t w h2;have S2:SmallP (ql (qk t.data.toList)):=qhg _ (by rw[qdw];exact(qkn h2).2)
 have M2:=qzt _ (qnf (qkf _ (by rw[qdw];exact(qkn h2).2)))
 have F2:=qrh (qnx h2);have OR:=fun r1 r2 q1 q2 c1 c2 d1 d2 w ra rb la lb=>qwk (ql (qk s.data.toList)) (ql (qk t.data.toList)) r1 r2 q1 q2 c1 c2 d1 d2 w ra rb la lb M1 M2 F1 F2;generalize ordR (ql (qk s.data.toList)) (ql (qk t.data.toList))=O at *;clear S1 M1 F1;generalize ql (qk s.data.toList)=X at *;clear S2 M2 F2;generalize ql (qk t.data.toList)=Y at *;have P1:=qb P1;have P2:=qb P2;have OR:=qb OR;clear h1 h2;go_enter Tryz.func51,Tryz.ntmps51
 (go_wp2_with fail);refine(P1.out _).mono ?_;rintro e w1 ⟨vr,vl,rfl,t1,t2,b1⟩;obtain⟨r1,c1,rfl,_⟩:=id t1;obtain⟨q1,d1,rfl,_⟩:=id t2
 try unfold pepV
 (go_wp2_with fail);refine(P2.out _).mono ?_;rintro e w2 ⟨vr,vl,rfl,t3,t4,b2⟩;obtain⟨r2,c2,rfl,_⟩:=id t3;obtain⟨q2,d2,rfl,_⟩:=id t4
 try unfold pepV
 obtain⟨g1,g2,g3,g4,bw,bx⟩:=qnc b2 #[.string (qd Y.ep),.slice r2 Y.rel.length c2,.int .u8 Y.c,.string (qd Y.n),.bool Y.b,.string (qd Y.m),.bool Y.d,.string (qd Y.k),.slice q2 Y.loc.length d2] #[.int .i64 0,.int .i64 0];have u0:=qc 0 g2 rfl;have v0:=qc 0 g4 rfl;obtain⟨x0,x1,x2,x3,x4,x5,x6,x7,x8⟩:=qdh g1;obtain⟨y0,y1,y2,y3,y4,y5,y6,y7,y8⟩:=qdh g3;have T1:=qb (t1.below bw);have T2:=qb (t2.below bw);have T3:=qb (t3.below bx);have T4:=qb (t4.below bx);have BB:=qb (b1.trans (bw.mono b1.size));clear b1 b2 g1 g2 g3 g4 bw bx;(go_wp2_with fail);generalize (w2.alloc (.cells #[.string (qd Y.ep),.slice r2 Y.rel.length c2,.int .u8 Y.c,.string (qd Y.n),.bool Y.b,.string (qd Y.m),.bool Y.d,.string (qd Y.k),.slice q2 Y.loc.length d2] 44)).alloc (.cells #[.int .i64 0,.int .i64 0] 25)=W at *;refine(OR.out r1 r2 q1 q2 c1 c2 d1 d2 _ T1.out T3.out T2.out T4.out).mono ?_;rintro e w3 ⟨rfl,b3⟩;(go_wp2_with fail);go_ret
 exact⟨rfl,BB.out.trans (b3.mono BB.out.size)⟩
theorem qbdd (s t:QY) (w:World) :
  Calls Tryz.prog 51 #[.string s,.string t] w fun e w'=>e=.returned (.int .i64 (cmpT s.data.toList t.data.toList))∧Below w.heap.size w w':=by
 unfold cmpT;cases h1:okP s.data.toList
 ·cases h2:okP t.data.toList
  ·exact qbdp s t w h1 h2
  ·exact qbgh s t w h1 h2
 ·cases h2:okP t.data.toList
  ·exact qbhd s t w h1 h2
  ·have:=qbhz s t w h1 h2;rw[qbgb _ _ (qnx h1) (qnx h2)]at this;exact this
end Go.Proofs.YtabmfdedbpmfmaaGreat
