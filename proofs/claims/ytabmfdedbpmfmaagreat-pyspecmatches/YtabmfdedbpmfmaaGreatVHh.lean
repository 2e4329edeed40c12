/- Plain: what the loop over clauses makes of them is the docum -/
import Derived.Test.YtabmfdedbpmfmaaGreatVHf
import Derived.Test.YtabmfdedbpmfmaaGreatVGp
import Derived.Test.YtabmfdedbpmfmaaGreatVGpy
namespace Go.Proofs.YtabmfdedbpmfmaaGreat
open Go.RowKit Go.Shelf
set_option linter.unusedVariables false
def qfh (N:Nat):List Cl→List Cl→Int×Nat×List Cl
 | [],acc=>(0,0,acc)
 | x::xs,acc=>if acc.length=32∧x.s<N then (12,x.s,[]) else if x.er≠0 then (x.er,x.e,[]) else qfh N xs (acc++[x])
theorem clP_s (l:QB) (a:Nat):(clP l a).s=a:=by
 unfold clP;split
 ·rfl
 ·split<;>rfl
theorem qzh (l:QB):∀ (n m a:Nat) (acc:List Cl),n+acc.length=33→acc.length≤32→a≤l.length→l.length<a+m→pyGo l n a acc=qfh l.length (rowC l m a) acc
 | 0,m,a,acc,h1,h2,h3,h4=>by omega
 | n+1,0,a,acc,h1,h2,h3,h4=>by omega
 | n + 1,m+1,a,acc,h1,h2,h3,h4=>by
  have hz:=qgj l a h3;unfold pyGo rowC;rw[if_pos h3];have hs:=clP_s l (skL l a);have hok:=fun h=>qblm (l:=l) hz.2 h;generalize hx:clP l (skL l a)=x at *;show _=if acc.length=32∧x.s<l.length then (12,x.s,[]) else if x.er≠0 then (x.er,x.e,[]) else qfh l.length (if x.er=0 then rowC l m (x.e+1) else []) (acc++[x]);rw[hs]
  by_cases hA:acc.length=32∧skL l a<l.length
  ·rw[if_pos hA,if_pos hA]
  ·rw [if_neg hA,if_neg hA]
   by_cases hB:x.er≠0
   ·rw[if_pos hB,if_pos hB]
   ·have hB0:x.er=0:=Classical.not_not.1 hB;have hk:=hok hB0;rw[if_neg hB,if_neg hB,if_pos hB0]
    by_cases hC:x.e<l.length
    ·rw [if_pos hC];refine qzh l n m (x.e+1) (acc++[x]) ?_ ?_ (by omega) (by omega)
     ·simp;omega
     ·have:acc.length≠32:=fun h=>hA ⟨h,by omega⟩
      simp;omega
    ·rw[if_neg hC,qbgc (by omega)]
     rfl
theorem pyL_row (l:QB) (h1:l.length≤256) (h2:qn 6 l≠l.length):pyL l=qfh l.length (rowC l 257 0) []:=by
 unfold pyL;rw[if_neg (by omega),if_neg h2]
 exact qzh l 33 257 0 [] rfl (by simp) (by omega) (by omega)
theorem qwj (s:QY) (a:Nat) (w:World) (hs:s.size≤256) (ha:a≤s.size):Calls Tryz.prog 88 #[.string s,.int .i64 (a:Int)] w (qqx (clP s.data.toList a) w):=by
 by_cases h:(opGo (s.data.toList.drop a) 8).1=8
 ·exact qxc s a w hs ha h
 ·have:=qhm (s.data.toList.drop a) 8 (by omega)
  exact qtw s a w hs ha _ rfl (by omega)
end Go.Proofs.YtabmfdedbpmfmaaGreat
