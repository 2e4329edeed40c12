/- Walks: Holds. -/
import Derived.Deep.Cut
import Derived.Deep.RegionWith
import Derived.Test.YtabmfdedbpmfmaaGreatVIe
import Derived.Test.YtabmfdedbpmfmaaGreatVJg
namespace Go.Proofs.YtabmfdedbpmfmaaGreat
open Go.RowKit Go.Shelf
set_option linter.unusedVariables false
def qdp (q:Tri) (u:QB):Bool:=
 match (pyL (wrT q)).2.2 with
 | [c]=>decide (triC c=q)&&okP u&&qfp c.k (ql (qk u)) u c.x c.t c.st
 | _=>false
theorem holdT_no {q:Tri} {u:QB} (h:fitT q=false):qdp q u=false:=by
 unfold qdp;unfold fitT at h;split
 ·rename_i c hc;rw[hc]at h;have:decide (triC c=q)=false:=by
   simp only[List.map_cons,List.map_nil,decide_eq_false_iff_not]at h ⊢;intro h2;exact h (by rw[h2])
  rw[this]
  rfl
 ·rfl
theorem qbqb {q:Tri} {u:QB} (h:okP u=false):qdp q u=false:=by
 unfold qdp;split
 ·rw[h];simp
 ·rfl
theorem qbfr {q:Tri} {u:QB} {c:Cl} (h1:(pyL (wrT q)).2.2=[c]) (h2:triC c=q) (h3:okP u=true):qdp q u=qfp c.k (ql (qk u)) u c.x c.t c.st:=by
 unfold qdp;rw[h1];dsimp only;rw[h3,h2];simp
end Go.Proofs.YtabmfdedbpmfmaaGreat
