/-
  Proved: for any clauses, any clause and any version that hold together at most 1,048,576 values and letters, a row of clauses' text, whether a version is what a clause asks for, and whether clauses let pre-releases in, are in the program what they are in the document's answer, and chapter 10's examples hold: PyspecWrites returns true and leaves its arguments as they were. The condition: the bulk of the arguments is at most 1,048,576 (a text of clauses greater than any string may be can't be written).
-/
import Derived.ProofKit
import Derived.OpenShut
import Derived.ShutString
import Derived.ChangeOld
import Derived.Below
import Derived.JoinedCond
import Derived.SliceStrings
import Derived.Deep.Fields
import Derived.Test.YtabmfdedbpmfmaaGreatUKh
namespace Go.Proofs.YtabmfdedbpmfmaaGreat
namespace PyspecWritesP
open Go.ChangeShapes Go.WideShapes Go.ChangeAt Go.RowKit
open Go.ChangeMaps (open_string shut_string)
set_option linter.unusedVariables false
set_option maxRecDepth 100000
theorem own:ownKnob Tryz.prog.godebug=none:=by kernel_rfl
theorem laidOut:laidOutB Tryz.prog=true:=by kernel_rfl
theorem short {H:Type} {d0 d1 d2:DataW H} (hk:Rows.uptoSmall H [d0,d1,d2]=true):Rows.uptoBulk d0≤1048576∧Rows.uptoBulk d1≤1048576∧Rows.uptoBulk d2≤1048576:=by
 have h:Rows.uptoBulkAll [d0,d1,d2]≤1048576:=of_decide_eq_true hk;simp only[Rows.uptoBulkAll]at h;omega
theorem contract (H:Type) (enc:TypeId×Value→H) (W:World) (base:Nat) (args:Array Value) (ds gs:List (DataW H)) (before:List MemPlace)
  (hval:∀ (j:Nat) t v,Tryz.f4.params[j]? = some t→args[j]? = some v→Value.okWide Tryz.prog W .any base t v)
  (hW:DataW.Whole enc Tryz.prog Tryz.f4.params.toList Rows.pyspecWritesSpec.vars false W args.toList ds gs before) (hk:Rows.uptoSmall H (ds++gs)=true) :
  Calls Tryz.prog 4 args W fun e W'=>∃ v,e=.returned v∧Rows.pyspecWritesSpec.post enc Tryz.prog Tryz.f4 false true false false W args v W':=by
 have hW':=hW;obtain⟨p,q,hA0,hV,rfl,hfz,hnd⟩:=hW;have hA:DataW.TrodAll enc Tryz.prog W 0 (fun _=>true) true Tryz.f4.params.toList args.toList ds p:=hA0;rw[Tryz.params4]at hA hval;obtain⟨v0,vs0,d0,ds0,p0,q0,hargs,rfl,rfl,h0,r0⟩:=trodAll_cons hA;obtain⟨v1,vs1,d1,ds1,p1,q1,rfl,rfl,rfl,h1,r1⟩:=trodAll_cons r0;obtain⟨v2,vs2,d2,ds2,p2,q2,rfl,rfl,rfl,h2,r2⟩:=trodAll_cons r1;obtain⟨rfl,rfl,rfl⟩:=trodAll_nil r2;obtain rfl:args=#[v0,v1,v2]:=by cases args;simp_all
 obtain⟨rfl,rfl⟩:=trodVars_none hV;have k0:=h0;have k1:=h1;have k2:=h2;have lt0:∀ x∈p0,x.block<W.heap.size:=by obtain⟨m,hm⟩:=k0;exact DataW.trod_lt m _ _ _ hm
 have lt1:∀ x∈p1,x.block<W.heap.size:=by obtain⟨m,hm⟩:=k1;exact DataW.trod_lt m _ _ _ hm
 have lt2:∀ x∈p2,x.block<W.heap.size:=by obtain⟨m,hm⟩:=k2;exact DataW.trod_lt m _ _ _ hm
 obtain ⟨s0,s1,s2⟩:=short hk;obtain⟨str,rfl,hstr⟩:∃ a2:ByteArray,v2=.string a2∧a2.data.toList.length≤Rows.uptoBulk d2:=by
  obtain⟨a2,rfl,rfl,_⟩:=open_string Tryz.underlying9 (hval 2 9 v2 rfl rfl) h2;exact⟨a2,rfl,by simp[Rows.uptoBulk]⟩
 obtain ⟨qs,hl,hln,hsz⟩:∃ qs:List Tri,qgn W v0 qs∧qs.length≤Rows.uptoBulk d0∧∀ q∈qs,q.1.length≤Rows.uptoBulk d0∧q.2.1.length≤Rows.uptoBulk d0:=by
  obtain⟨m,hm⟩:=h0;obtain⟨a,i,c,rfl⟩:=okWide_slice Tryz.underlying22 (hval 0 22 v0 rfl rfl);exact qbqs hm
 obtain ⟨q,rfl,hq1,hq2⟩:∃ q:Tri,v1=triV q∧q.1.length≤Rows.uptoBulk d1∧q.2.1.length≤Rows.uptoBulk d1:=by
  obtain⟨m,hm⟩:=h1;obtain⟨cs,rfl,hcs⟩:=okWide_struct Tryz.underlying32 (hval 1 32 v1 rfl rfl);rw[c32]at hcs;obtain⟨q,hq,hD⟩:=qbdx (cs:=cs.toList) (by simpa using hcs) (by simpa[Value.cells] using hm)
  refine⟨q,?_,?_,?_⟩
  ·unfold triV;rw[←hq]
  ·rw[hD];simp only[triD,Rows.uptoBulk,Rows.uptoBulkAll];omega
  ·rw[hD];simp only[triD,Rows.uptoBulk,Rows.uptoBulkAll];omega
 clear hA0;refine(qbhl v0 qs q str W hl ⟨by omega,fun t ht=>by have:=hsz t ht;omega⟩ (by omega) (by omega) (by rw[←qg];omega)).mono fun e W' ⟨he,bel⟩=>?_
 subst he;exact⟨_,rfl,_,_,_,[],_,[],hW',trodAll_mk1 (shut_bool Tryz.underlying4 _),(trodAll_cons_mk (Below.trod laidOut (by kernel_rfl) (of_decide_eq_true (by kernel_rfl)) k0 bel lt0) (trodAll_cons_mk (Below.trod laidOut (by kernel_rfl) (of_decide_eq_true (by kernel_rfl)) k1 bel lt1) (trodAll_cons_mk (Below.trod laidOut (by kernel_rfl) (of_decide_eq_true (by kernel_rfl)) k2 bel lt2) trodAll_mk0))),rfl,bel.frame _,fun h=>by cases h⟩
theorem lifted (os:Os) (started:os.Started) (H:Type) (enc:TypeId×Value→H) (F:Stop.Interp) :
 ReturnsInHanded {} Tryz.checked os 4 .any ((Rows.OpenSpec.upto Rows.pyspecWritesSpec).pre6 enc Tryz.prog Tryz.f4 Rows.pyspecWritesUptoRow.domain false) (((Rows.OpenSpec.upto Rows.pyspecWritesSpec).at F).post enc Tryz.prog Tryz.f4 false true false false):=by
  refine returnsInHanded_of_cond (C:=Tryz.checked) (s:=Rows.OpenSpec.upto Rows.pyspecWritesSpec) (k:=Rows.uptoSmall) rfl own started (by kernel_rfl) Tryz.func4
    (OpenSpec.witness (enc:=enc) (C:=Tryz.checked) (s:=Rows.OpenSpec.upto Rows.pyspecWritesSpec) (k:=Rows.uptoSmall) rfl false ⟨#[],#[.slice none 0 0,.agg #[.string .empty,.string .empty,.bool false],.string .empty],[]⟩ 8 (by kernel_rfl) (by kernel_rfl) (by kernel_rfl)
      (x:=([.nil,.agg [.lit (.string []),.lit (.string []),.lit (.bool false)],.lit (.string [])],[],[])) (by kernel_rfl) rfl (by kernel_rfl)) ?_
  intro W base args ds gs before hval hW _ hk _;exact contract H enc W base args ds gs before hval hW hk
theorem over:Rows.pyspecWritesUptoRow.holds Tryz.pinned (Rows.OpenSpec.upto Rows.pyspecWritesSpec):=
 OpenClaim.holds_of_cond 4 Tryz.f4 rfl rfl rfl rfl rfl rfl rfl ⟨rfl,rfl,rfl,rfl,rfl⟩ rfl rfl rfl rfl rfl (by kernel_rfl) Tryz.func4 (by kernel_rfl)
  (of_decide_eq_true (by kernel_rfl)) (by unfold Func.isWrapper;first|(rw[if_pos (by decide +kernel)];kernel_rfl)|(rw[if_neg (by decide +kernel)];exact⟨rfl,rfl⟩))
  (fun os started H enc _ F=>lifted os started H enc F)
end PyspecWritesP
theorem pyspecWrites_holds:Rows.PyspecWritesUptoSaid:=PyspecWritesP.over
#print axioms pyspecWrites_holds
end Go.Proofs.YtabmfdedbpmfmaaGreat
