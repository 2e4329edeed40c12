/-
  Proved: for any two texts and any slice of texts, pyspec.Match and pyspec.Pick answer as the document's do (which versions a text wants, and which of a list is the latest of those), the list stays as it was, and chapter 10's examples hold: PyspecMatches returns true and leaves its arguments as they were. No condition but the form's own reach (what comes in takes at most 2^47 - 4096 bytes in one text or slice).
-/
import Derived.ProofKit
import Derived.OpenShut
import Derived.ShutString
import Derived.ChangeOld
import Derived.Below
import Derived.SizedLaws
import Derived.SliceStrings
import Derived.Deep.Fields
import Derived.Test.YtabmfdedbpmfmaaGreatVKj
namespace Go.Proofs.YtabmfdedbpmfmaaGreat
namespace PyspecMatchesP
open Go.ChangeShapes Go.WideShapes Go.ChangeAt Go.RowKit
open Go.ChangeMaps (open_string shut_string)
set_option linter.unusedVariables false
set_option maxHeartbeats 2000000
set_option maxRecDepth 100000
theorem own:ownKnob Tryz.prog.godebug=none:=by kernel_rfl
theorem laidOut:laidOutB Tryz.prog=true:=by kernel_rfl
theorem strs_len {H:Type}:∀ ss:List ByteArray,(Go.ChangeShapes.strs (H:=H) ss).length=ss.length
 | ss=>by simp[Go.ChangeShapes.strs]
theorem bytes9:Tryz.prog.bytesOf 9=16:=by kernel_rfl
theorem weights_all {H:Type} {P:Program} {e:TypeId} {d:DataW H} {n:Nat}:∀ l:List (DataW H),d∈l→n∈d.weights P e→n∈DataW.weightsAll P e l
 | [],h,_=>by cases h
 | x::r,h,hn=>by
  simp only[DataW.weightsAll,List.mem_append];rcases List.mem_cons.1 h with rfl|h
  ·exact .inl hn
  ·exact .inr (weights_all r h hn)
theorem open_txts {H:Type} {enc:TypeId×Value→H} {W:World} {fuel:Nat} {c:Value} {y:DataW H×List MemPlace} (h:DataW.trod enc Tryz.prog W 0 (fun _=>true) true fuel 37 [c]=some y) :
  ∃ (a:Option Addr) (n cap:Nat) (ts:List (List UInt8)),c=.slice a n cap∧ts.length=n∧qx W (.slice a n cap) ts∧(a=none→n=0∧cap=0)∧(n=0∨∃ elems spare,y.1=.slice elems spare∧elems.length=n∧∀ t∈ts,DataW.lit (.string t)∈elems):=by
 rcases open_strings Tryz.underlying37 Tryz.underlying9 Tryz.cells9 h with ⟨hcs,rfl⟩|⟨a,len,cap,ss,hcs,_,hl,hm,hz,rfl,hcell,_⟩
 ·obtain rfl:c=.slice none 0 0:=by simpa using hcs
  exact⟨none,0,0,[],rfl,rfl,⟨none,0,rfl,.inl rfl⟩,fun _=>⟨rfl,rfl⟩,.inl rfl⟩
 ·obtain rfl:c=.slice (some a) len cap:=by simpa using hcs
  have hsl:ss.length=cap:=by simpa using hz
  have htl:(ss.take len).length=len:=by rw[List.length_take];omega
  refine ⟨some a,len,cap,(ss.take len).map fun s=>s.data.toList,rfl,by rw[List.length_map,htl],⟨some a,cap,by simp only[List.length_map,htl],?_⟩,(fun h=>by cases h),.inr ⟨_,_,rfl,by rw[strs_len,htl],fun t ht=>by
   obtain⟨x,hx,rfl⟩:=List.mem_map.1 ht;exact List.mem_map.2 ⟨x,hx,rfl⟩⟩⟩
  by_cases h0:len=0
  ·left;rw[h0];rfl
  ·right;obtain⟨b,off,spot⟩:=a;have hc:=hcell 0 (by omega)
   have hspot:spot=none:=by simpa[Addr.add] using World.cell?_spot hc
   subst hspot;refine⟨b,off,rfl,by have:=cell_lt hc;simpa[Addr.add] using this,fun i hi=>?_⟩
   have hi':i<len:=by rw[List.length_map,htl]at hi;exact hi
   have hci:=hcell i (by omega)
   have ea:(Addr.add ⟨b,off,none⟩ i)=⟨b,off+i,none⟩:=by
    by_cases e0:i=0
    ·subst e0;rfl
    ·simp[Addr.add,e0]
   rw[ea]at hci;rw[hci];have hi2:i<ss.length:=by omega
   simp only[List.getElem_map,List.getElem_take,qdb];simp[List.getD,hi2]
theorem lifted (os:Os) (started:os.Started) (H:Type) (enc:TypeId×Value→H) :
  ReturnsInHanded {} Tryz.checked os 5 .any (Rows.pyspecMatchesSpec.pre6 enc Tryz.prog Tryz.f5 Rows.pyspecMatchesRow.domain false) (Rows.pyspecMatchesSpec.post enc Tryz.prog Tryz.f5 false true false false):=by
 refine returnsInHanded_of_change_sized (C:=Tryz.checked) own started (by kernel_rfl) Tryz.func5
  (ChangeSpec.witness6 (enc:=enc) (C:=Tryz.checked) false ⟨#[],#[.string ByteArray.empty,.string ByteArray.empty,.slice none 0 0],[]⟩ 8 (by kernel_rfl) (by kernel_rfl) (by kernel_rfl) (by kernel_rfl)) ?_
 intro W base args ds gs before hval0 hW hcnd hsz _;have hval:∀ (j:Nat) t v,Tryz.f5.params[j]? = some t→args[j]? = some v→Value.okWide Tryz.prog W .any base t v:=hval0;have hW':=hW;obtain⟨p,q,hA0,hV,rfl,hfz,hnd⟩:=hW;have hA:DataW.TrodAll enc Tryz.prog W 0 (fun _=>true) true Tryz.f5.params.toList args.toList ds p:=hA0;rw[Tryz.params5]at hA hval hsz;obtain⟨v0,vs0,d0,ds0,p0,q0,hargs,rfl,rfl,h0,r0⟩:=trodAll_cons hA;obtain⟨v1,vs1,d1,ds1,p1,q1,rfl,rfl,rfl,h1,r1⟩:=trodAll_cons r0;obtain⟨v2,vs2,d2,ds2,p2,q2,rfl,rfl,rfl,h2,r2⟩:=trodAll_cons r1;obtain⟨rfl,rfl,rfl⟩:=trodAll_nil r2;obtain rfl:args=#[v0,v1,v2]:=by cases args;simp_all
 obtain⟨rfl,rfl⟩:=trodVars_none hV;have k2:=h2;have lt2:∀ x∈p2,x.block<W.heap.size:=by obtain⟨m,hm⟩:=k2;exact DataW.trod_lt m _ _ _ hm
 obtain ⟨a0,rfl,rfl,rfl,w0⟩:=open_string Tryz.underlying9 (hval 0 9 v0 rfl rfl) h0;obtain⟨a1,rfl,rfl,rfl,w1⟩:=open_string Tryz.underlying9 (hval 1 9 v1 rfl rfl) h1;obtain⟨b4,l4,c4,rfl⟩:=okWide_slice Tryz.underlying37 (hval 2 37 v2 rfl rfl);obtain⟨m4,hm4⟩:=h2;obtain⟨a4,n4,e4,ts,hv4,hl,hT4,hn4,hl4⟩:=open_txts (hm4:DataW.trod enc Tryz.prog W 0 _ true m4 37 [.slice b4 l4 c4]=some (d2,p2));cases hv4;have hn16:l4*16≤140737488355328:=by
  rcases hl4 with h|⟨elems,spare,he,hn,_⟩
  ·omega
  ·have he':d2=.slice elems spare:=he;have h3:=sized_slice hsz (j:=2) (t:=37) (e:=9) (elems:=elems) (spare:=spare) rfl (by rw[←he'];rfl) Tryz.underlying37
   have h3b:(elems.length+spare.length)*16≤reachBytes:=by rw[←bytes9];exact h3
   rw[hn]at h3b;have h4:=reachBytes_lt;have h5:l4*16≤(l4+spare.length)*16:=Nat.mul_le_mul_right _ (Nat.le_add_right _ _);omega
 have hz:∀ t∈ts,t.length≤140737488351232:=fun t ht=>by
  rcases hl4 with h|⟨elems,spare,he,hn,hin⟩
  ·rw[List.length_eq_zero_iff.1 (hl.trans h)]at ht;cases ht
  ·have h3:=List.all_eq_true.1 hsz _ (DataW.weights_mem_each (j:=2) (t:=37) (d:=d2) rfl rfl t.length (by
    rw[show d2=.slice elems spare from he];show t.length∈(DataW.slice elems spare).weights Tryz.prog 37;simp only[DataW.weights,Tryz.underlying37,List.mem_cons,List.mem_append];exact .inr (.inl (weights_all elems (hin t ht) (by simp[DataW.weights])))))
   have h4:t.length≤reachBytes:=by simpa using h3
   have h5:=reachBytes_lt;have h6:reachBytes=140737488351232:=by decide
   omega
 have hu:a1.size≤140737488351232:=by
  have h3:a1.data.toList.length≤reachBytes:=sized_string hsz (j:=1) (t:=9) rfl rfl;have h6:reachBytes=140737488351232:=by decide
  rw[←qg];omega
 clear hA0 hval0;refine(qbcm a0 a1 b4 l4 c4 ts W hT4 hl hn4 hn16 hu hz).mono fun e W' ⟨he,bel⟩=>?_;subst he;exact⟨_,rfl,_,_,_,[],_,[],hW',trodAll_mk1 (shut_bool Tryz.underlying4 _),(trodAll_cons_mk (shut_string Tryz.underlying9 w0) (trodAll_cons_mk (shut_string Tryz.underlying9 w1) (trodAll_cons_mk (Below.trod laidOut (by kernel_rfl) (of_decide_eq_true (by kernel_rfl)) k2 bel lt2) trodAll_mk0))),rfl,bel.frame _,fun h=>by cases h⟩
theorem over:Rows.pyspecMatchesRow.holds Tryz.pinned (OpenSpec.ofChange Rows.pyspecMatchesSpec):=
 OpenClaim.holds_of_wide 5 Tryz.f5 rfl rfl rfl rfl rfl rfl rfl ⟨rfl,rfl,rfl,rfl,rfl⟩ rfl rfl rfl rfl rfl (by kernel_rfl) Tryz.func5 (by kernel_rfl)
  (of_decide_eq_true (by kernel_rfl)) (by unfold Func.isWrapper;first|(rw[if_pos (by decide +kernel)];kernel_rfl)|(rw[if_neg (by decide +kernel)];exact⟨rfl,rfl⟩))
  (fun os started H enc _=>lifted os started H enc)
end PyspecMatchesP
theorem pyspecMatches_holds:Rows.PyspecMatchesSaid:=PyspecMatchesP.over
#print axioms pyspecMatches_holds
end Go.Proofs.YtabmfdedbpmfmaaGreat
