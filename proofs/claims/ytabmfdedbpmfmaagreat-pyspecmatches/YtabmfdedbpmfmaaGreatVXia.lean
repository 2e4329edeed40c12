/- Walks: the document's Parse, the release goes on. -/
import Derived.Test.YtabmfdedbpmfmaaGreatVXi
namespace Go.Proofs.YtabmfdedbpmfmaaGreat
open Go.RowKit Go.Shelf
open AllReadyIn renaming cons → qbtj, nil → qbtl
open List renaming length_append → qbtw
set_option linter.unusedVariables false
set_option maxHeartbeats 8000000
set_option maxRecDepth 1000000
attribute [local go_sem] Oper.semAt_some
theorem st9 {w:World} {Q:Nat} {u:QY} {W:World} {a:Nat} {ao:Option Addr} {cv:Nat} {c0 c2 c3 c4 c5 c6 c7:Value} {u0 u1 u6 u7 u8 aA aB aC aD aE aF aG aH aI aJ aK aL aM aN aO aP aQ aR aS aT aU aV aW aX aY aZ bA bB bC bD bE bF bG bH bI bJ bK bL bM bN bO bP bQ bR bS bT bU bV bW bX bY bZ cA cB cC cD cE cF cG cH cI cJ cK cL cM cN cO cP cQ cR cS cT cU cV cW cX cY cZ dA dB dC dD dE dF dG dH dI dJ dK dL dM dN dO dP dQ dR dS dT dU dV dW dX dY dZ eA eB eC eD eE eF eG eH eI eJ eK eL eM eN eO eP eQ eR eS eT eU eV eW eX eY eZ fA fB fC fD fE fF fG fH fI fJ fK fL fM fN fO fP fQ fR fS fT fU fV fW fX fY fZ gA gB gC gD gE gF gG gH gI gJ gK gL gM gN gO gP gQ gR gS gT gU gV gW gX gY gZ hA hB hC hD hF hG hH hI hJ hL hM hN hO hP hR hS hT hU hV hW hX hY hZ iA iB iC iD iE iF iG iH iI iJ iK iL iM iN iO iP iQ iR iS iT iU iV iW iX iY iZ jA jB jC jD jE jF jG jH jI jJ jK jL jM jN jO jP jQ jR jS jT jU jV jW jX jY jZ kA kB kC kD kE kF kG kH:Value} {K:Act→World→Prop} {Q0:Exit→Act→World→Prop} (hus:u.size≤64)
  (ha:a≤u.size) (hQ:∀ ch (a:Act) d v w,Q0 (.panic ch) (a.put d v) w→Q0 (.panic ch) a w) (hrun:qn 1 (u.data.toList.drop a)≠0) (D:DV w Q u (a+qn 1 (u.data.toList.drop a)) 0 0 c0 (.slice ao 1 cv) c2 c3 c4 c5 c6 c7 (.slice none 0 0) (txsV [qp (seg u.data.toList a (a+qn 1 (u.data.toList.drop a)))]) [] W)
  (hk_:∀ (u0 u1 u6 u7 u8 aA aB aC aD aE aF aG aH aI aJ aK aL aM aN aO aP aQ aR aS aT aU aV aW aX aY aZ bA bB bC bD bE bF bG bH bI bJ bK bL bM bN bO bP bQ bR bS bT bU bV bW bX bY bZ cA cB cC cD cE cF cG cH cI cJ cK cL cM cN cO cP cQ cR cS cT cU cV cW cX cY cZ dA dB dC dD dE dF dG dH dI dJ dK dL dM dN dO dP dQ dR dS dT dU dV dW dX dY dZ eA eB eC eD eE eF eG eH eI eJ eK eL eM eN eO eP eQ eR eS eT eU eV eW eX eY eZ fA fB fC fD fE fF fG fH fI fJ fK fL fM fN fO fP fQ fR fS fT fU fV fW fX fY fZ gA gB gC gD gE gF gG gH gI gJ gK gL gM gN gO gP gQ gR gS gT gU gV gW gX gY gZ hA hB hC hD hF hG hH hI hJ hL hM hN hO hP hR hS hT hU hV hW hX hY hZ iA iB iC iD iE iF iG iH iI iJ iK iL iM iN iO iP iQ iR iS iT iU iV iW iX iY iZ jA jB jC jD jE jF jG jH jI jJ jK jL jM jN jO jP jQ jR jS jT jU jV jW jX jY jZ kA kB kC kD kE kF kG kH:Value) (ao:Option Addr) (n cv:Nat) (W':World),DV w Q u (qfk a (qbf u.data.toList 1 [46] a)) 0 0 c0 (.slice ao n cv) c2 c3 c4 c5 c6 c7 (.slice none 0 0) (txsV (rowL u.data.toList (qbf u.data.toList 1 [46] a))) [] W'→K ⟨#[u0,u1,.pointer (some ⟨w.heap.size,0,none⟩),.pointer (some ⟨w.heap.size+1,0,none⟩),.pointer (some ⟨Q,0,none⟩),.pointer (some ⟨Q+1,0,none⟩),u6,u7,u8,aA,aB,aC,aD,aE,aF,aG,aH,aI,aJ,aK,aL,aM,aN,aO,aP,aQ,aR,aS,aT,aU,aV,aW,aX,aY,aZ,bA,bB,bC,bD,bE,bF,bG,bH,bI,bJ,bK,bL,bM,bN,bO,bP,bQ,bR,bS,bT,bU,bV,bW,bX,bY,bZ,cA,cB,cC,cD,cE,cF,cG,cH,cI,cJ,cK,cL,cM,cN,cO,cP,cQ,cR,cS,cT,cU,cV,cW,cX,cY,cZ,dA,dB,dC,dD,dE,dF,dG,dH,dI,dJ,dK,dL,dM,dN,dO,dP,dQ,dR,dS,dT,dU,dV,dW,dX,dY,dZ,eA,eB,eC,eD,eE,eF,eG,eH,eI,eJ,eK,eL,eM,eN,eO,eP,eQ,eR,eS,eT,eU,eV,eW,eX,eY,eZ,fA,fB,fC,fD,fE,fF,fG,fH,fI,fJ,fK,fL,fM,fN,fO,fP,fQ,fR,fS,fT,fU,fV,fW,fX,fY,fZ,gA,gB,gC,gD,gE,gF,gG,gH,gI,gJ,gK,gL,gM,gN,gO,gP,gQ,gR,gS,gT,gU,gV,gW,gX,gY,gZ,hA,hB,hC,hD,hF,hG,hH,hI,hJ,hL,hM,hN,hO,hP,hR,hS,hT,hU,hV,hW,hX,hY,hZ,iA,iB,iC,iD,iE,iF,iG,iH,iI,iJ,iK,iL,iM,iN,iO,iP,iQ,iR,iS,iT,iU,iV,iW,iX,iY,iZ,jA,jB,jC,jD,jE,jF,jG,jH,jI,jJ,jK,jL,jM,jN,jO,jP,jQ,jR,jS,jT,jU,jV,jW,jX,jY,jZ,kA,kB,kC,kD,kE,kF,kG,kH],[]⟩ W')
  :
  Code.wp Tryz.prog (qbr 9 (Tryz.f25.body.getD .skip)) (Exit.then K Q0) ⟨#[u0,u1,.pointer (some ⟨w.heap.size,0,none⟩),.pointer (some ⟨w.heap.size+1,0,none⟩),.pointer (some ⟨Q,0,none⟩),.pointer (some ⟨Q+1,0,none⟩),u6,u7,u8,aA,aB,aC,aD,aE,aF,aG,aH,aI,aJ,aK,aL,aM,aN,aO,aP,aQ,aR,aS,aT,aU,aV,aW,aX,aY,aZ,bA,bB,bC,bD,bE,bF,bG,bH,bI,bJ,bK,bL,bM,bN,bO,bP,bQ,bR,bS,bT,bU,bV,bW,bX,bY,bZ,cA,cB,cC,cD,cE,cF,cG,cH,cI,cJ,cK,cL,cM,cN,cO,cP,cQ,cR,cS,cT,cU,cV,cW,cX,cY,cZ,dA,dB,dC,dD,dE,dF,dG,dH,dI,dJ,dK,dL,dM,dN,dO,dP,dQ,dR,dS,dT,dU,dV,dW,dX,dY,dZ,eA,eB,eC,eD,eE,eF,eG,eH,eI,eJ,eK,eL,eM,eN,eO,eP,eQ,eR,eS,eT,eU,eV,eW,eX,eY,eZ,fA,fB,fC,fD,fE,fF,fG,fH,fI,fJ,fK,fL,fM,fN,fO,fP,fQ,fR,fS,fT,fU,fV,fW,fX,fY,fZ,gA,gB,gC,gD,gE,gF,gG,gH,gI,gJ,gK,gL,gM,gN,gO,gP,gQ,gR,gS,gT,gU,gV,gW,gX,gY,gZ,hA,hB,hC,hD,hF,hG,hH,hI,hJ,hL,hM,hN,hO,hP,hR,hS,hT,hU,hV,hW,hX,hY,hZ,iA,iB,iC,iD,iE,iF,iG,iH,iI,iJ,iK,iL,iM,iN,iO,iP,iQ,iR,iS,iT,iU,iV,iW,iX,iY,iZ,jA,jB,jC,jD,jE,jF,jG,jH,jI,jJ,jK,jL,jM,jN,jO,jP,jQ,jR,jS,jT,jU,jV,jW,jX,jY,jZ,kA,kB,kC,kD,kE,kF,kG,kH],[]⟩ W:=by
 have HK:=qb hk_;clear hk_
 conv=>arg 2;whnf
 have hlen:(qbf u.data.toList 1 [46] a).length≤64:=by
  have:=qjv u.data.toList 1 [46] _ a rfl;rw[qg]at this;omega
 obtain ⟨i0,hi,hz0,hz1,hz2⟩:=info_parts Tryz.info9;have HLE:Hid (∀ st d,d++qbf u.data.toList 1 [46] st=qbf u.data.toList 1 [46] a→d.length≤64):=fun st d h=>by
  have:=congrArg List.length h;rw[qbtw]at this;omega
 clear hlen;(go_wp2_with fail);dsimp only;go_loopw [104] (fun _ wr=>∃ (st k:Nat) (d:List (Nat×Nat)) (ao:Option Addr) (cv:Nat),st<k∧k≤u.size∧DV w Q u k 0 0 c0 (.slice ao (d.length+1) cv) c2 c3 c4 c5 c6 c7 (.slice none 0 0) (txsV (rowL u.data.toList (d++[(st,k)]))) [] wr∧Hid (st+qn 1 (u.data.toList.drop st)=k)∧Hid (d++qbf u.data.toList 1 [46] st=qbf u.data.toList 1 [46] a)) (fun _ wr=>u.size-qblb wr Q)
 case atStart=>
  refine⟨a,a+qn 1 (u.data.toList.drop a),[],ao,cv,by omega,qds 1 u a ha,?_,rfl,rfl⟩
  have e:rowL u.data.toList ([]++[(a,a+qn 1 (u.data.toList.drop a))])=[qp (seg u.data.toList a (a+qn 1 (u.data.toList.drop a)))]:=by
   simp only[rowL,List.nil_append,List.map_cons,List.map_nil];rw[qxh _ _ hrun]
  rw[e];exact D
 case round=>
  clear D;obtain⟨st,k,d,ao,cv,hst,hk,D1,HE,HL⟩:=hrel;have hme:=D1.rd.dplace;have hdl:=HLE.out st d HL.out;have HNE:Hid (k≠st):=by show _≠_;omega
  obtain⟨r0,r1,r2,r3,g1,g2,g3⟩:=D1.rd.seen;have I1:=qb (fun w h=>qdz Q u k 0 0 1 1 w h hk (by omega) hus)
  by_cases hks:k<u.size
  ·have kd : ((k:Int)<(u.size:Int)):=by omega
   have kd2:decide ((k:Int)<(u.size:Int))=true:=by simpa using kd
   have HA:=qb (qbfj u k 46 hks);cases hb:((u[k].toNat:Int)==46)
   ·have HLA:Hid (qbf u.data.toList 1 [46] st=[(st,k)]):=qrg HE.out HNE.out (.inl (by rw[HA.out];exact hb))
    clear HA I1 HE HNE;(go_wp2_with fail);go_quiet (fail)
    have D2:=D1.drewN nq;generalize wr.drewN nq=W2 at *;clear D1;(go_wp2_with fail);rw[←HL.out,HLA.out,qjx]at HK;exact HK.out _ _ _ _ _ _ _ _ _ _ _ _ _ _ _ _ _ _ _ _ _ _ _ _ _ _ _ _ _ _ _ _ _ _ _ _ _ _ _ _ _ _ _ _ _ _ _ _ _ _ _ _ _ _ _ _ _ _ _ _ _ _ _ _ _ _ _ _ _ _ _ _ _ _ _ _ _ _ _ _ _ _ _ _ _ _ _ _ _ _ _ _ _ _ _ _ _ _ _ _ _ _ _ _ _ _ _ _ _ _ _ _ _ _ _ _ _ _ _ _ _ _ _ _ _ _ _ _ _ _ _ _ _ _ _ _ _ _ _ _ _ _ _ _ _ _ _ _ _ _ _ _ _ _ _ _ _ _ _ _ _ _ _ _ _ _ _ _ _ _ _ _ _ _ _ _ _ _ _ _ _ _ _ _ _ _ _ _ _ _ _ _ _ _ _ _ _ _ _ _ _ _ _ _ _ _ _ _ _ _ _ _ _ _ _ _ _ _ _ _ _ _ _ _ _ _ _ _ _ _ _ _ _ _ _ _ _ _ _ _ _ _ _ _ _ _ _ _ _ _ _ _ _ _ _ _ _ _ _ _ _ _ _ _ _ _ _ _ _ _ ao _ cv _ D2
   ·cases hc:clsB u.data.toList (k+1) 1
    ·have HLA:Hid (qbf u.data.toList 1 [46] st=[(st,k)]):=qrg HE.out HNE.out (.inr ⟨by rw[HA.out];exact hb,hc⟩)
     rw[hc]at I1;have IQ:=qb (fun n=>I1.out (wr.drewN n) (D1.rd.drewN n));clear HA I1 HE HNE hc;(go_wp2_with fail);go_quiet (first|(go_at_call 54;exact Calls.quiet_of (IQ.out _))|fail)
     have D2:=D1.drewN nq;generalize wr.drewN nq=W2 at *;clear D1;(go_wp2_with fail);rw[←HL.out,HLA.out,qjx]at HK;exact HK.out _ _ _ _ _ _ _ _ _ _ _ _ _ _ _ _ _ _ _ _ _ _ _ _ _ _ _ _ _ _ _ _ _ _ _ _ _ _ _ _ _ _ _ _ _ _ _ _ _ _ _ _ _ _ _ _ _ _ _ _ _ _ _ _ _ _ _ _ _ _ _ _ _ _ _ _ _ _ _ _ _ _ _ _ _ _ _ _ _ _ _ _ _ _ _ _ _ _ _ _ _ _ _ _ _ _ _ _ _ _ _ _ _ _ _ _ _ _ _ _ _ _ _ _ _ _ _ _ _ _ _ _ _ _ _ _ _ _ _ _ _ _ _ _ _ _ _ _ _ _ _ _ _ _ _ _ _ _ _ _ _ _ _ _ _ _ _ _ _ _ _ _ _ _ _ _ _ _ _ _ _ _ _ _ _ _ _ _ _ _ _ _ _ _ _ _ _ _ _ _ _ _ _ _ _ _ _ _ _ _ _ _ _ _ _ _ _ _ _ _ _ _ _ _ _ _ _ _ _ _ _ _ _ _ _ _ _ _ _ _ _ _ _ _ _ _ _ _ _ _ _ _ _ _ _ _ _ _ _ _ _ _ _ _ _ _ _ _ _ _ ao _ cv _ D2
    ·have HMR:Hid (qbf u.data.toList 1 [46] st=(st,k)::qbf u.data.toList 1 [46] (k+1)):=qbqz HE.out HNE.out (by rw[HA.out];exact hb)
     rw [hc]at I1;have hk1:k+1<u.size:=by
      by_cases hl:k+1<u.size
      ·exact hl
      ·rw[qmr u _ _ hl]at hc;cases hc
     have hrun2:qn 1 (u.data.toList.drop (k+1))≠0:=fun h=>by rw[(qhd _ _ _).1 h]at hc;cases hc
     have HPR:=qb (qxh u.data.toList (k+1) hrun2);have hrl:=qds 1 u (k+1) (by omega)
     have DG:=fun W h=>qgr Q u (k+1) 0 0 W h (by omega) hus
     have IQ:=qb (fun n=>I1.out (wr.drewN n) (D1.rd.drewN n));obtain⟨E,hE⟩:∃ E,k+1+qn 1 (u.data.toList.drop (k+1))=E:=⟨_,rfl⟩;rw[hE]at DG HPR hrl;have hEk:k+1<E:=by omega
     have HEE:=qb hE;have DG:=qb DG;have HSR:Hid (rowL u.data.toList (d++[(st,k)]++[(k+1,E)])=rowL u.data.toList (d++[(st,k)])++[qp (seg u.data.toList (k+1) E)]):=by
      show _=_;rw[←HPR.out];simp[rowL]
     have hrl2:(rowL u.data.toList (d++[(st,k)])).length=d.length+1:=by simp[rowL]
     have hwk:IntKind.i64.wrap ((k:Int)+1)=(k:Int)+1:=by rw[IntKind.wrap_i64];omega
     clear HA I1 HE HNE hc hE hrun2 HPR;(go_wp2_with fail);go_quiet (first|(go_at_call 54;exact Calls.quiet_of (IQ.out _))|fail)
     have D2:=D1.drewN nq;generalize wr.drewN nq=W2 at *;clear D1 r0 r1 r2 r3 g1 g2 g3;obtain⟨r0,r1,r2,r3,g1,g2,g3⟩:=D2.rd.seen;(go_wp2_with fail);have D3':=D2.turn (Turn.set Q 1 W2 (.int .i64 ((k:Int)+1))) D2.rd.step;have D0:=D3'.drewN 1;clear D3' D2 r0 r1 r2 r3 g1 g2 g3
     change DV w Q u (k+1) 0 0 c0 (.slice ao (d.length+1) cv) c2 c3 c4 c5 c6 c7 (.slice none 0 0) (txsV (rowL u.data.toList (d++[(st,k)]))) [] (World.drew _)at D0
     obtain⟨v0,v1,v2,v3,v4,v5,v6,v7,v8⟩:=D0.seen;refine(wpIn_wide (n:=5)).1 ?_;refine wpIn_region_any (by kernel_rfl) ?_
     change wpAnyIn _ _ _ _ _ _ _ _ _ (World.drew _)
     generalize World.drew _=W0 at *;refine wpAnyIn_take (i:=0) (v:=?_) rfl rfl (by kernel_rfl) (by kernel_rfl) (by kernel_rfl) (fun _ _ _ h=>hQ _ _ _ _ _ h) ⟨Or.inl ⟨by rfl,?_⟩,fun _=>rfl⟩ ?_
     rotate_left
     ·intro w;go_simp
      try with_reducible rfl
     refine wpAnyIn_take (i:=2) (v:=?_) rfl rfl (by kernel_rfl) (by kernel_rfl) (by kernel_rfl) (fun _ _ _ h=>hQ _ _ _ _ _ h) ⟨Or.inl ⟨by rfl,?_⟩,fun _=>rfl⟩ ?_
     rotate_left
     ·intro w;go_simp
      try with_reducible rfl
     refine wpAnyIn_ready (rs:=[1,3]) (by kernel_rfl) (by simp) ?_
     refine qbtj rfl (fun K hK=>?_) ?_
     ·go_simp
      refine hK _ _ ?_;clear hK K;refine wpAnyIn_ready (rs:=[3]) (by kernel_rfl) (by simp) ?_
      refine qbtj rfl (fun K hK=>?_) ?_
      ·go_simp
       refine⟨trivial,?_⟩;refine(callsIn_wide.2 (DG.out _ D0.rd)).mono ?_;rintro r w3 ⟨rfl,h3,t3⟩;have D3:=D0.turn t3 h3;obtain⟨x0,x1,x2,x3,x4,x5,x6,x7,x8⟩:=D3.seen;have hq3:=D3.szQ;have hrel3:w3.ownsRow (Q+2) 9 1 (.slice ao (d.length+1) cv) (d.length+1) (txsV (rowL u.data.toList (d++[(st,k)]))):=(by have:=D3.rel;rw[qlx,hrl2]at this;exact this)
       refine hK _ _ ?_;clear hK K;refine wpAnyIn_ready (rs:=[4]) (by kernel_rfl) (by simp) ?_
       refine qbtj rfl (fun K hK=>?_) ?_
       ·go_simp
        refine hK _ _ ?_;clear hK K;refine wpAnyIn_ready (rs:=[5]) (by kernel_rfl) (by simp) ?_
        refine qbtj rfl (fun K hK=>?_) ?_
        ·refine qbb rfl _ _ 37 rfl (Q+2) 9 i0 (.string .empty) 1 16 Tryz.underlying37 hi hz0 hz1 hz2 rfl (by decide) (.slice ao (d.length+1) cv) (d.length+1) (txsV (rowL u.data.toList (d++[(st,k)]))) rfl (hrel3.alloc _) ⟨w3.heap.size,0,none⟩ 1 1 [.string (qd (qp (seg u.data.toList (k+1) E)))] rfl rfl (qbj _ _ _) (qcw _) (by unfold maxLen;omega) (by omega) (by simp;omega) ?_
         intro v4 w4 hown4 hgrow4 _;obtain⟨ao4,cv4,rfl⟩:=qgp hown4;rw[qgl]at hgrow4;have hv4:w4.heap[Q+1]? = _:=(hgrow4.block (Q+1) (by simp;omega) (fun e=>by have:=(qll hrel3 (Q+1) e.symm).1;omega)).trans (D3.alloc _).ver
         have y1:=qc 1 hv4 rfl;have yf:=qf 1 hv4;refine hK _ _ ?_;clear hK K;refine wpAnyIn_take (i:=6) (v:=?_) rfl rfl (by kernel_rfl) (by kernel_rfl) (by kernel_rfl) (fun _ _ _ h=>hQ _ _ _ _ _ h) ⟨Or.inl ⟨by rfl,?_⟩,fun _=>rfl⟩ ?_
         rotate_left
         ·intro w;go_simp
          try with_reducible rfl
         refine wpAnyIn_ready (rs:=[7]) (by kernel_rfl) (by simp) ?_
         refine qbtj rfl (fun K hK=>?_) ?_
         ·go_simp
          refine hK _ _ ?_;clear hK K;refine wpAnyIn_done (by kernel_rfl) ?_ _
          have hown5:w4.ownsRow (Q+2) 9 1 (.slice ao4 (d.length+1+1) cv4) (d.length+1+1) (txsV (rowL u.data.toList (d++[(st,k)]++[(k+1,E)]))):=by
           rw[HSR.out,qqp];exact hown4
          have hgr5:(w3.alloc (.cells #[.string (qd (qp (seg u.data.toList (k+1) E)))] 9)).grownBy w4 (ao.map (·.block)):=hgrow4
          have D5:=(D3.alloc (.cells #[.string (qd (qp (seg u.data.toList (k+1) E)))] 9)).setRel (S:=rowL u.data.toList (d++[(st,k)])) (S':=rowL u.data.toList (d++[(st,k)]++[(k+1,E)])) hrl2.symm hgr5 hown5 (by simp[rowL]) rfl rfl
          (go_wp2_with fail);go_roundw
          case rel=>exact⟨k+1,E,d++[(st,k)],ao4,cv4,hEk,hrl,by simpa[qbtw] using D5,HEE,by show _=_;rw[List.append_assoc,←HL.out,HMR.out];rfl⟩
          case measure=>
           rw[D5.rd.dplace,hme];omega
         exact qbtl
        exact qbtl
       exact qbtl
      exact qbtl
     refine qbtj rfl (fun K hK=>?_) ?_
     ·go_simp
      refine⟨trivial,?_⟩;refine(callsIn_wide.2 (DG.out _ D0.rd)).mono ?_;rintro r w3 ⟨rfl,h3,t3⟩;have D3:=D0.turn t3 h3;obtain⟨x0,x1,x2,x3,x4,x5,x6,x7,x8⟩:=D3.seen;have hq3:=D3.szQ;have hrel3:w3.ownsRow (Q+2) 9 1 (.slice ao (d.length+1) cv) (d.length+1) (txsV (rowL u.data.toList (d++[(st,k)]))):=(by have:=D3.rel;rw[qlx,hrl2]at this;exact this)
      refine hK _ _ ?_;clear hK K;refine wpAnyIn_ready (rs:=[1,4]) (by kernel_rfl) (by simp) ?_
      refine qbtj rfl (fun K hK=>?_) ?_
      ·go_simp
       refine hK _ _ ?_;clear hK K;refine wpAnyIn_ready (rs:=[4]) (by kernel_rfl) (by simp) ?_
       refine qbtj rfl (fun K hK=>?_) ?_
       ·go_simp
        refine hK _ _ ?_;clear hK K;refine wpAnyIn_ready (rs:=[5]) (by kernel_rfl) (by simp) ?_
        refine qbtj rfl (fun K hK=>?_) ?_
        ·refine qbb rfl _ _ 37 rfl (Q+2) 9 i0 (.string .empty) 1 16 Tryz.underlying37 hi hz0 hz1 hz2 rfl (by decide) (.slice ao (d.length+1) cv) (d.length+1) (txsV (rowL u.data.toList (d++[(st,k)]))) rfl (hrel3.alloc _) ⟨w3.heap.size,0,none⟩ 1 1 [.string (qd (qp (seg u.data.toList (k+1) E)))] rfl rfl (qbj _ _ _) (qcw _) (by unfold maxLen;omega) (by omega) (by simp;omega) ?_
         intro v4 w4 hown4 hgrow4 _;obtain⟨ao4,cv4,rfl⟩:=qgp hown4;rw[qgl]at hgrow4;have hv4:w4.heap[Q+1]? = _:=(hgrow4.block (Q+1) (by simp;omega) (fun e=>by have:=(qll hrel3 (Q+1) e.symm).1;omega)).trans (D3.alloc _).ver
         have y1:=qc 1 hv4 rfl;have yf:=qf 1 hv4;refine hK _ _ ?_;clear hK K;refine wpAnyIn_take (i:=6) (v:=?_) rfl rfl (by kernel_rfl) (by kernel_rfl) (by kernel_rfl) (fun _ _ _ h=>hQ _ _ _ _ _ h) ⟨Or.inl ⟨by rfl,?_⟩,fun _=>rfl⟩ ?_
         rotate_left
         ·intro w;go_simp
          try with_reducible rfl
         refine wpAnyIn_ready (rs:=[7]) (by kernel_rfl) (by simp) ?_
         refine qbtj rfl (fun K hK=>?_) ?_
         ·go_simp
          refine hK _ _ ?_;clear hK K;refine wpAnyIn_done (by kernel_rfl) ?_ _
          have hown5:w4.ownsRow (Q+2) 9 1 (.slice ao4 (d.length+1+1) cv4) (d.length+1+1) (txsV (rowL u.data.toList (d++[(st,k)]++[(k+1,E)]))):=by
           rw[HSR.out,qqp];exact hown4
          have hgr5:(w3.alloc (.cells #[.string (qd (qp (seg u.data.toList (k+1) E)))] 9)).grownBy w4 (ao.map (·.block)):=hgrow4
          have D5:=(D3.alloc (.cells #[.string (qd (qp (seg u.data.toList (k+1) E)))] 9)).setRel (S:=rowL u.data.toList (d++[(st,k)])) (S':=rowL u.data.toList (d++[(st,k)]++[(k+1,E)])) hrl2.symm hgr5 hown5 (by simp[rowL]) rfl rfl
          (go_wp2_with fail);go_roundw
          case rel=>exact⟨k+1,E,d++[(st,k)],ao4,cv4,hEk,hrl,by simpa[qbtw] using D5,HEE,by show _=_;rw[List.append_assoc,←HL.out,HMR.out];rfl⟩
          case measure=>
           rw[D5.rd.dplace,hme];omega
         exact qbtl
        exact qbtl
       exact qbtl
      refine qbtj rfl (fun K hK=>?_) ?_
      ·go_simp
       refine hK _ _ ?_;clear hK K;refine wpAnyIn_ready (rs:=[1]) (by kernel_rfl) (by simp) ?_
       refine qbtj rfl (fun K hK=>?_) ?_
       ·go_simp
        refine hK _ _ ?_;clear hK K;refine wpAnyIn_ready (rs:=[5]) (by kernel_rfl) (by simp) ?_
        refine qbtj rfl (fun K hK=>?_) ?_
        ·refine qbb rfl _ _ 37 rfl (Q+2) 9 i0 (.string .empty) 1 16 Tryz.underlying37 hi hz0 hz1 hz2 rfl (by decide) (.slice ao (d.length+1) cv) (d.length+1) (txsV (rowL u.data.toList (d++[(st,k)]))) rfl (hrel3.alloc _) ⟨w3.heap.size,0,none⟩ 1 1 [.string (qd (qp (seg u.data.toList (k+1) E)))] rfl rfl (qbj _ _ _) (qcw _) (by unfold maxLen;omega) (by omega) (by simp;omega) ?_
         intro v4 w4 hown4 hgrow4 _;obtain⟨ao4,cv4,rfl⟩:=qgp hown4;rw[qgl]at hgrow4;have hv4:w4.heap[Q+1]? = _:=(hgrow4.block (Q+1) (by simp;omega) (fun e=>by have:=(qll hrel3 (Q+1) e.symm).1;omega)).trans (D3.alloc _).ver
         have y1:=qc 1 hv4 rfl;have yf:=qf 1 hv4;refine hK _ _ ?_;clear hK K;refine wpAnyIn_take (i:=6) (v:=?_) rfl rfl (by kernel_rfl) (by kernel_rfl) (by kernel_rfl) (fun _ _ _ h=>hQ _ _ _ _ _ h) ⟨Or.inl ⟨by rfl,?_⟩,fun _=>rfl⟩ ?_
         rotate_left
         ·intro w;go_simp
          try with_reducible rfl
         refine wpAnyIn_ready (rs:=[7]) (by kernel_rfl) (by simp) ?_
         refine qbtj rfl (fun K hK=>?_) ?_
         ·go_simp
          refine hK _ _ ?_;clear hK K;refine wpAnyIn_done (by kernel_rfl) ?_ _
          have hown5:w4.ownsRow (Q+2) 9 1 (.slice ao4 (d.length+1+1) cv4) (d.length+1+1) (txsV (rowL u.data.toList (d++[(st,k)]++[(k+1,E)]))):=by
           rw[HSR.out,qqp];exact hown4
          have hgr5:(w3.alloc (.cells #[.string (qd (qp (seg u.data.toList (k+1) E)))] 9)).grownBy w4 (ao.map (·.block)):=hgrow4
          have D5:=(D3.alloc (.cells #[.string (qd (qp (seg u.data.toList (k+1) E)))] 9)).setRel (S:=rowL u.data.toList (d++[(st,k)])) (S':=rowL u.data.toList (d++[(st,k)]++[(k+1,E)])) hrl2.symm hgr5 hown5 (by simp[rowL]) rfl rfl
          (go_wp2_with fail);go_roundw
          case rel=>exact⟨k+1,E,d++[(st,k)],ao4,cv4,hEk,hrl,by simpa[qbtw] using D5,HEE,by show _=_;rw[List.append_assoc,←HL.out,HMR.out];rfl⟩
          case measure=>
           rw[D5.rd.dplace,hme];omega
         exact qbtl
        exact qbtl
       exact qbtl
      exact qbtl
     exact qbtl
  ·have kd:¬ ((k:Int)<(u.size:Int)):=by omega
   have kd2:decide ((k:Int)<(u.size:Int))=false:=by simpa using kd
   have HA:=qb (qqv u k 46 hks);have HLA:Hid (qbf u.data.toList 1 [46] st=[(st,k)]):=qrg HE.out HNE.out (.inl HA.out);clear HA I1 HE HNE;(go_wp2_with fail);go_quiet (fail)
   have D2:=D1.drewN nq;generalize wr.drewN nq=W2 at *;clear D1;(go_wp2_with fail);rw[←HL.out,HLA.out,qjx]at HK;exact HK.out _ _ _ _ _ _ _ _ _ _ _ _ _ _ _ _ _ _ _ _ _ _ _ _ _ _ _ _ _ _ _ _ _ _ _ _ _ _ _ _ _ _ _ _ _ _ _ _ _ _ _ _ _ _ _ _ _ _ _ _ _ _ _ _ _ _ _ _ _ _ _ _ _ _ _ _ _ _ _ _ _ _ _ _ _ _ _ _ _ _ _ _ _ _ _ _ _ _ _ _ _ _ _ _ _ _ _ _ _ _ _ _ _ _ _ _ _ _ _ _ _ _ _ _ _ _ _ _ _ _ _ _ _ _ _ _ _ _ _ _ _ _ _ _ _ _ _ _ _ _ _ _ _ _ _ _ _ _ _ _ _ _ _ _ _ _ _ _ _ _ _ _ _ _ _ _ _ _ _ _ _ _ _ _ _ _ _ _ _ _ _ _ _ _ _ _ _ _ _ _ _ _ _ _ _ _ _ _ _ _ _ _ _ _ _ _ _ _ _ _ _ _ _ _ _ _ _ _ _ _ _ _ _ _ _ _ _ _ _ _ _ _ _ _ _ _ _ _ _ _ _ _ _ _ _ _ _ _ _ _ _ _ _ _ _ _ _ _ _ _ ao _ cv _ D2
end Go.Proofs.YtabmfdedbpmfmaaGreat
