/- Walks: the document's Parse, the release. -/
import Derived.Test.YtabmfdedbpmfmaaGreatVXg
namespace Go.Proofs.YtabmfdedbpmfmaaGreat
open Go.RowKit Go.Shelf
open AllReadyIn renaming cons → qbtj, nil → qbtl
set_option linter.unusedVariables false
set_option maxHeartbeats 2000000
set_option maxRecDepth 1000000
attribute [local go_sem] Oper.semAt_some
theorem st8 {w:World} {Q:Nat} {u:QY} {W:World} {a:Nat} {c0 c2 c3 c4 c5 c6 c7:Value} {u0 u1 u6 u7 u8 aA aB aC aD aE aF aG aH aI aJ aK aL aM aN aO aP aQ aR aS aT aU aV aW aX aY aZ bA bB bC bD bE bF bG bH bI bJ bK bL bM bN bO bP bQ bR bS bT bU bV bW bX bY bZ cA cB cC cD cE cF cG cH cI cJ cK cL cM cN cO cP cQ cR cS cT cU cV cW cX cY cZ dA dB dC dD dE dF dG dH dI dJ dK dL dM dN dO dP dQ dR dS dT dU dV dW dX dY dZ eA eB eC eD eE eF eG eH eI eJ eK eL eM eN eO eP eQ eR eS eT eU eV eW eX eY eZ fA fB fC fD fE fF fG fH fI fJ fK fL fM fN fO fP fQ fR fS fT fU fV fW fX fY fZ gA gB gC gD gE gF gG gH gI gJ gK gL gM gN gO gP gQ gR gS gT gU gV gW gX gY gZ hA hB hC hD hF hG hH hI hJ hL hM hN hO hP hR hS hT hU hV hW hX hY hZ iA iB iC iD iE iF iG iH iI iJ iK iL iM iN iO iP iQ iR iS iT iU iV iW iX iY iZ jA jB jC jD jE jF jG jH jI jJ jK jL jM jN jO jP jQ jR jS jT jU jV jW jX jY jZ kA kB kC kD kE kF kG kH:Value} {K:Act→World→Prop} {Q0:Exit→Act→World→Prop} (hus:u.size≤64)
  (ha:a≤u.size) (hQ:∀ ch (a:Act) d v w,Q0 (.panic ch) (a.put d v) w→Q0 (.panic ch) a w) (D:DV w Q u a 0 0 c0 (.slice none 0 0) c2 c3 c4 c5 c6 c7 (.slice none 0 0) [] [] W)
  (hk_:∀ (u0 u1 u6 u7 u8 aA aB aC aD aE aF aG aH aI aJ aK aL aM aN aO aP aQ aR aS aT aU aV aW aX aY aZ bA bB bC bD bE bF bG bH bI bJ bK bL bM bN bO bP bQ bR bS bT bU bV bW bX bY bZ cA cB cC cD cE cF cG cH cI cJ cK cL cM cN cO cP cQ cR cS cT cU cV cW cX cY cZ dA dB dC dD dE dF dG dH dI dJ dK dL dM dN dO dP dQ dR dS dT dU dV dW dX dY dZ eA eB eC eD eE eF eG eH eI eJ eK eL eM eN eO eP eQ eR eS eT eU eV eW eX eY eZ fA fB fC fD fE fF fG fH fI fJ fK fL fM fN fO fP fQ fR fS fT fU fV fW fX fY fZ gA gB gC gD gE gF gG gH gI gJ gK gL gM gN gO gP gQ gR gS gT gU gV gW gX gY gZ hA hB hC hD hF hG hH hI hJ hL hM hN hO hP hR hS hT hU hV hW hX hY hZ iA iB iC iD iE iF iG iH iI iJ iK iL iM iN iO iP iQ iR iS iT iU iV iW iX iY iZ jA jB jC jD jE jF jG jH jI jJ jK jL jM jN jO jP jQ jR jS jT jU jV jW jX jY jZ kA kB kC kD kE kF kG kH:Value) (ao:Option Addr) (cv:Nat) (W':World),DV w Q u (a+qn 1 (u.data.toList.drop a)) 0 0 c0 (.slice ao 1 cv) c2 c3 c4 c5 c6 c7 (.slice none 0 0) (txsV [qp (seg u.data.toList a (a+qn 1 (u.data.toList.drop a)))]) [] W'→K ⟨#[u0,u1,.pointer (some ⟨w.heap.size,0,none⟩),.pointer (some ⟨w.heap.size+1,0,none⟩),.pointer (some ⟨Q,0,none⟩),.pointer (some ⟨Q+1,0,none⟩),u6,u7,u8,aA,aB,aC,aD,aE,aF,aG,aH,aI,aJ,aK,aL,aM,aN,aO,aP,aQ,aR,aS,aT,aU,aV,aW,aX,aY,aZ,bA,bB,bC,bD,bE,bF,bG,bH,bI,bJ,bK,bL,bM,bN,bO,bP,bQ,bR,bS,bT,bU,bV,bW,bX,bY,bZ,cA,cB,cC,cD,cE,cF,cG,cH,cI,cJ,cK,cL,cM,cN,cO,cP,cQ,cR,cS,cT,cU,cV,cW,cX,cY,cZ,dA,dB,dC,dD,dE,dF,dG,dH,dI,dJ,dK,dL,dM,dN,dO,dP,dQ,dR,dS,dT,dU,dV,dW,dX,dY,dZ,eA,eB,eC,eD,eE,eF,eG,eH,eI,eJ,eK,eL,eM,eN,eO,eP,eQ,eR,eS,eT,eU,eV,eW,eX,eY,eZ,fA,fB,fC,fD,fE,fF,fG,fH,fI,fJ,fK,fL,fM,fN,fO,fP,fQ,fR,fS,fT,fU,fV,fW,fX,fY,fZ,gA,gB,gC,gD,gE,gF,gG,gH,gI,gJ,gK,gL,gM,gN,gO,gP,gQ,gR,gS,gT,gU,gV,gW,gX,gY,gZ,hA,hB,hC,hD,hF,hG,hH,hI,hJ,hL,hM,hN,hO,hP,hR,hS,hT,hU,hV,hW,hX,hY,hZ,iA,iB,iC,iD,iE,iF,iG,iH,iI,iJ,iK,iL,iM,iN,iO,iP,iQ,iR,iS,iT,iU,iV,iW,iX,iY,iZ,jA,jB,jC,jD,jE,jF,jG,jH,jI,jJ,jK,jL,jM,jN,jO,jP,jQ,jR,jS,jT,jU,jV,jW,jX,jY,jZ,kA,kB,kC,kD,kE,kF,kG,kH],[]⟩ W')
  :
  Code.wp Tryz.prog (qbr 8 (Tryz.f25.body.getD .skip)) (Exit.then K Q0) ⟨#[u0,u1,.pointer (some ⟨w.heap.size,0,none⟩),.pointer (some ⟨w.heap.size+1,0,none⟩),.pointer (some ⟨Q,0,none⟩),.pointer (some ⟨Q+1,0,none⟩),u6,u7,u8,aA,aB,aC,aD,aE,aF,aG,aH,aI,aJ,aK,aL,aM,aN,aO,aP,aQ,aR,aS,aT,aU,aV,aW,aX,aY,aZ,bA,bB,bC,bD,bE,bF,bG,bH,bI,bJ,bK,bL,bM,bN,bO,bP,bQ,bR,bS,bT,bU,bV,bW,bX,bY,bZ,cA,cB,cC,cD,cE,cF,cG,cH,cI,cJ,cK,cL,cM,cN,cO,cP,cQ,cR,cS,cT,cU,cV,cW,cX,cY,cZ,dA,dB,dC,dD,dE,dF,dG,dH,dI,dJ,dK,dL,dM,dN,dO,dP,dQ,dR,dS,dT,dU,dV,dW,dX,dY,dZ,eA,eB,eC,eD,eE,eF,eG,eH,eI,eJ,eK,eL,eM,eN,eO,eP,eQ,eR,eS,eT,eU,eV,eW,eX,eY,eZ,fA,fB,fC,fD,fE,fF,fG,fH,fI,fJ,fK,fL,fM,fN,fO,fP,fQ,fR,fS,fT,fU,fV,fW,fX,fY,fZ,gA,gB,gC,gD,gE,gF,gG,gH,gI,gJ,gK,gL,gM,gN,gO,gP,gQ,gR,gS,gT,gU,gV,gW,gX,gY,gZ,hA,hB,hC,hD,hF,hG,hH,hI,hJ,hL,hM,hN,hO,hP,hR,hS,hT,hU,hV,hW,hX,hY,hZ,iA,iB,iC,iD,iE,iF,iG,iH,iI,iJ,iK,iL,iM,iN,iO,iP,iQ,iR,iS,iT,iU,iV,iW,iX,iY,iZ,jA,jB,jC,jD,jE,jF,jG,jH,jI,jJ,jK,jL,jM,jN,jO,jP,jQ,jR,jS,jT,jU,jV,jW,jX,jY,jZ,kA,kB,kC,kD,kE,kF,kG,kH],[]⟩ W:=by
 have HK:=qb hk_;clear hk_
 conv=>arg 2;whnf
 obtain⟨i0,hi,hz0,hz1,hz2⟩:=info_parts Tryz.info9;have DG:=fun W h=>qgr Q u a 0 0 W h ha hus;obtain⟨E,hE⟩:∃ E,E=a+qn 1 (u.data.toList.drop a):=⟨_,rfl⟩;rw[←hE]at DG HK;have DG:=qb DG;clear hE;have D0:=D.drewN 1
 change DV w Q u a 0 0 c0 (.slice none 0 0) c2 c3 c4 c5 c6 c7 (.slice none 0 0) (txsV []) [] W.drew at D0
 clear D;obtain⟨v0,v1,v2,v3,v4,v5,v6,v7,v8⟩:=D0.seen;refine(wpIn_wide (n:=5)).1 ?_;refine wpIn_region_any (by kernel_rfl) ?_
 change wpAnyIn _ _ _ _ _ _ _ _ _ (World.drew _)
 generalize W.drew=W0 at *;refine wpAnyIn_take (i:=0) (v:=?_) rfl rfl (by kernel_rfl) (by kernel_rfl) (by kernel_rfl) (fun _ _ _ h=>hQ _ _ _ _ _ h) ⟨Or.inl ⟨by rfl,?_⟩,fun _=>rfl⟩ ?_
 rotate_left
 ·intro w;go_simp
  try with_reducible rfl
 refine wpAnyIn_take (i:=2) (v:=?_) rfl rfl (by kernel_rfl) (by kernel_rfl) (by kernel_rfl) (fun _ _ _ h=>hQ _ _ _ _ _ h) ⟨Or.inl ⟨by rfl,?_⟩,fun _=>rfl⟩ ?_
 rotate_left
 ·intro w;go_simp
  try with_reducible rfl
 refine wpAnyIn_ready (rs:=[1,3]) (by kernel_rfl) (by simp) ?_
 refine qbtj rfl (fun K hK=>?_) ?_
 ·go_simp
  refine hK _ _ ?_;clear hK K;refine wpAnyIn_ready (rs:=[3]) (by kernel_rfl) (by simp) ?_
  refine qbtj rfl (fun K hK=>?_) ?_
  ·go_simp
   refine⟨trivial,?_⟩;refine(callsIn_wide.2 (DG.out _ D0.rd)).mono ?_;rintro r w3 ⟨rfl,h3,t3⟩;have D3:=D0.turn t3 h3;obtain⟨x0,x1,x2,x3,x4,x5,x6,x7,x8⟩:=D3.seen;have hq3:=D3.szQ;have hrel3:w3.ownsRow (Q+2) 9 1 (.slice none 0 0) 0 (txsV []):=(by have:=D3.rel;simpa[txsV] using this)
   refine hK _ _ ?_;clear hK K;refine wpAnyIn_ready (rs:=[4]) (by kernel_rfl) (by simp) ?_
   refine qbtj rfl (fun K hK=>?_) ?_
   ·go_simp
    refine hK _ _ ?_;clear hK K;refine wpAnyIn_ready (rs:=[5]) (by kernel_rfl) (by simp) ?_
    refine qbtj rfl (fun K hK=>?_) ?_
    ·refine qbb rfl _ _ 37 rfl (Q+2) 9 i0 (.string .empty) 1 16 Tryz.underlying37 hi hz0 hz1 hz2 rfl (by decide) (.slice none 0 0) 0 (txsV []) rfl (hrel3.alloc _) ⟨w3.heap.size,0,none⟩ 1 1 [.string (qd (qp (seg u.data.toList a E)))] rfl rfl (qbj _ _ _) (qcw _) (by unfold maxLen;omega) (by omega) (by simp;omega) ?_
     intro v4 w4 hown4 hgrow4 _;obtain⟨ao4,cv4,rfl⟩:=qgp hown4;rw[qgl]at hgrow4;have hv4:w4.heap[Q+1]? = _:=(hgrow4.block (Q+1) (by simp;omega) (fun e=>by have:=(qll hrel3 (Q+1) e.symm).1;omega)).trans (D3.alloc _).ver
     have y1:=qc 1 hv4 rfl;have yf:=qf 1 hv4;refine hK _ _ ?_;clear hK K;refine wpAnyIn_take (i:=6) (v:=?_) rfl rfl (by kernel_rfl) (by kernel_rfl) (by kernel_rfl) (fun _ _ _ h=>hQ _ _ _ _ _ h) ⟨Or.inl ⟨by rfl,?_⟩,fun _=>rfl⟩ ?_
     rotate_left
     ·intro w;go_simp
      try with_reducible rfl
     refine wpAnyIn_ready (rs:=[7]) (by kernel_rfl) (by simp) ?_
     refine qbtj rfl (fun K hK=>?_) ?_
     ·go_simp
      refine hK _ _ ?_;clear hK K;refine wpAnyIn_done (by kernel_rfl) ?_ _
      have hown5:w4.ownsRow (Q+2) 9 1 (.slice ao4 1 cv4) 1 (txsV [qp (seg u.data.toList a E)]):=by simpa[txsV] using hown4
      have D5:=(D3.alloc (.cells #[.string (qd (qp (seg u.data.toList a E)))] 9)).setRel (S:=[]) (S':=[qp (seg u.data.toList a E)]) rfl (by simpa[txsV] using hgrow4) hown5 rfl rfl rfl
      exact HK.out _ _ _ _ _ _ _ _ _ _ _ _ _ _ _ _ _ _ _ _ _ _ _ _ _ _ _ _ _ _ _ _ _ _ _ _ _ _ _ _ _ _ _ _ _ _ _ _ _ _ _ _ _ _ _ _ _ _ _ _ _ _ _ _ _ _ _ _ _ _ _ _ _ _ _ _ _ _ _ _ _ _ _ _ _ _ _ _ _ _ _ _ _ _ _ _ _ _ _ _ _ _ _ _ _ _ _ _ _ _ _ _ _ _ _ _ _ _ _ _ _ _ _ _ _ _ _ _ _ _ _ _ _ _ _ _ _ _ _ _ _ _ _ _ _ _ _ _ _ _ _ _ _ _ _ _ _ _ _ _ _ _ _ _ _ _ _ _ _ _ _ _ _ _ _ _ _ _ _ _ _ _ _ _ _ _ _ _ _ _ _ _ _ _ _ _ _ _ _ _ _ _ _ _ _ _ _ _ _ _ _ _ _ _ _ _ _ _ _ _ _ _ _ _ _ _ _ _ _ _ _ _ _ _ _ _ _ _ _ _ _ _ _ _ _ _ _ _ _ _ _ _ _ _ _ _ _ _ _ _ _ _ _ _ _ _ _ _ _ _ ao4 cv4 _ D5
     exact qbtl
    exact qbtl
   exact qbtl
  exact qbtl
 refine qbtj rfl (fun K hK=>?_) ?_
 ·go_simp
  refine⟨trivial,?_⟩;refine(callsIn_wide.2 (DG.out _ D0.rd)).mono ?_;rintro r w3 ⟨rfl,h3,t3⟩;have D3:=D0.turn t3 h3;obtain⟨x0,x1,x2,x3,x4,x5,x6,x7,x8⟩:=D3.seen;have hq3:=D3.szQ;have hrel3:w3.ownsRow (Q+2) 9 1 (.slice none 0 0) 0 (txsV []):=(by have:=D3.rel;simpa[txsV] using this)
  refine hK _ _ ?_;clear hK K;refine wpAnyIn_ready (rs:=[1,4]) (by kernel_rfl) (by simp) ?_
  refine qbtj rfl (fun K hK=>?_) ?_
  ·go_simp
   refine hK _ _ ?_;clear hK K;refine wpAnyIn_ready (rs:=[4]) (by kernel_rfl) (by simp) ?_
   refine qbtj rfl (fun K hK=>?_) ?_
   ·go_simp
    refine hK _ _ ?_;clear hK K;refine wpAnyIn_ready (rs:=[5]) (by kernel_rfl) (by simp) ?_
    refine qbtj rfl (fun K hK=>?_) ?_
    ·refine qbb rfl _ _ 37 rfl (Q+2) 9 i0 (.string .empty) 1 16 Tryz.underlying37 hi hz0 hz1 hz2 rfl (by decide) (.slice none 0 0) 0 (txsV []) rfl (hrel3.alloc _) ⟨w3.heap.size,0,none⟩ 1 1 [.string (qd (qp (seg u.data.toList a E)))] rfl rfl (qbj _ _ _) (qcw _) (by unfold maxLen;omega) (by omega) (by simp;omega) ?_
     intro v4 w4 hown4 hgrow4 _;obtain⟨ao4,cv4,rfl⟩:=qgp hown4;rw[qgl]at hgrow4;have hv4:w4.heap[Q+1]? = _:=(hgrow4.block (Q+1) (by simp;omega) (fun e=>by have:=(qll hrel3 (Q+1) e.symm).1;omega)).trans (D3.alloc _).ver
     have y1:=qc 1 hv4 rfl;have yf:=qf 1 hv4;refine hK _ _ ?_;clear hK K;refine wpAnyIn_take (i:=6) (v:=?_) rfl rfl (by kernel_rfl) (by kernel_rfl) (by kernel_rfl) (fun _ _ _ h=>hQ _ _ _ _ _ h) ⟨Or.inl ⟨by rfl,?_⟩,fun _=>rfl⟩ ?_
     rotate_left
     ·intro w;go_simp
      try with_reducible rfl
     refine wpAnyIn_ready (rs:=[7]) (by kernel_rfl) (by simp) ?_
     refine qbtj rfl (fun K hK=>?_) ?_
     ·go_simp
      refine hK _ _ ?_;clear hK K;refine wpAnyIn_done (by kernel_rfl) ?_ _
      have hown5:w4.ownsRow (Q+2) 9 1 (.slice ao4 1 cv4) 1 (txsV [qp (seg u.data.toList a E)]):=by simpa[txsV] using hown4
      have D5:=(D3.alloc (.cells #[.string (qd (qp (seg u.data.toList a E)))] 9)).setRel (S:=[]) (S':=[qp (seg u.data.toList a E)]) rfl (by simpa[txsV] using hgrow4) hown5 rfl rfl rfl
      exact HK.out _ _ _ _ _ _ _ _ _ _ _ _ _ _ _ _ _ _ _ _ _ _ _ _ _ _ _ _ _ _ _ _ _ _ _ _ _ _ _ _ _ _ _ _ _ _ _ _ _ _ _ _ _ _ _ _ _ _ _ _ _ _ _ _ _ _ _ _ _ _ _ _ _ _ _ _ _ _ _ _ _ _ _ _ _ _ _ _ _ _ _ _ _ _ _ _ _ _ _ _ _ _ _ _ _ _ _ _ _ _ _ _ _ _ _ _ _ _ _ _ _ _ _ _ _ _ _ _ _ _ _ _ _ _ _ _ _ _ _ _ _ _ _ _ _ _ _ _ _ _ _ _ _ _ _ _ _ _ _ _ _ _ _ _ _ _ _ _ _ _ _ _ _ _ _ _ _ _ _ _ _ _ _ _ _ _ _ _ _ _ _ _ _ _ _ _ _ _ _ _ _ _ _ _ _ _ _ _ _ _ _ _ _ _ _ _ _ _ _ _ _ _ _ _ _ _ _ _ _ _ _ _ _ _ _ _ _ _ _ _ _ _ _ _ _ _ _ _ _ _ _ _ _ _ _ _ _ _ _ _ _ _ _ _ _ _ _ _ _ _ ao4 cv4 _ D5
     exact qbtl
    exact qbtl
   exact qbtl
  refine qbtj rfl (fun K hK=>?_) ?_
  ·go_simp
   refine hK _ _ ?_;clear hK K;refine wpAnyIn_ready (rs:=[1]) (by kernel_rfl) (by simp) ?_
   refine qbtj rfl (fun K hK=>?_) ?_
   ·go_simp
    refine hK _ _ ?_;clear hK K;refine wpAnyIn_ready (rs:=[5]) (by kernel_rfl) (by simp) ?_
    refine qbtj rfl (fun K hK=>?_) ?_
    ·refine qbb rfl _ _ 37 rfl (Q+2) 9 i0 (.string .empty) 1 16 Tryz.underlying37 hi hz0 hz1 hz2 rfl (by decide) (.slice none 0 0) 0 (txsV []) rfl (hrel3.alloc _) ⟨w3.heap.size,0,none⟩ 1 1 [.string (qd (qp (seg u.data.toList a E)))] rfl rfl (qbj _ _ _) (qcw _) (by unfold maxLen;omega) (by omega) (by simp;omega) ?_
     intro v4 w4 hown4 hgrow4 _;obtain⟨ao4,cv4,rfl⟩:=qgp hown4;rw[qgl]at hgrow4;have hv4:w4.heap[Q+1]? = _:=(hgrow4.block (Q+1) (by simp;omega) (fun e=>by have:=(qll hrel3 (Q+1) e.symm).1;omega)).trans (D3.alloc _).ver
     have y1:=qc 1 hv4 rfl;have yf:=qf 1 hv4;refine hK _ _ ?_;clear hK K;refine wpAnyIn_take (i:=6) (v:=?_) rfl rfl (by kernel_rfl) (by kernel_rfl) (by kernel_rfl) (fun _ _ _ h=>hQ _ _ _ _ _ h) ⟨Or.inl ⟨by rfl,?_⟩,fun _=>rfl⟩ ?_
     rotate_left
     ·intro w;go_simp
      try with_reducible rfl
     refine wpAnyIn_ready (rs:=[7]) (by kernel_rfl) (by simp) ?_
     refine qbtj rfl (fun K hK=>?_) ?_
     ·go_simp
      refine hK _ _ ?_;clear hK K;refine wpAnyIn_done (by kernel_rfl) ?_ _
      have hown5:w4.ownsRow (Q+2) 9 1 (.slice ao4 1 cv4) 1 (txsV [qp (seg u.data.toList a E)]):=by simpa[txsV] using hown4
      have D5:=(D3.alloc (.cells #[.string (qd (qp (seg u.data.toList a E)))] 9)).setRel (S:=[]) (S':=[qp (seg u.data.toList a E)]) rfl (by simpa[txsV] using hgrow4) hown5 rfl rfl rfl
      exact HK.out _ _ _ _ _ _ _ _ _ _ _ _ _ _ _ _ _ _ _ _ _ _ _ _ _ _ _ _ _ _ _ _ _ _ _ _ _ _ _ _ _ _ _ _ _ _ _ _ _ _ _ _ _ _ _ _ _ _ _ _ _ _ _ _ _ _ _ _ _ _ _ _ _ _ _ _ _ _ _ _ _ _ _ _ _ _ _ _ _ _ _ _ _ _ _ _ _ _ _ _ _ _ _ _ _ _ _ _ _ _ _ _ _ _ _ _ _ _ _ _ _ _ _ _ _ _ _ _ _ _ _ _ _ _ _ _ _ _ _ _ _ _ _ _ _ _ _ _ _ _ _ _ _ _ _ _ _ _ _ _ _ _ _ _ _ _ _ _ _ _ _ _ _ _ _ _ _ _ _ _ _ _ _ _ _ _ _ _ _ _ _ _ _ _ _ _ _ _ _ _ _ _ _ _ _ _ _ _ _ _ _ _ _ _ _ _ _ _ _ _ _ _ _ _ _ _ _ _ _ _ _ _ _ _ _ _ _ _ _ _ _ _ _ _ _ _ _ _ _ _ _ _ _ _ _ _ _ _ _ _ _ _ _ _ _ _ _ _ _ _ ao4 cv4 _ D5
     exact qbtl
    exact qbtl
   exact qbtl
  exact qbtl
 exact qbtl
end Go.Proofs.YtabmfdedbpmfmaaGreat
