/- Walks: the document's Parse, the pre-release. -/
import Derived.Test.YtabmfdedbpmfmaaGreatUXn
namespace Go.Proofs.YtabmfdedbpmfmaaGreat
open Go.RowKit Go.Shelf
open AllReadyIn renaming cons → qbsq, nil → qbss
set_option linter.unusedVariables false
set_option maxHeartbeats 2000000
set_option maxRecDepth 1000000
attribute [local go_sem] Oper.semAt_some
theorem st8 {w:World} {Q:Nat} {u:QY} {W:World} {a:Nat} {c0 c2 c3 c4 c5 c6 c7:Value} {u0 u1 u6 u7 u8 aA aB aC aD aE aF aG aH aI aJ aK aL aM aN aO aP aQ aR aS aT aU aV aW aX aY aZ bA bB bC bD bE bF bG bH bI bJ bK bL bM bN bO bP bQ bR bS bT bU bV bW bX bY bZ cA cB cC cD cE cF cG cH cI cJ cK cL cM cN cO cP cQ cR cS cT cU cV cW cX cY cZ dA dB dC dD dE dF dG dH dI dJ dK dL dM dN dO dP dQ dR dS dT dU dV dW dX dY dZ eA eB eC eD eE eF eG eH eI eJ eK eL eM eN eO eP eQ eR eS eT eU eV eW eX eY eZ fA fB fC fD fE fF fG fH fI fJ fK fL fM fN fO fP fQ fR fS fT fU fV fW fX fY fZ gA gB gC gD gE gF gG gH gI gJ gK gL gM gN gO gP gQ gR gS gT gU gV gW gX gY gZ hA hB hC hD hF hG hH hI hJ hL hM hN hO hP hR hS hT hU hV hW hX hY hZ iA iB iC iD iE iF iG iH iI iJ iK iL iM iN iO iP iQ iR iS iT iU iV iW iX iY iZ jA jB jC jD jE jF jG jH jI jJ jK jL jM jN jO jP jQ jR jS jT jU jV jW jX jY jZ kA kB kC kD kE kF kG kH:Value} {K:Act→World→Prop} {Q0:Exit→Act→World→Prop} (hus:u.size≤64)
  (ha:a≤u.size) (hQ:∀ ch (a:Act) d v w,Q0 (.panic ch) (a.put d v) w→Q0 (.panic ch) a w) (D:DV w Q u a 0 0 c0 (.slice none 0 0) c2 c3 c4 c5 c6 c7 (.slice none 0 0) [] [] W)
  (hk_:∀ (u0 u1 u6 u7 u8 aA aB aC aD aE aF aG aH aI aJ aK aL aM aN aO aP aQ aR aS aT aU aV aW aX aY aZ bA bB bC bD bE bF bG bH bI bJ bK bL bM bN bO bP bQ bR bS bT bU bV bW bX bY bZ cA cB cC cD cE cF cG cH cI cJ cK cL cM cN cO cP cQ cR cS cT cU cV cW cX cY cZ dA dB dC dD dE dF dG dH dI dJ dK dL dM dN dO dP dQ dR dS dT dU dV dW dX dY dZ eA eB eC eD eE eF eG eH eI eJ eK eL eM eN eO eP eQ eR eS eT eU eV eW eX eY eZ fA fB fC fD fE fF fG fH fI fJ fK fL fM fN fO fP fQ fR fS fT fU fV fW fX fY fZ gA gB gC gD gE gF gG gH gI gJ gK gL gM gN gO gP gQ gR gS gT gU gV gW gX gY gZ hA hB hC hD hF hG hH hI hJ hL hM hN hO hP hR hS hT hU hV hW hX hY hZ iA iB iC iD iE iF iG iH iI iJ iK iL iM iN iO iP iQ iR iS iT iU iV iW iX iY iZ jA jB jC jD jE jF jG jH jI jJ jK jL jM jN jO jP jQ jR jS jT jU jV jW jX jY jZ kA kB kC kD kE kF kG kH:Value) (ao:Option Addr) (cv:Nat) (W':World),DV w Q u (a+qp 1 (u.data.toList.drop a)) 0 0 c0 (.slice ao 1 cv) c2 c3 c4 c5 c6 c7 (.slice none 0 0) (txsV [qr (seg u.data.toList a (a+qp 1 (u.data.toList.drop a)))]) [] W'→K ⟨#[u0,u1,.pointer (some ⟨w.heap.size,0,none⟩),.pointer (some ⟨w.heap.size+1,0,none⟩),.pointer (some ⟨Q,0,none⟩),.pointer (some ⟨Q+1,0,none⟩),u6,u7,u8,aA,aB,aC,aD,aE,aF,aG,aH,aI,aJ,aK,aL,aM,aN,aO,aP,aQ,aR,aS,aT,aU,aV,aW,aX,aY,aZ,bA,bB,bC,bD,bE,bF,bG,bH,bI,bJ,bK,bL,bM,bN,bO,bP,bQ,bR,bS,bT,bU,bV,bW,bX,bY,bZ,cA,cB,cC,cD,cE,cF,cG,cH,cI,cJ,cK,cL,cM,cN,cO,cP,cQ,cR,cS,cT,cU,cV,cW,cX,cY,cZ,dA,dB,dC,dD,dE,dF,dG,dH,dI,dJ,dK,dL,dM,dN,dO,dP,dQ,dR,dS,dT,dU,dV,dW,dX,dY,dZ,eA,eB,eC,eD,eE,eF,eG,eH,eI,eJ,eK,eL,eM,eN,eO,eP,eQ,eR,eS,eT,eU,eV,eW,eX,eY,eZ,fA,fB,fC,fD,fE,fF,fG,fH,fI,fJ,fK,fL,fM,fN,fO,fP,fQ,fR,fS,fT,fU,fV,fW,fX,fY,fZ,gA,gB,gC,gD,gE,gF,gG,gH,gI,gJ,gK,gL,gM,gN,gO,gP,gQ,gR,gS,gT,gU,gV,gW,gX,gY,gZ,hA,hB,hC,hD,hF,hG,hH,hI,hJ,hL,hM,hN,hO,hP,hR,hS,hT,hU,hV,hW,hX,hY,hZ,iA,iB,iC,iD,iE,iF,iG,iH,iI,iJ,iK,iL,iM,iN,iO,iP,iQ,iR,iS,iT,iU,iV,iW,iX,iY,iZ,jA,jB,jC,jD,jE,jF,jG,jH,jI,jJ,jK,jL,jM,jN,jO,jP,jQ,jR,jS,jT,jU,jV,jW,jX,jY,jZ,kA,kB,kC,kD,kE,kF,kG,kH],[]⟩ W')
  :
  Code.wp Tryz.prog (qbs 8 (Tryz.f25.body.getD .skip)) (Exit.then K Q0) ⟨#[u0,u1,.pointer (some ⟨w.heap.size,0,none⟩),.pointer (some ⟨w.heap.size+1,0,none⟩),.pointer (some ⟨Q,0,none⟩),.pointer (some ⟨Q+1,0,none⟩),u6,u7,u8,aA,aB,aC,aD,aE,aF,aG,aH,aI,aJ,aK,aL,aM,aN,aO,aP,aQ,aR,aS,aT,aU,aV,aW,aX,aY,aZ,bA,bB,bC,bD,bE,bF,bG,bH,bI,bJ,bK,bL,bM,bN,bO,bP,bQ,bR,bS,bT,bU,bV,bW,bX,bY,bZ,cA,cB,cC,cD,cE,cF,cG,cH,cI,cJ,cK,cL,cM,cN,cO,cP,cQ,cR,cS,cT,cU,cV,cW,cX,cY,cZ,dA,dB,dC,dD,dE,dF,dG,dH,dI,dJ,dK,dL,dM,dN,dO,dP,dQ,dR,dS,dT,dU,dV,dW,dX,dY,dZ,eA,eB,eC,eD,eE,eF,eG,eH,eI,eJ,eK,eL,eM,eN,eO,eP,eQ,eR,eS,eT,eU,eV,eW,eX,eY,eZ,fA,fB,fC,fD,fE,fF,fG,fH,fI,fJ,fK,fL,fM,fN,fO,fP,fQ,fR,fS,fT,fU,fV,fW,fX,fY,fZ,gA,gB,gC,gD,gE,gF,gG,gH,gI,gJ,gK,gL,gM,gN,gO,gP,gQ,gR,gS,gT,gU,gV,gW,gX,gY,gZ,hA,hB,hC,hD,hF,hG,hH,hI,hJ,hL,hM,hN,hO,hP,hR,hS,hT,hU,hV,hW,hX,hY,hZ,iA,iB,iC,iD,iE,iF,iG,iH,iI,iJ,iK,iL,iM,iN,iO,iP,iQ,iR,iS,iT,iU,iV,iW,iX,iY,iZ,jA,jB,jC,jD,jE,jF,jG,jH,jI,jJ,jK,jL,jM,jN,jO,jP,jQ,jR,jS,jT,jU,jV,jW,jX,jY,jZ,kA,kB,kC,kD,kE,kF,kG,kH],[]⟩ W:=by
 have HK:=qb hk_;clear hk_
 conv=>arg 2;whnf
 obtain⟨i0,hi,hz0,hz1,hz2⟩:=info_parts Tryz.info9;have DG:=fun W h=>qgr Q u a 0 0 W h ha hus;obtain⟨E,hE⟩:∃ E,E=a+qp 1 (u.data.toList.drop a):=⟨_,rfl⟩;rw[←hE]at DG HK;have DG:=qb DG;clear hE;have D0:=D.drewN 1
 change DV w Q u a 0 0 c0 (.slice none 0 0) c2 c3 c4 c5 c6 c7 (.slice none 0 0) (txsV []) [] W.drew at D0
 clear D;obtain⟨v0,v1,v2,v3,v4,v5,v6,v7,v8⟩:=D0.seen;refine(wpIn_wide (n:=5)).1 ?_;refine wpIn_region_any (by kernel_rfl) ?_
 change wpAnyIn _ _ _ _ _ _ _ _ _ (World.drew _)
 generalize W.drew=W0 at *;refine wpAnyIn_take (i:=0) (v:=?_) rfl rfl (by kernel_rfl) (by kernel_rfl) (by kernel_rfl) (fun _ _ _ h=>hQ _ _ _ _ _ h) ⟨Or.inl ⟨by rfl,?_⟩,fun _=>rfl⟩ ?_
 rotate_left
 ·intro w;go_simp
  try with_reducible rfl
 refine wpAnyIn_take (i:=2) (v:=?_) rfl rfl (by kernel_rfl) (by kernel_rfl) (by kernel_rfl) (fun _ _ _ h=>hQ _ _ _ _ _ h) ⟨Or.inl ⟨by rfl,?_⟩,fun _=>rfl⟩ ?_
 rotate_left
 ·intro w;go_simp
  try with_reducible rfl
 refine wpAnyIn_ready (rs:=[1,3]) (by kernel_rfl) (by simp) ?_
 refine qbsq rfl (fun K hK=>?_) ?_
 ·go_simp
  refine hK _ _ ?_;clear hK K;refine wpAnyIn_ready (rs:=[3]) (by kernel_rfl) (by simp) ?_
  refine qbsq rfl (fun K hK=>?_) ?_
  ·go_simp
   refine⟨trivial,?_⟩;refine(callsIn_wide.2 (DG.out _ D0.rd)).mono ?_;rintro r w3 ⟨rfl,h3,t3⟩;have D3:=D0.turn t3 h3;obtain⟨x0,x1,x2,x3,x4,x5,x6,x7,x8⟩:=D3.seen;have hq3:=D3.szQ;have hrel3:w3.ownsRow (Q+2) 9 1 (.slice none 0 0) 0 (txsV []):=(by have:=D3.rel;simpa[txsV] using this)
   refine hK _ _ ?_;clear hK K;refine wpAnyIn_ready (rs:=[4]) (by kernel_rfl) (by simp) ?_
   refine qbsq rfl (fun K hK=>?_) ?_
   ·go_simp
    refine hK _ _ ?_;clear hK K;refine wpAnyIn_ready (rs:=[5]) (by kernel_rfl) (by simp) ?_
    refine qbsq rfl (fun K hK=>?_) ?_
    ·refine qbb rfl _ _ 37 rfl (Q+2) 9 i0 (.string .empty) 1 16 Tryz.underlying37 hi hz0 hz1 hz2 rfl (by decide) (.slice none 0 0) 0 (txsV []) rfl (hrel3.alloc _) ⟨w3.heap.size,0,none⟩ 1 1 [.string (qd (qr (seg u.data.toList a E)))] rfl rfl (qbj _ _ _) (qcv _) (by unfold maxLen;omega) (by omega) (by simp;omega) ?_
     intro v4 w4 hown4 hgrow4 _;obtain⟨ao4,cv4,rfl⟩:=qgs hown4;rw[qgq]at hgrow4;have hv4:w4.heap[Q+1]? = _:=(hgrow4.block (Q+1) (by simp;omega) (fun e=>by have:=(qkz hrel3 (Q+1) e.symm).1;omega)).trans (D3.alloc _).ver
     have y1:=qc 1 hv4 rfl;have yf:=qf 1 hv4;refine hK _ _ ?_;clear hK K;refine wpAnyIn_take (i:=6) (v:=?_) rfl rfl (by kernel_rfl) (by kernel_rfl) (by kernel_rfl) (fun _ _ _ h=>hQ _ _ _ _ _ h) ⟨Or.inl ⟨by rfl,?_⟩,fun _=>rfl⟩ ?_
     rotate_left
     ·intro w;go_simp
      try with_reducible rfl
     refine wpAnyIn_ready (rs:=[7]) (by kernel_rfl) (by simp) ?_
     refine qbsq rfl (fun K hK=>?_) ?_
     ·go_simp
      refine hK _ _ ?_;clear hK K;refine wpAnyIn_done (by kernel_rfl) ?_ _
      have hown5:w4.ownsRow (Q+2) 9 1 (.slice ao4 1 cv4) 1 (txsV [qr (seg u.data.toList a E)]):=by simpa[txsV] using hown4
      have D5:=(D3.alloc (.cells #[.string (qd (qr (seg u.data.toList a E)))] 9)).setRel (S:=[]) (S':=[qr (seg u.data.toList a E)]) rfl (by simpa[txsV] using hgrow4) hown5 rfl rfl rfl
      exact HK.out _ _ _ _ _ _ _ _ _ _ _ _ _ _ _ _ _ _ _ _ _ _ _ _ _ _ _ _ _ _ _ _ _ _ _ _ _ _ _ _ _ _ _ _ _ _ _ _ _ _ _ _ _ _ _ _ _ _ _ _ _ _ _ _ _ _ _ _ _ _ _ _ _ _ _ _ _ _ _ _ _ _ _ _ _ _ _ _ _ _ _ _ _ _ _ _ _ _ _ _ _ _ _ _ _ _ _ _ _ _ _ _ _ _ _ _ _ _ _ _ _ _ _ _ _ _ _ _ _ _ _ _ _ _ _ _ _ _ _ _ _ _ _ _ _ _ _ _ _ _ _ _ _ _ _ _ _ _ _ _ _ _ _ _ _ _ _ _ _ _ _ _ _ _ _ _ _ _ _ _ _ _ _ _ _ _ _ _ _ _ _ _ _ _ _ _ _ _ _ _ _ _ _ _ _ _ _ _ _ _ _ _ _ _ _ _ _ _ _ _ _ _ _ _ _ _ _ _ _ _ _ _ _ _ _ _ _ _ _ _ _ _ _ _ _ _ _ _ _ _ _ _ _ _ _ _ _ _ _ _ _ _ _ _ _ _ _ _ _ _ ao4 cv4 _ D5
     exact qbss
    exact qbss
   exact qbss
  exact qbss
 refine qbsq rfl (fun K hK=>?_) ?_
 ·go_simp
  refine⟨trivial,?_⟩;refine(callsIn_wide.2 (DG.out _ D0.rd)).mono ?_;rintro r w3 ⟨rfl,h3,t3⟩;have D3:=D0.turn t3 h3;obtain⟨x0,x1,x2,x3,x4,x5,x6,x7,x8⟩:=D3.seen;have hq3:=D3.szQ;have hrel3:w3.ownsRow (Q+2) 9 1 (.slice none 0 0) 0 (txsV []):=(by have:=D3.rel;simpa[txsV] using this)
  refine hK _ _ ?_;clear hK K;refine wpAnyIn_ready (rs:=[1,4]) (by kernel_rfl) (by simp) ?_
  refine qbsq rfl (fun K hK=>?_) ?_
  ·go_simp
   refine hK _ _ ?_;clear hK K;refine wpAnyIn_ready (rs:=[4]) (by kernel_rfl) (by simp) ?_
   refine qbsq rfl (fun K hK=>?_) ?_
   ·go_simp
    refine hK _ _ ?_;clear hK K;refine wpAnyIn_ready (rs:=[5]) (by kernel_rfl) (by simp) ?_
    refine qbsq rfl (fun K hK=>?_) ?_
    ·refine qbb rfl _ _ 37 rfl (Q+2) 9 i0 (.string .empty) 1 16 Tryz.underlying37 hi hz0 hz1 hz2 rfl (by decide) (.slice none 0 0) 0 (txsV []) rfl (hrel3.alloc _) ⟨w3.heap.size,0,none⟩ 1 1 [.string (qd (qr (seg u.data.toList a E)))] rfl rfl (qbj _ _ _) (qcv _) (by unfold maxLen;omega) (by omega) (by simp;omega) ?_
     intro v4 w4 hown4 hgrow4 _;obtain⟨ao4,cv4,rfl⟩:=qgs hown4;rw[qgq]at hgrow4;have hv4:w4.heap[Q+1]? = _:=(hgrow4.block (Q+1) (by simp;omega) (fun e=>by have:=(qkz hrel3 (Q+1) e.symm).1;omega)).trans (D3.alloc _).ver
     have y1:=qc 1 hv4 rfl;have yf:=qf 1 hv4;refine hK _ _ ?_;clear hK K;refine wpAnyIn_take (i:=6) (v:=?_) rfl rfl (by kernel_rfl) (by kernel_rfl) (by kernel_rfl) (fun _ _ _ h=>hQ _ _ _ _ _ h) ⟨Or.inl ⟨by rfl,?_⟩,fun _=>rfl⟩ ?_
     rotate_left
     ·intro w;go_simp
      try with_reducible rfl
     refine wpAnyIn_ready (rs:=[7]) (by kernel_rfl) (by simp) ?_
     refine qbsq rfl (fun K hK=>?_) ?_
     ·go_simp
      refine hK _ _ ?_;clear hK K;refine wpAnyIn_done (by kernel_rfl) ?_ _
      have hown5:w4.ownsRow (Q+2) 9 1 (.slice ao4 1 cv4) 1 (txsV [qr (seg u.data.toList a E)]):=by simpa[txsV] using hown4
      have D5:=(D3.alloc (.cells #[.string (qd (qr (seg u.data.toList a E)))] 9)).setRel (S:=[]) (S':=[qr (seg u.data.toList a E)]) rfl (by simpa[txsV] using hgrow4) hown5 rfl rfl rfl
      exact HK.out _ _ _ _ _ _ _ _ _ _ _ _ _ _ _ _ _ _ _ _ _ _ _ _ _ _ _ _ _ _ _ _ _ _ _ _ _ _ _ _ _ _ _ _ _ _ _ _ _ _ _ _ _ _ _ _ _ _ _ _ _ _ _ _ _ _ _ _ _ _ _ _ _ _ _ _ _ _ _ _ _ _ _ _ _ _ _ _ _ _ _ _ _ _ _ _ _ _ _ _ _ _ _ _ _ _ _ _ _ _ _ _ _ _ _ _ _ _ _ _ _ _ _ _ _ _ _ _ _ _ _ _ _ _ _ _ _ _ _ _ _ _ _ _ _ _ _ _ _ _ _ _ _ _ _ _ _ _ _ _ _ _ _ _ _ _ _ _ _ _ _ _ _ _ _ _ _ _ _ _ _ _ _ _ _ _ _ _ _ _ _ _ _ _ _ _ _ _ _ _ _ _ _ _ _ _ _ _ _ _ _ _ _ _ _ _ _ _ _ _ _ _ _ _ _ _ _ _ _ _ _ _ _ _ _ _ _ _ _ _ _ _ _ _ _ _ _ _ _ _ _ _ _ _ _ _ _ _ _ _ _ _ _ _ _ _ _ _ _ _ ao4 cv4 _ D5
     exact qbss
    exact qbss
   exact qbss
  refine qbsq rfl (fun K hK=>?_) ?_
  ·go_simp
   refine hK _ _ ?_;clear hK K;refine wpAnyIn_ready (rs:=[1]) (by kernel_rfl) (by simp) ?_
   refine qbsq rfl (fun K hK=>?_) ?_
   ·go_simp
    refine hK _ _ ?_;clear hK K;refine wpAnyIn_ready (rs:=[5]) (by kernel_rfl) (by simp) ?_
    refine qbsq rfl (fun K hK=>?_) ?_
    ·refine qbb rfl _ _ 37 rfl (Q+2) 9 i0 (.string .empty) 1 16 Tryz.underlying37 hi hz0 hz1 hz2 rfl (by decide) (.slice none 0 0) 0 (txsV []) rfl (hrel3.alloc _) ⟨w3.heap.size,0,none⟩ 1 1 [.string (qd (qr (seg u.data.toList a E)))] rfl rfl (qbj _ _ _) (qcv _) (by unfold maxLen;omega) (by omega) (by simp;omega) ?_
     intro v4 w4 hown4 hgrow4 _;obtain⟨ao4,cv4,rfl⟩:=qgs hown4;rw[qgq]at hgrow4;have hv4:w4.heap[Q+1]? = _:=(hgrow4.block (Q+1) (by simp;omega) (fun e=>by have:=(qkz hrel3 (Q+1) e.symm).1;omega)).trans (D3.alloc _).ver
     have y1:=qc 1 hv4 rfl;have yf:=qf 1 hv4;refine hK _ _ ?_;clear hK K;refine wpAnyIn_take (i:=6) (v:=?_) rfl rfl (by kernel_rfl) (by kernel_rfl) (by kernel_rfl) (fun _ _ _ h=>hQ _ _ _ _ _ h) ⟨Or.inl ⟨by rfl,?_⟩,fun _=>rfl⟩ ?_
     rotate_left
     ·intro w;go_simp
      try with_reducible rfl
     refine wpAnyIn_ready (rs:=[7]) (by kernel_rfl) (by simp) ?_
     refine qbsq rfl (fun K hK=>?_) ?_
     ·go_simp
      refine hK _ _ ?_;clear hK K;refine wpAnyIn_done (by kernel_rfl) ?_ _
      have hown5:w4.ownsRow (Q+2) 9 1 (.slice ao4 1 cv4) 1 (txsV [qr (seg u.data.toList a E)]):=by simpa[txsV] using hown4
      have D5:=(D3.alloc (.cells #[.string (qd (qr (seg u.data.toList a E)))] 9)).setRel (S:=[]) (S':=[qr (seg u.data.toList a E)]) rfl (by simpa[txsV] using hgrow4) hown5 rfl rfl rfl
      exact HK.out _ _ _ _ _ _ _ _ _ _ _ _ _ _ _ _ _ _ _ _ _ _ _ _ _ _ _ _ _ _ _ _ _ _ _ _ _ _ _ _ _ _ _ _ _ _ _ _ _ _ _ _ _ _ _ _ _ _ _ _ _ _ _ _ _ _ _ _ _ _ _ _ _ _ _ _ _ _ _ _ _ _ _ _ _ _ _ _ _ _ _ _ _ _ _ _ _ _ _ _ _ _ _ _ _ _ _ _ _ _ _ _ _ _ _ _ _ _ _ _ _ _ _ _ _ _ _ _ _ _ _ _ _ _ _ _ _ _ _ _ _ _ _ _ _ _ _ _ _ _ _ _ _ _ _ _ _ _ _ _ _ _ _ _ _ _ _ _ _ _ _ _ _ _ _ _ _ _ _ _ _ _ _ _ _ _ _ _ _ _ _ _ _ _ _ _ _ _ _ _ _ _ _ _ _ _ _ _ _ _ _ _ _ _ _ _ _ _ _ _ _ _ _ _ _ _ _ _ _ _ _ _ _ _ _ _ _ _ _ _ _ _ _ _ _ _ _ _ _ _ _ _ _ _ _ _ _ _ _ _ _ _ _ _ _ _ _ _ _ _ ao4 cv4 _ D5
     exact qbss
    exact qbss
   exact qbss
  exact qbss
 exact qbss
open List renaming length_append → qbtf
set_option maxHeartbeats 8000000
set_option maxRecDepth 1000000
attribute [local go_sem] Oper.semAt_some
theorem st9 {w:World} {Q:Nat} {u:QY} {W:World} {a:Nat} {ao:Option Addr} {cv:Nat} {c0 c2 c3 c4 c5 c6 c7:Value} {u0 u1 u6 u7 u8 aA aB aC aD aE aF aG aH aI aJ aK aL aM aN aO aP aQ aR aS aT aU aV aW aX aY aZ bA bB bC bD bE bF bG bH bI bJ bK bL bM bN bO bP bQ bR bS bT bU bV bW bX bY bZ cA cB cC cD cE cF cG cH cI cJ cK cL cM cN cO cP cQ cR cS cT cU cV cW cX cY cZ dA dB dC dD dE dF dG dH dI dJ dK dL dM dN dO dP dQ dR dS dT dU dV dW dX dY dZ eA eB eC eD eE eF eG eH eI eJ eK eL eM eN eO eP eQ eR eS eT eU eV eW eX eY eZ fA fB fC fD fE fF fG fH fI fJ fK fL fM fN fO fP fQ fR fS fT fU fV fW fX fY fZ gA gB gC gD gE gF gG gH gI gJ gK gL gM gN gO gP gQ gR gS gT gU gV gW gX gY gZ hA hB hC hD hF hG hH hI hJ hL hM hN hO hP hR hS hT hU hV hW hX hY hZ iA iB iC iD iE iF iG iH iI iJ iK iL iM iN iO iP iQ iR iS iT iU iV iW iX iY iZ jA jB jC jD jE jF jG jH jI jJ jK jL jM jN jO jP jQ jR jS jT jU jV jW jX jY jZ kA kB kC kD kE kF kG kH:Value} {K:Act→World→Prop} {Q0:Exit→Act→World→Prop} (hus:u.size≤64)
  (ha:a≤u.size) (hQ:∀ ch (a:Act) d v w,Q0 (.panic ch) (a.put d v) w→Q0 (.panic ch) a w) (hrun:qp 1 (u.data.toList.drop a)≠0) (D:DV w Q u (a+qp 1 (u.data.toList.drop a)) 0 0 c0 (.slice ao 1 cv) c2 c3 c4 c5 c6 c7 (.slice none 0 0) (txsV [qr (seg u.data.toList a (a+qp 1 (u.data.toList.drop a)))]) [] W)
  (hk_:∀ (u0 u1 u6 u7 u8 aA aB aC aD aE aF aG aH aI aJ aK aL aM aN aO aP aQ aR aS aT aU aV aW aX aY aZ bA bB bC bD bE bF bG bH bI bJ bK bL bM bN bO bP bQ bR bS bT bU bV bW bX bY bZ cA cB cC cD cE cF cG cH cI cJ cK cL cM cN cO cP cQ cR cS cT cU cV cW cX cY cZ dA dB dC dD dE dF dG dH dI dJ dK dL dM dN dO dP dQ dR dS dT dU dV dW dX dY dZ eA eB eC eD eE eF eG eH eI eJ eK eL eM eN eO eP eQ eR eS eT eU eV eW eX eY eZ fA fB fC fD fE fF fG fH fI fJ fK fL fM fN fO fP fQ fR fS fT fU fV fW fX fY fZ gA gB gC gD gE gF gG gH gI gJ gK gL gM gN gO gP gQ gR gS gT gU gV gW gX gY gZ hA hB hC hD hF hG hH hI hJ hL hM hN hO hP hR hS hT hU hV hW hX hY hZ iA iB iC iD iE iF iG iH iI iJ iK iL iM iN iO iP iQ iR iS iT iU iV iW iX iY iZ jA jB jC jD jE jF jG jH jI jJ jK jL jM jN jO jP jQ jR jS jT jU jV jW jX jY jZ kA kB kC kD kE kF kG kH:Value) (ao:Option Addr) (n cv:Nat) (W':World),DV w Q u (qfm a (qbf u.data.toList 1 [46] a)) 0 0 c0 (.slice ao n cv) c2 c3 c4 c5 c6 c7 (.slice none 0 0) (txsV (rowL u.data.toList (qbf u.data.toList 1 [46] a))) [] W'→K ⟨#[u0,u1,.pointer (some ⟨w.heap.size,0,none⟩),.pointer (some ⟨w.heap.size+1,0,none⟩),.pointer (some ⟨Q,0,none⟩),.pointer (some ⟨Q+1,0,none⟩),u6,u7,u8,aA,aB,aC,aD,aE,aF,aG,aH,aI,aJ,aK,aL,aM,aN,aO,aP,aQ,aR,aS,aT,aU,aV,aW,aX,aY,aZ,bA,bB,bC,bD,bE,bF,bG,bH,bI,bJ,bK,bL,bM,bN,bO,bP,bQ,bR,bS,bT,bU,bV,bW,bX,bY,bZ,cA,cB,cC,cD,cE,cF,cG,cH,cI,cJ,cK,cL,cM,cN,cO,cP,cQ,cR,cS,cT,cU,cV,cW,cX,cY,cZ,dA,dB,dC,dD,dE,dF,dG,dH,dI,dJ,dK,dL,dM,dN,dO,dP,dQ,dR,dS,dT,dU,dV,dW,dX,dY,dZ,eA,eB,eC,eD,eE,eF,eG,eH,eI,eJ,eK,eL,eM,eN,eO,eP,eQ,eR,eS,eT,eU,eV,eW,eX,eY,eZ,fA,fB,fC,fD,fE,fF,fG,fH,fI,fJ,fK,fL,fM,fN,fO,fP,fQ,fR,fS,fT,fU,fV,fW,fX,fY,fZ,gA,gB,gC,gD,gE,gF,gG,gH,gI,gJ,gK,gL,gM,gN,gO,gP,gQ,gR,gS,gT,gU,gV,gW,gX,gY,gZ,hA,hB,hC,hD,hF,hG,hH,hI,hJ,hL,hM,hN,hO,hP,hR,hS,hT,hU,hV,hW,hX,hY,hZ,iA,iB,iC,iD,iE,iF,iG,iH,iI,iJ,iK,iL,iM,iN,iO,iP,iQ,iR,iS,iT,iU,iV,iW,iX,iY,iZ,jA,jB,jC,jD,jE,jF,jG,jH,jI,jJ,jK,jL,jM,jN,jO,jP,jQ,jR,jS,jT,jU,jV,jW,jX,jY,jZ,kA,kB,kC,kD,kE,kF,kG,kH],[]⟩ W')
  :
  Code.wp Tryz.prog (qbs 9 (Tryz.f25.body.getD .skip)) (Exit.then K Q0) ⟨#[u0,u1,.pointer (some ⟨w.heap.size,0,none⟩),.pointer (some ⟨w.heap.size+1,0,none⟩),.pointer (some ⟨Q,0,none⟩),.pointer (some ⟨Q+1,0,none⟩),u6,u7,u8,aA,aB,aC,aD,aE,aF,aG,aH,aI,aJ,aK,aL,aM,aN,aO,aP,aQ,aR,aS,aT,aU,aV,aW,aX,aY,aZ,bA,bB,bC,bD,bE,bF,bG,bH,bI,bJ,bK,bL,bM,bN,bO,bP,bQ,bR,bS,bT,bU,bV,bW,bX,bY,bZ,cA,cB,cC,cD,cE,cF,cG,cH,cI,cJ,cK,cL,cM,cN,cO,cP,cQ,cR,cS,cT,cU,cV,cW,cX,cY,cZ,dA,dB,dC,dD,dE,dF,dG,dH,dI,dJ,dK,dL,dM,dN,dO,dP,dQ,dR,dS,dT,dU,dV,dW,dX,dY,dZ,eA,eB,eC,eD,eE,eF,eG,eH,eI,eJ,eK,eL,eM,eN,eO,eP,eQ,eR,eS,eT,eU,eV,eW,eX,eY,eZ,fA,fB,fC,fD,fE,fF,fG,fH,fI,fJ,fK,fL,fM,fN,fO,fP,fQ,fR,fS,fT,fU,fV,fW,fX,fY,fZ,gA,gB,gC,gD,gE,gF,gG,gH,gI,gJ,gK,gL,gM,gN,gO,gP,gQ,gR,gS,gT,gU,gV,gW,gX,gY,gZ,hA,hB,hC,hD,hF,hG,hH,hI,hJ,hL,hM,hN,hO,hP,hR,hS,hT,hU,hV,hW,hX,hY,hZ,iA,iB,iC,iD,iE,iF,iG,iH,iI,iJ,iK,iL,iM,iN,iO,iP,iQ,iR,iS,iT,iU,iV,iW,iX,iY,iZ,jA,jB,jC,jD,jE,jF,jG,jH,jI,jJ,jK,jL,jM,jN,jO,jP,jQ,jR,jS,jT,jU,jV,jW,jX,jY,jZ,kA,kB,kC,kD,kE,kF,kG,kH],[]⟩ W:=by
 have HK:=qb hk_;clear hk_
 conv=>arg 2;whnf
 have hlen:(qbf u.data.toList 1 [46] a).length≤64:=by
  have:=qjm u.data.toList 1 [46] _ a rfl;rw[qg]at this;omega
 obtain ⟨i0,hi,hz0,hz1,hz2⟩:=info_parts Tryz.info9;have HLE:Hid (∀ st d,d++qbf u.data.toList 1 [46] st=qbf u.data.toList 1 [46] a→d.length≤64):=fun st d h=>by
  have:=congrArg List.length h;rw[qbtf]at this;omega
 clear hlen;(go_wp2_with fail);dsimp only;go_loopw [104] (fun _ wr=>∃ (st k:Nat) (d:List (Nat×Nat)) (ao:Option Addr) (cv:Nat),st<k∧k≤u.size∧DV w Q u k 0 0 c0 (.slice ao (d.length+1) cv) c2 c3 c4 c5 c6 c7 (.slice none 0 0) (txsV (rowL u.data.toList (d++[(st,k)]))) [] wr∧Hid (st+qp 1 (u.data.toList.drop st)=k)∧Hid (d++qbf u.data.toList 1 [46] st=qbf u.data.toList 1 [46] a)) (fun _ wr=>u.size-qbkd wr Q)
 case atStart=>
  refine⟨a,a+qp 1 (u.data.toList.drop a),[],ao,cv,by omega,qdr 1 u a ha,?_,rfl,rfl⟩
  have e:rowL u.data.toList ([]++[(a,a+qp 1 (u.data.toList.drop a))])=[qr (seg u.data.toList a (a+qp 1 (u.data.toList.drop a)))]:=by
   simp only[rowL,List.nil_append,List.map_cons,List.map_nil];rw[qxx _ _ hrun]
  rw[e];exact D
 case round=>
  clear D;obtain⟨st,k,d,ao,cv,hst,hk,D1,HE,HL⟩:=hrel;have hme:=D1.rd.dplace;have hdl:=HLE.out st d HL.out;have HNE:Hid (k≠st):=by show _≠_;omega
  obtain⟨r0,r1,r2,r3,g1,g2,g3⟩:=D1.rd.seen;have I1:=qb (fun w h=>qfg Q u k 0 0 1 1 w h hk (by omega) hus)
  by_cases hks:k<u.size
  ·have kd : ((k:Int)<(u.size:Int)):=by omega
   have kd2:decide ((k:Int)<(u.size:Int))=true:=by simpa using kd
   have HA:=qb (qbdm u k 46 hks);cases hb:((u[k].toNat:Int)==46)
   ·have HLA:Hid (qbf u.data.toList 1 [46] st=[(st,k)]):=qqw HE.out HNE.out (.inl (by rw[HA.out];exact hb))
    clear HA I1 HE HNE;(go_wp2_with fail);go_quiet (fail)
    have D2:=D1.drewN nq;generalize wr.drewN nq=W2 at *;clear D1;(go_wp2_with fail);rw[←HL.out,HLA.out,qjw]at HK;exact HK.out _ _ _ _ _ _ _ _ _ _ _ _ _ _ _ _ _ _ _ _ _ _ _ _ _ _ _ _ _ _ _ _ _ _ _ _ _ _ _ _ _ _ _ _ _ _ _ _ _ _ _ _ _ _ _ _ _ _ _ _ _ _ _ _ _ _ _ _ _ _ _ _ _ _ _ _ _ _ _ _ _ _ _ _ _ _ _ _ _ _ _ _ _ _ _ _ _ _ _ _ _ _ _ _ _ _ _ _ _ _ _ _ _ _ _ _ _ _ _ _ _ _ _ _ _ _ _ _ _ _ _ _ _ _ _ _ _ _ _ _ _ _ _ _ _ _ _ _ _ _ _ _ _ _ _ _ _ _ _ _ _ _ _ _ _ _ _ _ _ _ _ _ _ _ _ _ _ _ _ _ _ _ _ _ _ _ _ _ _ _ _ _ _ _ _ _ _ _ _ _ _ _ _ _ _ _ _ _ _ _ _ _ _ _ _ _ _ _ _ _ _ _ _ _ _ _ _ _ _ _ _ _ _ _ _ _ _ _ _ _ _ _ _ _ _ _ _ _ _ _ _ _ _ _ _ _ _ _ _ _ _ _ _ _ _ _ _ _ _ _ ao _ cv _ D2
   ·cases hc:clsB u.data.toList (k+1) 1
    ·have HLA:Hid (qbf u.data.toList 1 [46] st=[(st,k)]):=qqw HE.out HNE.out (.inr ⟨by rw[HA.out];exact hb,hc⟩)
     rw[hc]at I1;have IQ:=qb (fun n=>I1.out (wr.drewN n) (D1.rd.drewN n));clear HA I1 HE HNE hc;(go_wp2_with fail);go_quiet (first|(go_at_call 54;exact Calls.quiet_of (IQ.out _))|fail)
     have D2:=D1.drewN nq;generalize wr.drewN nq=W2 at *;clear D1;(go_wp2_with fail);rw[←HL.out,HLA.out,qjw]at HK;exact HK.out _ _ _ _ _ _ _ _ _ _ _ _ _ _ _ _ _ _ _ _ _ _ _ _ _ _ _ _ _ _ _ _ _ _ _ _ _ _ _ _ _ _ _ _ _ _ _ _ _ _ _ _ _ _ _ _ _ _ _ _ _ _ _ _ _ _ _ _ _ _ _ _ _ _ _ _ _ _ _ _ _ _ _ _ _ _ _ _ _ _ _ _ _ _ _ _ _ _ _ _ _ _ _ _ _ _ _ _ _ _ _ _ _ _ _ _ _ _ _ _ _ _ _ _ _ _ _ _ _ _ _ _ _ _ _ _ _ _ _ _ _ _ _ _ _ _ _ _ _ _ _ _ _ _ _ _ _ _ _ _ _ _ _ _ _ _ _ _ _ _ _ _ _ _ _ _ _ _ _ _ _ _ _ _ _ _ _ _ _ _ _ _ _ _ _ _ _ _ _ _ _ _ _ _ _ _ _ _ _ _ _ _ _ _ _ _ _ _ _ _ _ _ _ _ _ _ _ _ _ _ _ _ _ _ _ _ _ _ _ _ _ _ _ _ _ _ _ _ _ _ _ _ _ _ _ _ _ _ _ _ _ _ _ _ _ _ _ _ _ _ ao _ cv _ D2
    ·have HMR:Hid (qbf u.data.toList 1 [46] st=(st,k)::qbf u.data.toList 1 [46] (k+1)):=qbpd HE.out HNE.out (by rw[HA.out];exact hb)
     rw [hc]at I1;have hk1:k+1<u.size:=by
      by_cases hl:k+1<u.size
      ·exact hl
      ·rw[qlv u _ _ hl]at hc;cases hc
     have hrun2:qp 1 (u.data.toList.drop (k+1))≠0:=fun h=>by rw[(qgz _ _ _).1 h]at hc;cases hc
     have HPR:=qb (qxx u.data.toList (k+1) hrun2);have hrl:=qdr 1 u (k+1) (by omega)
     have DG:=fun W h=>qgr Q u (k+1) 0 0 W h (by omega) hus
     have IQ:=qb (fun n=>I1.out (wr.drewN n) (D1.rd.drewN n));obtain⟨E,hE⟩:∃ E,k+1+qp 1 (u.data.toList.drop (k+1))=E:=⟨_,rfl⟩;rw[hE]at DG HPR hrl;have hEk:k+1<E:=by omega
     have HEE:=qb hE;have DG:=qb DG;have HSR:Hid (rowL u.data.toList (d++[(st,k)]++[(k+1,E)])=rowL u.data.toList (d++[(st,k)])++[qr (seg u.data.toList (k+1) E)]):=by
      show _=_;rw[←HPR.out];simp[rowL]
     have hrl2:(rowL u.data.toList (d++[(st,k)])).length=d.length+1:=by simp[rowL]
     have hwk:IntKind.i64.wrap ((k:Int)+1)=(k:Int)+1:=by rw[IntKind.wrap_i64];omega
     clear HA I1 HE HNE hc hE hrun2 HPR;(go_wp2_with fail);go_quiet (first|(go_at_call 54;exact Calls.quiet_of (IQ.out _))|fail)
     have D2:=D1.drewN nq;generalize wr.drewN nq=W2 at *;clear D1 r0 r1 r2 r3 g1 g2 g3;obtain⟨r0,r1,r2,r3,g1,g2,g3⟩:=D2.rd.seen;(go_wp2_with fail);have D3':=D2.turn (Turn.set Q 1 W2 (.int .i64 ((k:Int)+1))) D2.rd.step;have D0:=D3'.drewN 1;clear D3' D2 r0 r1 r2 r3 g1 g2 g3
     change DV w Q u (k+1) 0 0 c0 (.slice ao (d.length+1) cv) c2 c3 c4 c5 c6 c7 (.slice none 0 0) (txsV (rowL u.data.toList (d++[(st,k)]))) [] (World.drew _)at D0
     obtain⟨v0,v1,v2,v3,v4,v5,v6,v7,v8⟩:=D0.seen;refine(wpIn_wide (n:=5)).1 ?_;refine wpIn_region_any (by kernel_rfl) ?_
     change wpAnyIn _ _ _ _ _ _ _ _ _ (World.drew _)
     generalize World.drew _=W0 at *;refine wpAnyIn_take (i:=0) (v:=?_) rfl rfl (by kernel_rfl) (by kernel_rfl) (by kernel_rfl) (fun _ _ _ h=>hQ _ _ _ _ _ h) ⟨Or.inl ⟨by rfl,?_⟩,fun _=>rfl⟩ ?_
     rotate_left
     ·intro w;go_simp
      try with_reducible rfl
     refine wpAnyIn_take (i:=2) (v:=?_) rfl rfl (by kernel_rfl) (by kernel_rfl) (by kernel_rfl) (fun _ _ _ h=>hQ _ _ _ _ _ h) ⟨Or.inl ⟨by rfl,?_⟩,fun _=>rfl⟩ ?_
     rotate_left
     ·intro w;go_simp
      try with_reducible rfl
     refine wpAnyIn_ready (rs:=[1,3]) (by kernel_rfl) (by simp) ?_
     refine qbsq rfl (fun K hK=>?_) ?_
     ·go_simp
      refine hK _ _ ?_;clear hK K;refine wpAnyIn_ready (rs:=[3]) (by kernel_rfl) (by simp) ?_
      refine qbsq rfl (fun K hK=>?_) ?_
      ·go_simp
       refine⟨trivial,?_⟩;refine(callsIn_wide.2 (DG.out _ D0.rd)).mono ?_;rintro r w3 ⟨rfl,h3,t3⟩;have D3:=D0.turn t3 h3;obtain⟨x0,x1,x2,x3,x4,x5,x6,x7,x8⟩:=D3.seen;have hq3:=D3.szQ;have hrel3:w3.ownsRow (Q+2) 9 1 (.slice ao (d.length+1) cv) (d.length+1) (txsV (rowL u.data.toList (d++[(st,k)]))):=(by have:=D3.rel;rw[qmn,hrl2]at this;exact this)
       refine hK _ _ ?_;clear hK K;refine wpAnyIn_ready (rs:=[4]) (by kernel_rfl) (by simp) ?_
       refine qbsq rfl (fun K hK=>?_) ?_
       ·go_simp
        refine hK _ _ ?_;clear hK K;refine wpAnyIn_ready (rs:=[5]) (by kernel_rfl) (by simp) ?_
        refine qbsq rfl (fun K hK=>?_) ?_
        ·refine qbb rfl _ _ 37 rfl (Q+2) 9 i0 (.string .empty) 1 16 Tryz.underlying37 hi hz0 hz1 hz2 rfl (by decide) (.slice ao (d.length+1) cv) (d.length+1) (txsV (rowL u.data.toList (d++[(st,k)]))) rfl (hrel3.alloc _) ⟨w3.heap.size,0,none⟩ 1 1 [.string (qd (qr (seg u.data.toList (k+1) E)))] rfl rfl (qbj _ _ _) (qcv _) (by unfold maxLen;omega) (by omega) (by simp;omega) ?_
         intro v4 w4 hown4 hgrow4 _;obtain⟨ao4,cv4,rfl⟩:=qgs hown4;rw[qgq]at hgrow4;have hv4:w4.heap[Q+1]? = _:=(hgrow4.block (Q+1) (by simp;omega) (fun e=>by have:=(qkz hrel3 (Q+1) e.symm).1;omega)).trans (D3.alloc _).ver
         have y1:=qc 1 hv4 rfl;have yf:=qf 1 hv4;refine hK _ _ ?_;clear hK K;refine wpAnyIn_take (i:=6) (v:=?_) rfl rfl (by kernel_rfl) (by kernel_rfl) (by kernel_rfl) (fun _ _ _ h=>hQ _ _ _ _ _ h) ⟨Or.inl ⟨by rfl,?_⟩,fun _=>rfl⟩ ?_
         rotate_left
         ·intro w;go_simp
          try with_reducible rfl
         refine wpAnyIn_ready (rs:=[7]) (by kernel_rfl) (by simp) ?_
         refine qbsq rfl (fun K hK=>?_) ?_
         ·go_simp
          refine hK _ _ ?_;clear hK K;refine wpAnyIn_done (by kernel_rfl) ?_ _
          have hown5:w4.ownsRow (Q+2) 9 1 (.slice ao4 (d.length+1+1) cv4) (d.length+1+1) (txsV (rowL u.data.toList (d++[(st,k)]++[(k+1,E)]))):=by
           rw[HSR.out,qpl];exact hown4
          have hgr5:(w3.alloc (.cells #[.string (qd (qr (seg u.data.toList (k+1) E)))] 9)).grownBy w4 (ao.map (·.block)):=hgrow4
          have D5:=(D3.alloc (.cells #[.string (qd (qr (seg u.data.toList (k+1) E)))] 9)).setRel (S:=rowL u.data.toList (d++[(st,k)])) (S':=rowL u.data.toList (d++[(st,k)]++[(k+1,E)])) hrl2.symm hgr5 hown5 (by simp[rowL]) rfl rfl
          (go_wp2_with fail);go_roundw
          case rel=>exact⟨k+1,E,d++[(st,k)],ao4,cv4,hEk,hrl,by simpa[qbtf] using D5,HEE,by show _=_;rw[List.append_assoc,←HL.out,HMR.out];rfl⟩
          case measure=>
           rw[D5.rd.dplace,hme];omega
         exact qbss
        exact qbss
       exact qbss
      exact qbss
     refine qbsq rfl (fun K hK=>?_) ?_
     ·go_simp
      refine⟨trivial,?_⟩;refine(callsIn_wide.2 (DG.out _ D0.rd)).mono ?_;rintro r w3 ⟨rfl,h3,t3⟩;have D3:=D0.turn t3 h3;obtain⟨x0,x1,x2,x3,x4,x5,x6,x7,x8⟩:=D3.seen;have hq3:=D3.szQ;have hrel3:w3.ownsRow (Q+2) 9 1 (.slice ao (d.length+1) cv) (d.length+1) (txsV (rowL u.data.toList (d++[(st,k)]))):=(by have:=D3.rel;rw[qmn,hrl2]at this;exact this)
      refine hK _ _ ?_;clear hK K;refine wpAnyIn_ready (rs:=[1,4]) (by kernel_rfl) (by simp) ?_
      refine qbsq rfl (fun K hK=>?_) ?_
      ·go_simp
       refine hK _ _ ?_;clear hK K;refine wpAnyIn_ready (rs:=[4]) (by kernel_rfl) (by simp) ?_
       refine qbsq rfl (fun K hK=>?_) ?_
       ·go_simp
        refine hK _ _ ?_;clear hK K;refine wpAnyIn_ready (rs:=[5]) (by kernel_rfl) (by simp) ?_
        refine qbsq rfl (fun K hK=>?_) ?_
        ·refine qbb rfl _ _ 37 rfl (Q+2) 9 i0 (.string .empty) 1 16 Tryz.underlying37 hi hz0 hz1 hz2 rfl (by decide) (.slice ao (d.length+1) cv) (d.length+1) (txsV (rowL u.data.toList (d++[(st,k)]))) rfl (hrel3.alloc _) ⟨w3.heap.size,0,none⟩ 1 1 [.string (qd (qr (seg u.data.toList (k+1) E)))] rfl rfl (qbj _ _ _) (qcv _) (by unfold maxLen;omega) (by omega) (by simp;omega) ?_
         intro v4 w4 hown4 hgrow4 _;obtain⟨ao4,cv4,rfl⟩:=qgs hown4;rw[qgq]at hgrow4;have hv4:w4.heap[Q+1]? = _:=(hgrow4.block (Q+1) (by simp;omega) (fun e=>by have:=(qkz hrel3 (Q+1) e.symm).1;omega)).trans (D3.alloc _).ver
         have y1:=qc 1 hv4 rfl;have yf:=qf 1 hv4;refine hK _ _ ?_;clear hK K;refine wpAnyIn_take (i:=6) (v:=?_) rfl rfl (by kernel_rfl) (by kernel_rfl) (by kernel_rfl) (fun _ _ _ h=>hQ _ _ _ _ _ h) ⟨Or.inl ⟨by rfl,?_⟩,fun _=>rfl⟩ ?_
         rotate_left
         ·intro w;go_simp
          try with_reducible rfl
         refine wpAnyIn_ready (rs:=[7]) (by kernel_rfl) (by simp) ?_
         refine qbsq rfl (fun K hK=>?_) ?_
         ·go_simp
          refine hK _ _ ?_;clear hK K;refine wpAnyIn_done (by kernel_rfl) ?_ _
          have hown5:w4.ownsRow (Q+2) 9 1 (.slice ao4 (d.length+1+1) cv4) (d.length+1+1) (txsV (rowL u.data.toList (d++[(st,k)]++[(k+1,E)]))):=by
           rw[HSR.out,qpl];exact hown4
          have hgr5:(w3.alloc (.cells #[.string (qd (qr (seg u.data.toList (k+1) E)))] 9)).grownBy w4 (ao.map (·.block)):=hgrow4
          have D5:=(D3.alloc (.cells #[.string (qd (qr (seg u.data.toList (k+1) E)))] 9)).setRel (S:=rowL u.data.toList (d++[(st,k)])) (S':=rowL u.data.toList (d++[(st,k)]++[(k+1,E)])) hrl2.symm hgr5 hown5 (by simp[rowL]) rfl rfl
          (go_wp2_with fail);go_roundw
          case rel=>exact⟨k+1,E,d++[(st,k)],ao4,cv4,hEk,hrl,by simpa[qbtf] using D5,HEE,by show _=_;rw[List.append_assoc,←HL.out,HMR.out];rfl⟩
          case measure=>
           rw[D5.rd.dplace,hme];omega
         exact qbss
        exact qbss
       exact qbss
      refine qbsq rfl (fun K hK=>?_) ?_
      ·go_simp
       refine hK _ _ ?_;clear hK K;refine wpAnyIn_ready (rs:=[1]) (by kernel_rfl) (by simp) ?_
       refine qbsq rfl (fun K hK=>?_) ?_
       ·go_simp
        refine hK _ _ ?_;clear hK K;refine wpAnyIn_ready (rs:=[5]) (by kernel_rfl) (by simp) ?_
        refine qbsq rfl (fun K hK=>?_) ?_
        ·refine qbb rfl _ _ 37 rfl (Q+2) 9 i0 (.string .empty) 1 16 Tryz.underlying37 hi hz0 hz1 hz2 rfl (by decide) (.slice ao (d.length+1) cv) (d.length+1) (txsV (rowL u.data.toList (d++[(st,k)]))) rfl (hrel3.alloc _) ⟨w3.heap.size,0,none⟩ 1 1 [.string (qd (qr (seg u.data.toList (k+1) E)))] rfl rfl (qbj _ _ _) (qcv _) (by unfold maxLen;omega) (by omega) (by simp;omega) ?_
         intro v4 w4 hown4 hgrow4 _;obtain⟨ao4,cv4,rfl⟩:=qgs hown4;rw[qgq]at hgrow4;have hv4:w4.heap[Q+1]? = _:=(hgrow4.block (Q+1) (by simp;omega) (fun e=>by have:=(qkz hrel3 (Q+1) e.symm).1;omega)).trans (D3.alloc _).ver
         have y1:=qc 1 hv4 rfl;have yf:=qf 1 hv4;refine hK _ _ ?_;clear hK K;refine wpAnyIn_take (i:=6) (v:=?_) rfl rfl (by kernel_rfl) (by kernel_rfl) (by kernel_rfl) (fun _ _ _ h=>hQ _ _ _ _ _ h) ⟨Or.inl ⟨by rfl,?_⟩,fun _=>rfl⟩ ?_
         rotate_left
         ·intro w;go_simp
          try with_reducible rfl
         refine wpAnyIn_ready (rs:=[7]) (by kernel_rfl) (by simp) ?_
         refine qbsq rfl (fun K hK=>?_) ?_
         ·go_simp
          refine hK _ _ ?_;clear hK K;refine wpAnyIn_done (by kernel_rfl) ?_ _
          have hown5:w4.ownsRow (Q+2) 9 1 (.slice ao4 (d.length+1+1) cv4) (d.length+1+1) (txsV (rowL u.data.toList (d++[(st,k)]++[(k+1,E)]))):=by
           rw[HSR.out,qpl];exact hown4
          have hgr5:(w3.alloc (.cells #[.string (qd (qr (seg u.data.toList (k+1) E)))] 9)).grownBy w4 (ao.map (·.block)):=hgrow4
          have D5:=(D3.alloc (.cells #[.string (qd (qr (seg u.data.toList (k+1) E)))] 9)).setRel (S:=rowL u.data.toList (d++[(st,k)])) (S':=rowL u.data.toList (d++[(st,k)]++[(k+1,E)])) hrl2.symm hgr5 hown5 (by simp[rowL]) rfl rfl
          (go_wp2_with fail);go_roundw
          case rel=>exact⟨k+1,E,d++[(st,k)],ao4,cv4,hEk,hrl,by simpa[qbtf] using D5,HEE,by show _=_;rw[List.append_assoc,←HL.out,HMR.out];rfl⟩
          case measure=>
           rw[D5.rd.dplace,hme];omega
         exact qbss
        exact qbss
       exact qbss
      exact qbss
     exact qbss
  ·have kd:¬ ((k:Int)<(u.size:Int)):=by omega
   have kd2:decide ((k:Int)<(u.size:Int))=false:=by simpa using kd
   have HA:=qb (qrk u k 46 hks);have HLA:Hid (qbf u.data.toList 1 [46] st=[(st,k)]):=qqw HE.out HNE.out (.inl HA.out);clear HA I1 HE HNE;(go_wp2_with fail);go_quiet (fail)
   have D2:=D1.drewN nq;generalize wr.drewN nq=W2 at *;clear D1;(go_wp2_with fail);rw[←HL.out,HLA.out,qjw]at HK;exact HK.out _ _ _ _ _ _ _ _ _ _ _ _ _ _ _ _ _ _ _ _ _ _ _ _ _ _ _ _ _ _ _ _ _ _ _ _ _ _ _ _ _ _ _ _ _ _ _ _ _ _ _ _ _ _ _ _ _ _ _ _ _ _ _ _ _ _ _ _ _ _ _ _ _ _ _ _ _ _ _ _ _ _ _ _ _ _ _ _ _ _ _ _ _ _ _ _ _ _ _ _ _ _ _ _ _ _ _ _ _ _ _ _ _ _ _ _ _ _ _ _ _ _ _ _ _ _ _ _ _ _ _ _ _ _ _ _ _ _ _ _ _ _ _ _ _ _ _ _ _ _ _ _ _ _ _ _ _ _ _ _ _ _ _ _ _ _ _ _ _ _ _ _ _ _ _ _ _ _ _ _ _ _ _ _ _ _ _ _ _ _ _ _ _ _ _ _ _ _ _ _ _ _ _ _ _ _ _ _ _ _ _ _ _ _ _ _ _ _ _ _ _ _ _ _ _ _ _ _ _ _ _ _ _ _ _ _ _ _ _ _ _ _ _ _ _ _ _ _ _ _ _ _ _ _ _ _ _ _ _ _ _ _ _ _ _ _ _ _ _ _ ao _ cv _ D2
set_option maxHeartbeats 2000000
set_option maxRecDepth 1000000
attribute [local go_sem] Oper.semAt_some
theorem st10 {w:World} {Q:Nat} {u:QY} {W:World} {a:Nat} {c0 c1 c2 c3 c4 c5 c6 c7 c8:Value} {xs ys:List Value} {u0 u1 u6 u7 u8 aA aB aC aD aE aF aG aH aI aJ aK aL aM aN aO aP aQ aR aS aT aU aV aW aX aY aZ bA bB bC bD bE bF bG bH bI bJ bK bL bM bN bO bP bQ bR bS bT bU bV bW bX bY bZ cA cB cC cD cE cF cG cH cI cJ cK cL cM cN cO cP cQ cR cS cT cU cV cW cX cY cZ dA dB dC dD dE dF dG dH dI dJ dK dL dM dN dO dP dQ dR dS dT dU dV dW dX dY dZ eA eB eC eD eE eF eG eH eI eJ eK eL eM eN eO eP eQ eR eS eT eU eV eW eX eY eZ fA fB fC fD fE fF fG fH fI fJ fK fL fM fN fO fP fQ fR fS fT fU fV fW fX fY fZ gA gB gC gD gE gF gG gH gI gJ gK gL gM gN gO gP gQ gR gS gT gU gV gW gX gY gZ hA hB hC hD hF hG hH hI hJ hL hM hN hO hP hR hS hT hU hV hW hX hY hZ iA iB iC iD iE iF iG iH iI iJ iK iL iM iN iO iP iQ iR iS iT iU iV iW iX iY iZ jA jB jC jD jE jF jG jH jI jJ jK jL jM jN jO jP jQ jR jS jT jU jV jW jX jY jZ kA kB kC kD kE kF kG kH:Value} {K:Act→World→Prop} {Q0:Exit→Act→World→Prop} (hus:u.size≤64)
  (ha:a≤u.size) (D:DV w Q u a 0 0 c0 c1 c2 c3 c4 c5 c6 c7 c8 xs ys W)
  (hk_:∀ (u0 u1 u6 aA aB aC aD aE aF aG aH aI aJ aK aL aM aN aO aP aQ aR aS aT aU aV aW aX aY aZ bA bB bC bD bE bF bG bH bI bJ bK bL bM bN bO bP bQ bR bS bT bU bV bW bX bY bZ cA cB cC cD cE cF cG cH cI cJ cK cL cM cN cO cP cQ cR cS cT cU cV cW cX cY cZ dA dB dC dD dE dF dG dH dI dJ dK dL dM dN dO dP dQ dR dS dT dU dV dW dX dY dZ eA eB eC eD eE eF eG eH eI eJ eK eL eM eN eO eP eQ eR eS eT eU eV eW eX eY eZ fA fB fC fD fE fF fG fH fI fJ fK fL fM fN fO fP fQ fR fS fT fU fV fW fX fY fZ gA gB gC gD gE gF gG gH gI gJ gK gL gM gN gO gP gQ gR gS gT gU gV gW gX gY gZ hA hB hC hD hF hG hH hI hJ hL hM hN hO hP hR hS hT hU hV hW hX hY hZ iA iB iC iD iE iF iG iH iI iJ iK iL iM iN iO iP iQ iR iS iT iU iV iW iX iY iZ jA jB jC jD jE jF jG jH jI jJ jK jL jM jN jO jP jQ jR jS jT jU jV jW jX jY jZ kA kB kC kD kE kF kG kH:Value) (xw:QY) (ob:Bool) (W':World),((qbl u.data.toList a qbq=none∧ob=false∧DV w Q u a 0 0 c0 c1 c2 c3 c4 c5 c6 c7 c8 xs ys W')∨(∃ x,qbl u.data.toList a qbq=some x∧xw=qd x∧ob=true∧DV w Q u (qbd u.data.toList a+x.length) 0 0 c0 c1 c2 c3 c4 c5 c6 c7 c8 xs ys W'))→K ⟨#[u0,u1,.pointer (some ⟨w.heap.size,0,none⟩),.pointer (some ⟨w.heap.size+1,0,none⟩),.pointer (some ⟨Q,0,none⟩),.pointer (some ⟨Q+1,0,none⟩),u6,.string xw,.bool ob,aA,aB,aC,aD,aE,aF,aG,aH,aI,aJ,aK,aL,aM,aN,aO,aP,aQ,aR,aS,aT,aU,aV,aW,aX,aY,aZ,bA,bB,bC,bD,bE,bF,bG,bH,bI,bJ,bK,bL,bM,bN,bO,bP,bQ,bR,bS,bT,bU,bV,bW,bX,bY,bZ,cA,cB,cC,cD,cE,cF,cG,cH,cI,cJ,cK,cL,cM,cN,cO,cP,cQ,cR,cS,cT,cU,cV,cW,cX,cY,cZ,dA,dB,dC,dD,dE,dF,dG,dH,dI,dJ,dK,dL,dM,dN,dO,dP,dQ,dR,dS,dT,dU,dV,dW,dX,dY,dZ,eA,eB,eC,eD,eE,eF,eG,eH,eI,eJ,eK,eL,eM,eN,eO,eP,eQ,eR,eS,eT,eU,eV,eW,eX,eY,eZ,fA,fB,fC,fD,fE,fF,fG,fH,fI,fJ,fK,fL,fM,fN,fO,fP,fQ,fR,fS,fT,fU,fV,fW,fX,fY,fZ,gA,gB,gC,gD,gE,gF,gG,gH,gI,gJ,gK,gL,gM,gN,gO,gP,gQ,gR,gS,gT,gU,gV,gW,gX,gY,gZ,hA,hB,hC,hD,hF,hG,hH,hI,hJ,hL,hM,hN,hO,hP,hR,hS,hT,hU,hV,hW,hX,hY,hZ,iA,iB,iC,iD,iE,iF,iG,iH,iI,iJ,iK,iL,iM,iN,iO,iP,iQ,iR,iS,iT,iU,iV,iW,iX,iY,iZ,jA,jB,jC,jD,jE,jF,jG,jH,jI,jJ,jK,jL,jM,jN,jO,jP,jQ,jR,jS,jT,jU,jV,jW,jX,jY,jZ,kA,kB,kC,kD,kE,kF,kG,kH],[]⟩ W')
  :
  Code.wp Tryz.prog (qbs 10 (Tryz.f25.body.getD .skip)) (Exit.then K Q0) ⟨#[u0,u1,.pointer (some ⟨w.heap.size,0,none⟩),.pointer (some ⟨w.heap.size+1,0,none⟩),.pointer (some ⟨Q,0,none⟩),.pointer (some ⟨Q+1,0,none⟩),u6,u7,u8,aA,aB,aC,aD,aE,aF,aG,aH,aI,aJ,aK,aL,aM,aN,aO,aP,aQ,aR,aS,aT,aU,aV,aW,aX,aY,aZ,bA,bB,bC,bD,bE,bF,bG,bH,bI,bJ,bK,bL,bM,bN,bO,bP,bQ,bR,bS,bT,bU,bV,bW,bX,bY,bZ,cA,cB,cC,cD,cE,cF,cG,cH,cI,cJ,cK,cL,cM,cN,cO,cP,cQ,cR,cS,cT,cU,cV,cW,cX,cY,cZ,dA,dB,dC,dD,dE,dF,dG,dH,dI,dJ,dK,dL,dM,dN,dO,dP,dQ,dR,dS,dT,dU,dV,dW,dX,dY,dZ,eA,eB,eC,eD,eE,eF,eG,eH,eI,eJ,eK,eL,eM,eN,eO,eP,eQ,eR,eS,eT,eU,eV,eW,eX,eY,eZ,fA,fB,fC,fD,fE,fF,fG,fH,fI,fJ,fK,fL,fM,fN,fO,fP,fQ,fR,fS,fT,fU,fV,fW,fX,fY,fZ,gA,gB,gC,gD,gE,gF,gG,gH,gI,gJ,gK,gL,gM,gN,gO,gP,gQ,gR,gS,gT,gU,gV,gW,gX,gY,gZ,hA,hB,hC,hD,hF,hG,hH,hI,hJ,hL,hM,hN,hO,hP,hR,hS,hT,hU,hV,hW,hX,hY,hZ,iA,iB,iC,iD,iE,iF,iG,iH,iI,iJ,iK,iL,iM,iN,iO,iP,iQ,iR,iS,iT,iU,iV,iW,iX,iY,iZ,jA,jB,jC,jD,jE,jF,jG,jH,jI,jJ,jK,jL,jM,jN,jO,jP,jQ,jR,jS,jT,jU,jV,jW,jX,jY,jZ,kA,kB,kC,kD,kE,kF,kG,kH],[]⟩ W:=by
 have HK:=qb hk_;clear hk_
 conv=>arg 2;whnf
 have hBl:=D.rd.lt;have b1:=(Below.refl W.heap.size W).alloc (Nat.le_refl _) (.cells #[.string ⟨#[97,108,112,104,97]⟩,.string ⟨#[97]⟩,.string ⟨#[98,101,116,97]⟩,.string ⟨#[98]⟩,.string ⟨#[112,114,101,118,105,101,119]⟩,.string ⟨#[112,114,101]⟩,.string ⟨#[99]⟩,.string ⟨#[114,99]⟩] 9);have WD:=qkj Q u a W.heap.size 8 0 0 qbq _ (D.rd.below b1) ha hus (World.alloc_heap_new W _) (by decide) (by decide) qbqh
 have hl8:qbq.length=8:=rfl;rw[hl8]at WD;have WD:=qb WD;have DA:=qb (D.alloc (.cells #[.string ⟨#[97,108,112,104,97]⟩,.string ⟨#[97]⟩,.string ⟨#[98,101,116,97]⟩,.string ⟨#[98]⟩,.string ⟨#[112,114,101,118,105,101,119]⟩,.string ⟨#[112,114,101]⟩,.string ⟨#[99]⟩,.string ⟨#[114,99]⟩] 9));clear hl8 b1;cases hw:qbl u.data.toList a qbq with
 | none=>
  clear D;(go_wp2_with fail);refine WD.out.mono ?_;rintro r w3 h3;unfold qlh at h3;rw[hw]at h3;obtain⟨rfl,h3,t3⟩:=h3;have D3:=DA.out.turn t3 h3;clear h3 t3 WD DA;dsimp only;(go_wp2_with fail);exact HK.out _ _ _ _ _ _ _ _ _ _ _ _ _ _ _ _ _ _ _ _ _ _ _ _ _ _ _ _ _ _ _ _ _ _ _ _ _ _ _ _ _ _ _ _ _ _ _ _ _ _ _ _ _ _ _ _ _ _ _ _ _ _ _ _ _ _ _ _ _ _ _ _ _ _ _ _ _ _ _ _ _ _ _ _ _ _ _ _ _ _ _ _ _ _ _ _ _ _ _ _ _ _ _ _ _ _ _ _ _ _ _ _ _ _ _ _ _ _ _ _ _ _ _ _ _ _ _ _ _ _ _ _ _ _ _ _ _ _ _ _ _ _ _ _ _ _ _ _ _ _ _ _ _ _ _ _ _ _ _ _ _ _ _ _ _ _ _ _ _ _ _ _ _ _ _ _ _ _ _ _ _ _ _ _ _ _ _ _ _ _ _ _ _ _ _ _ _ _ _ _ _ _ _ _ _ _ _ _ _ _ _ _ _ _ _ _ _ _ _ _ _ _ _ _ _ _ _ _ _ _ _ _ _ _ _ _ _ _ _ _ _ _ _ _ _ _ _ _ _ _ _ _ _ _ _ _ _ _ _ _ _ _ _ _ _ _ _ _ ByteArray.empty false _ (.inl ⟨hw,rfl,D3⟩)
 | some x=>
  clear D;(go_wp2_with fail);refine WD.out.mono ?_;rintro r w3 h3;unfold qlh at h3;rw[hw]at h3;obtain⟨rfl,h3,t3⟩:=h3;have D3:=DA.out.turn t3 h3;clear h3 t3 WD DA;dsimp only;(go_wp2_with fail);exact HK.out _ _ _ _ _ _ _ _ _ _ _ _ _ _ _ _ _ _ _ _ _ _ _ _ _ _ _ _ _ _ _ _ _ _ _ _ _ _ _ _ _ _ _ _ _ _ _ _ _ _ _ _ _ _ _ _ _ _ _ _ _ _ _ _ _ _ _ _ _ _ _ _ _ _ _ _ _ _ _ _ _ _ _ _ _ _ _ _ _ _ _ _ _ _ _ _ _ _ _ _ _ _ _ _ _ _ _ _ _ _ _ _ _ _ _ _ _ _ _ _ _ _ _ _ _ _ _ _ _ _ _ _ _ _ _ _ _ _ _ _ _ _ _ _ _ _ _ _ _ _ _ _ _ _ _ _ _ _ _ _ _ _ _ _ _ _ _ _ _ _ _ _ _ _ _ _ _ _ _ _ _ _ _ _ _ _ _ _ _ _ _ _ _ _ _ _ _ _ _ _ _ _ _ _ _ _ _ _ _ _ _ _ _ _ _ _ _ _ _ _ _ _ _ _ _ _ _ _ _ _ _ _ _ _ _ _ _ _ _ _ _ _ _ _ _ _ _ _ _ _ _ _ _ _ _ _ _ _ _ _ _ _ _ _ _ _ _ _ (qd x) true _ (.inr ⟨x,hw,rfl,rfl,D3⟩)
theorem st11 {w:World} {Q:Nat} {u:QY} {W:World} {a:Nat} {xw:QY} {ob:Bool} {c0 c1 c4 c5 c6 c7 c8:Value} {xs ys:List Value} {u0 u1 u6 aA aB aC aD aE aF aG aH aI aJ aK aL aM aN aO aP aQ aR aS aT aU aV aW aX aY aZ bA bB bC bD bE bF bG bH bI bJ bK bL bM bN bO bP bQ bR bS bT bU bV bW bX bY bZ cA cB cC cD cE cF cG cH cI cJ cK cL cM cN cO cP cQ cR cS cT cU cV cW cX cY cZ dA dB dC dD dE dF dG dH dI dJ dK dL dM dN dO dP dQ dR dS dT dU dV dW dX dY dZ eA eB eC eD eE eF eG eH eI eJ eK eL eM eN eO eP eQ eR eS eT eU eV eW eX eY eZ fA fB fC fD fE fF fG fH fI fJ fK fL fM fN fO fP fQ fR fS fT fU fV fW fX fY fZ gA gB gC gD gE gF gG gH gI gJ gK gL gM gN gO gP gQ gR gS gT gU gV gW gX gY gZ hA hB hC hD hF hG hH hI hJ hL hM hN hO hP hR hS hT hU hV hW hX hY hZ iA iB iC iD iE iF iG iH iI iJ iK iL iM iN iO iP iQ iR iS iT iU iV iW iX iY iZ jA jB jC jD jE jF jG jH jI jJ jK jL jM jN jO jP jQ jR jS jT jU jV jW jX jY jZ kA kB kC kD kE kF kG kH:Value} {K:Act→World→Prop} {Q0:Exit→Act→World→Prop} (hus:u.size≤64)
  (ha:a≤u.size) (D:((qbl u.data.toList a qbq=none∧ob=false∧DV w Q u a 0 0 c0 c1 (.int .u8 0) (.string ⟨#[]⟩) c4 c5 c6 c7 c8 xs ys W)∨(∃ x,qbl u.data.toList a qbq=some x∧xw=qd x∧ob=true∧DV w Q u (qbd u.data.toList a+x.length) 0 0 c0 c1 (.int .u8 0) (.string ⟨#[]⟩) c4 c5 c6 c7 c8 xs ys W)))
  (hk_:∀ (u0 u1 u6 u7 u8 aA aB aC aD aE aF aG aH aI aJ aK aL aM aN aO aP aQ aR aS aT aU aV aW aX aY aZ bA bB bC bD bE bF bG bH bI bJ bK bL bM bN bO bP bQ bR bS bT bU bV bW bX bY bZ cA cB cC cD cE cF cG cH cI cJ cK cL cM cN cO cP cQ cR cS cT cU cV cW cX cY cZ dA dB dC dD dE dF dG dH dI dJ dK dL dM dN dO dP dQ dR dS dT dU dV dW dX dY dZ eA eB eC eD eE eF eG eH eI eJ eK eL eM eN eO eP eQ eR eS eT eU eV eW eX eY eZ fA fB fC fD fE fF fG fH fI fJ fK fL fM fN fO fP fQ fR fS fT fU fV fW fX fY fZ gA gB gC gD gE gF gG gH gI gJ gK gL gM gN gO gP gQ gR gS gT gU gV gW gX gY gZ hA hB hC hD hF hG hH hI hJ hL hM hN hO hP hR hS hT hU hV hW hX hY hZ iA iB iC iD iE iF iG iH iI iJ iK iL iM iN iO iP iQ iR iS iT iU iV iW iX iY iZ jA jB jC jD jE jF jG jH jI jJ jK jL jM jN jO jP jQ jR jS jT jU jV jW jX jY jZ kA kB kC kD kE kF kG kH:Value) (W':World),DV w Q u (stP u.data.toList a qbq) 0 0 c0 c1 (.int .u8 (preC u.data.toList a)) (.string (qd (stN u.data.toList a qbq))) c4 c5 c6 c7 c8 xs ys W'→K ⟨#[u0,u1,.pointer (some ⟨w.heap.size,0,none⟩),.pointer (some ⟨w.heap.size+1,0,none⟩),.pointer (some ⟨Q,0,none⟩),.pointer (some ⟨Q+1,0,none⟩),u6,u7,u8,aA,aB,aC,aD,aE,aF,aG,aH,aI,aJ,aK,aL,aM,aN,aO,aP,aQ,aR,aS,aT,aU,aV,aW,aX,aY,aZ,bA,bB,bC,bD,bE,bF,bG,bH,bI,bJ,bK,bL,bM,bN,bO,bP,bQ,bR,bS,bT,bU,bV,bW,bX,bY,bZ,cA,cB,cC,cD,cE,cF,cG,cH,cI,cJ,cK,cL,cM,cN,cO,cP,cQ,cR,cS,cT,cU,cV,cW,cX,cY,cZ,dA,dB,dC,dD,dE,dF,dG,dH,dI,dJ,dK,dL,dM,dN,dO,dP,dQ,dR,dS,dT,dU,dV,dW,dX,dY,dZ,eA,eB,eC,eD,eE,eF,eG,eH,eI,eJ,eK,eL,eM,eN,eO,eP,eQ,eR,eS,eT,eU,eV,eW,eX,eY,eZ,fA,fB,fC,fD,fE,fF,fG,fH,fI,fJ,fK,fL,fM,fN,fO,fP,fQ,fR,fS,fT,fU,fV,fW,fX,fY,fZ,gA,gB,gC,gD,gE,gF,gG,gH,gI,gJ,gK,gL,gM,gN,gO,gP,gQ,gR,gS,gT,gU,gV,gW,gX,gY,gZ,hA,hB,hC,hD,hF,hG,hH,hI,hJ,hL,hM,hN,hO,hP,hR,hS,hT,hU,hV,hW,hX,hY,hZ,iA,iB,iC,iD,iE,iF,iG,iH,iI,iJ,iK,iL,iM,iN,iO,iP,iQ,iR,iS,iT,iU,iV,iW,iX,iY,iZ,jA,jB,jC,jD,jE,jF,jG,jH,jI,jJ,jK,jL,jM,jN,jO,jP,jQ,jR,jS,jT,jU,jV,jW,jX,jY,jZ,kA,kB,kC,kD,kE,kF,kG,kH],[]⟩ W')
  :
  Code.wp Tryz.prog (qbs 11 (Tryz.f25.body.getD .skip)) (Exit.then K Q0) ⟨#[u0,u1,.pointer (some ⟨w.heap.size,0,none⟩),.pointer (some ⟨w.heap.size+1,0,none⟩),.pointer (some ⟨Q,0,none⟩),.pointer (some ⟨Q+1,0,none⟩),u6,.string xw,.bool ob,aA,aB,aC,aD,aE,aF,aG,aH,aI,aJ,aK,aL,aM,aN,aO,aP,aQ,aR,aS,aT,aU,aV,aW,aX,aY,aZ,bA,bB,bC,bD,bE,bF,bG,bH,bI,bJ,bK,bL,bM,bN,bO,bP,bQ,bR,bS,bT,bU,bV,bW,bX,bY,bZ,cA,cB,cC,cD,cE,cF,cG,cH,cI,cJ,cK,cL,cM,cN,cO,cP,cQ,cR,cS,cT,cU,cV,cW,cX,cY,cZ,dA,dB,dC,dD,dE,dF,dG,dH,dI,dJ,dK,dL,dM,dN,dO,dP,dQ,dR,dS,dT,dU,dV,dW,dX,dY,dZ,eA,eB,eC,eD,eE,eF,eG,eH,eI,eJ,eK,eL,eM,eN,eO,eP,eQ,eR,eS,eT,eU,eV,eW,eX,eY,eZ,fA,fB,fC,fD,fE,fF,fG,fH,fI,fJ,fK,fL,fM,fN,fO,fP,fQ,fR,fS,fT,fU,fV,fW,fX,fY,fZ,gA,gB,gC,gD,gE,gF,gG,gH,gI,gJ,gK,gL,gM,gN,gO,gP,gQ,gR,gS,gT,gU,gV,gW,gX,gY,gZ,hA,hB,hC,hD,hF,hG,hH,hI,hJ,hL,hM,hN,hO,hP,hR,hS,hT,hU,hV,hW,hX,hY,hZ,iA,iB,iC,iD,iE,iF,iG,iH,iI,iJ,iK,iL,iM,iN,iO,iP,iQ,iR,iS,iT,iU,iV,iW,iX,iY,iZ,jA,jB,jC,jD,jE,jF,jG,jH,jI,jJ,jK,jL,jM,jN,jO,jP,jQ,jR,jS,jT,jU,jV,jW,jX,jY,jZ,kA,kB,kC,kD,kE,kF,kG,kH],[]⟩ W:=by
 have HK:=qb hk_;clear hk_
 conv=>arg 2;whnf
 rcases D with ⟨hw,rfl,D⟩|⟨x,hw,rfl,rfl,D⟩
 ·have H1:Hid (preC u.data.toList a=0):=by show _=_;unfold preC;rw[hw]
  have H2:Hid (stN u.data.toList a qbq=[]):=qlw hw;have H3:Hid (stP u.data.toList a qbq=a):=by show _=_;unfold stP;rw[hw]
  clear hw;(go_wp2_with fail);rw[H1.out,H2.out,H3.out]at HK;exact HK.out _ _ _ _ _ _ _ _ _ _ _ _ _ _ _ _ _ _ _ _ _ _ _ _ _ _ _ _ _ _ _ _ _ _ _ _ _ _ _ _ _ _ _ _ _ _ _ _ _ _ _ _ _ _ _ _ _ _ _ _ _ _ _ _ _ _ _ _ _ _ _ _ _ _ _ _ _ _ _ _ _ _ _ _ _ _ _ _ _ _ _ _ _ _ _ _ _ _ _ _ _ _ _ _ _ _ _ _ _ _ _ _ _ _ _ _ _ _ _ _ _ _ _ _ _ _ _ _ _ _ _ _ _ _ _ _ _ _ _ _ _ _ _ _ _ _ _ _ _ _ _ _ _ _ _ _ _ _ _ _ _ _ _ _ _ _ _ _ _ _ _ _ _ _ _ _ _ _ _ _ _ _ _ _ _ _ _ _ _ _ _ _ _ _ _ _ _ _ _ _ _ _ _ _ _ _ _ _ _ _ _ _ _ _ _ _ _ _ _ _ _ _ _ _ _ _ _ _ _ _ _ _ _ _ _ _ _ _ _ _ _ _ _ _ _ _ _ _ _ _ _ _ _ _ _ _ _ _ _ _ _ _ _ _ _ _ _ _ _ _ _ D
 ·have H1:Hid (preC u.data.toList a=letC x):=by show _=_;unfold preC letC;rw[hw]
  have H2:Hid (stN u.data.toList a qbq=qr (digT u.data.toList (qbd u.data.toList a+x.length))):=by show _=_;unfold stN;rw[hw]
  have H3:Hid (stP u.data.toList a qbq=digP u.data.toList (qbd u.data.toList a+x.length)):=by show _=_;unfold stP;rw[hw]
  have hbx:qbd u.data.toList a+x.length≤u.size:=by
   have hm:=(qgk u.data.toList a (by rw[qg];exact ha)).2.1
   have hp:pfxB (u.data.toList.drop (qbd u.data.toList a)) x=true:=List.find?_some hw
   by_cases hl:x.length≤(u.data.toList.drop (qbd u.data.toList a)).length
   ·rw[List.length_drop,qg]at hl;rw[qg]at hm;omega
   ·rw[qjt _ _ hl]at hp;cases hp
  clear hw;generalize qbd u.data.toList a+x.length=b at *;have LT:=qb (fun w=>qbft x w);have NM:=qb (fun W h=>qmd Q u b 0 0 W h hbx hus);(go_wp2_with fail);refine(LT.out _).mono ?_;rintro r w' ⟨rfl,hw'⟩;rw[hw'];clear hw' w';dsimp only;obtain⟨r0,r1,r2,r3,g1,g2,g3⟩:=D.rd.seen;obtain⟨v0,v1,v2,v3,v4,v5,v6,v7,v8⟩:=D.seen;have z2:=D.free 2;have D1:=D.set 2 (.int .u8 (letC x)) rfl;(go_wp2_with fail);generalize W.setCell ⟨Q+1,2,none⟩ (.int .u8 (letC x))=W1 at *;clear D z2;clear r0 r1 r2 r3 g1 g2 g3 v0 v1 v2 v3 v4 v5 v6 v7 v8;refine(NM.out _ D1.rd).mono ?_;rintro r w3 ⟨rfl,h3,t3⟩;have D3:=D1.turn t3 h3;clear h3 t3 D1;dsimp only;obtain⟨r0,r1,r2,r3,g1,g2,g3⟩:=D3.rd.seen;obtain⟨v0,v1,v2,v3,v4,v5,v6,v7,v8⟩:=D3.seen;have z3:=D3.free 3;have D4:=D3.set 3 (.string (qd (qr (digT u.data.toList b)))) rfl;(go_wp2_with fail);rw[H1.out,H2.out,H3.out]at HK
  exact HK.out _ _ _ _ _ _ _ _ _ _ _ _ _ _ _ _ _ _ _ _ _ _ _ _ _ _ _ _ _ _ _ _ _ _ _ _ _ _ _ _ _ _ _ _ _ _ _ _ _ _ _ _ _ _ _ _ _ _ _ _ _ _ _ _ _ _ _ _ _ _ _ _ _ _ _ _ _ _ _ _ _ _ _ _ _ _ _ _ _ _ _ _ _ _ _ _ _ _ _ _ _ _ _ _ _ _ _ _ _ _ _ _ _ _ _ _ _ _ _ _ _ _ _ _ _ _ _ _ _ _ _ _ _ _ _ _ _ _ _ _ _ _ _ _ _ _ _ _ _ _ _ _ _ _ _ _ _ _ _ _ _ _ _ _ _ _ _ _ _ _ _ _ _ _ _ _ _ _ _ _ _ _ _ _ _ _ _ _ _ _ _ _ _ _ _ _ _ _ _ _ _ _ _ _ _ _ _ _ _ _ _ _ _ _ _ _ _ _ _ _ _ _ _ _ _ _ _ _ _ _ _ _ _ _ _ _ _ _ _ _ _ _ _ _ _ _ _ _ _ _ _ _ _ _ _ _ _ _ _ _ _ _ _ _ _ _ _ _ _ _ _ D4
end Go.Proofs.YtabmfdedbpmfmaaGreat
