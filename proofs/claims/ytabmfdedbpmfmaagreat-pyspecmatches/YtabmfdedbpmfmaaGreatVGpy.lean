/- Walks: a clause. -/
import Derived.Deep.Cut
import Derived.Test.YtabmfdedbpmfmaaGreatVPd
import Derived.Test.YtabmfdedbpmfmaaGreatVXa
import Derived.Test.YtabmfdedbpmfmaaGreatVGp
namespace Go.Proofs.YtabmfdedbpmfmaaGreat
open Go.RowKit Go.Shelf
set_option linter.unusedVariables false
set_option maxHeartbeats 8000000
set_option maxRecDepth 100000
theorem qtw (s:QY) (a:Nat) (w:World) (hs:s.size≤256) (ha:a≤s.size) (j:Nat) (hj:(opGo (s.data.toList.drop a) 8).1=j) (h8:j<8) :
 Calls Tryz.prog 88 #[.string s,.int .i64 (a:Int)] w (qqx (clP s.data.toList a) w):=by
  have O1:=fun W=>qkx s a W hs ha;have hml:=qhm (s.data.toList.drop a) 8 (by omega)
  rw[hj,if_neg (by omega),if_neg (by omega)]at O1
  rw[List.length_drop,qg,hj]at hml;obtain⟨_,_,_,_,o5,o6⟩:=qtz j h8;unfold opA at O1;rw[qnt o5,qnt o6]at O1;obtain⟨p,hp⟩:∃ p,a+(sgn j).length=p:=⟨_,rfl⟩;rw[hp]at O1;have hps:p≤s.size:=by omega
  have hz:=qgj s.data.toList p (by rw[qg];exact hps)
  rw[qg]at hz;have RN:=fun W=>qjf s (p:Int) 6 W (by unfold maxLen;omega)
  have hr:runI s.data.toList (p:Int) 6=((skL s.data.toList p:Nat):Int):=by rw[qdl s p 6 hps];unfold skL;omega
  rw[hr]at RN;have RW:=fun W=>qbbd j h8 s (skL s.data.toList p) W hs hz.2
  have hC:clP s.data.toList a=match rwL s.data.toList j (skL s.data.toList p)with
    | (.bad e _,z)=>⟨j,pep0,[],false,a,z,e⟩
    | (.ok x t st,z)=>⟨j,x,t,st,a,skL s.data.toList z,if skL s.data.toList z<s.data.toList.length∧s.data.toList[skL s.data.toList z]?≠some 44 then 10 else 0⟩:=by
    unfold clP;rw[hj,if_neg (by omega),hp]
    rfl
  have HZ:∀ x t st z,rwL s.data.toList j (skL s.data.toList p)=(.ok x t st,z)→z≤s.size:=fun x t st z h=>by
    rw[rwL_of]at h;unfold rwOf at h;have hn:=qlj (s.data.toList.drop (skL s.data.toList p));rw[List.length_drop,qg]at hn;split at h
    · cases h
    · split at h
      · cases h
      · cases h;omega
  generalize hG:clP s.data.toList a=G at *;generalize skL s.data.toList p=q at *;generalize rwL s.data.toList j q=RZ at *;obtain⟨RR,z⟩:=RZ;replace RN:=qb RN;replace RW:=qb RW;replace O1:=qb O1;have HC:=qb hC;have HF1:=qb (qnt o5);have HF2:=qb (qnt o6);clear hC hG hml o5 o6 hr hj;have R0:=RC.start w a;cases RR with
  | bad er pp=>
    dsimp only at HC;go_enter Tryz.func88,Tryz.ntmps88
    (go_wp2_with fail);generalize (w.alloc _).alloc _=V0 at *;refine(O1.out _).mono ?_;rintro e w1 ⟨rfl,b1⟩;have R2:=R0.below b1;obtain⟨x0,x1,x2,x3,x4,x5,x6,x7,x8,x9,x10,x11,x12,x13,x14,x15,x16,x17,x_0,x_1,x_2,x_3,x_4,x_5,x_6,x_7,x_8,x_9,x_10,x_11,x_12,x_13,x_14,x_15,x_16,x_17⟩:=qdc R2.top;obtain⟨W6,hW6,R6,_⟩:=R2.op6 (.string (qd (sgn j))) (.func (.func (rdF j)) #[] #[]) (.func (.func (hoF j)) #[] #[]) (.bool (opB j)) (.int .i64 (p:Int)) (.int .i64 0);have HW6:=qb hW6;have HR6:=qb R6;have h6:w.heap.size+2≤W6.heap.size:=R6.lt;clear R0 R2 b1 O1 hW6 R6;go_upto_region 3 with fail
    rw[←HW6.out];clear  x0 x_0 x1 x_1 x2 x_2 x3 x_3 x4 x_4 x5 x_5 x6 x_6 x7 x_7 x8 x_8 x9 x_9 x10 x_10 x11 x_11 x12 x_12 x13 x_13 x14 x_14 x15 x_15 x16 x_16 x17 x_17 HW6;obtain⟨x0,x1,x2,x3,x4,x5,x6,x7,x8,x9,x10,x11,x12,x13,x14,x15,x16,x17,x_0,x_1,x_2,x_3,x_4,x_5,x_6,x_7,x_8,x_9,x_10,x_11,x_12,x_13,x_14,x_15,x_16,x_17⟩:=qdc HR6.out.top;go_upto_region 4 with fail
    go_region_with
      ((first
        | (go_at_call 60;refine(RN.out _).mono ?_;rintro e w3 ⟨rfl,rfl⟩)
        | (go_at_call 116;refine(RW.out _).mono ?_;rintro e w3 ⟨b3,hne,rfl⟩;unfold zerV;have R3:=(HR6.out.below (Below.refl _ _).drew).below b3;have HR3:=qb R3;have HNE:=qb hne;obtain⟨d0,d1,d2,d3,d4,d5,d6,d7,d8,d9,d10,d11,d12,d13,d14,d15,d16,d17,e0,e1,e2,e3,e4,e5,e6,e7,e8,e9,e10,e11,e12,e13,e14,e15,e16,e17⟩:=qdc R3.top;clear R3 hne b3)
        | fail))
    all_goals
      obtain⟨W13,hW13,R13,_⟩:=HR3.out.as13 (.string ⟨#[]⟩) (.slice none 0 0) (.int .u8 0) (.string ⟨#[]⟩) (.bool false) (.string ⟨#[]⟩) (.bool false) (.string ⟨#[]⟩) (.slice none 0 0) (.string ⟨#[]⟩) (.bool false) (.int .i64 (z:Int)) (.int .i64 er);rw[←hW13];have HR13:=qb R13;have n1:(er==0)=false:=by have:=HNE.out;simpa using this
      clear  x0 x_0 x1 x_1 x2 x_2 x3 x_3 x4 x_4 x5 x_5 x6 x_6 x7 x_7 x8 x_8 x9 x_9 x10 x_10 x11 x_11 x12 x_12 x13 x_13 x14 x_14 x15 x_15 x16 x_16 x17 x_17 d0 d1 d2 d3 d4 d5 d6 d7 d8 d9 d10 d11 d12 d13 d14 d15 d16 d17 e0 e1 e2 e3 e4 e5 e6 e7 e8 e9 e10 e11 e12 e13 e14 e15 e16 e17 R13 hW13;have z17:=qc 17 HR13.out.top rfl;obtain⟨C9,B9,T9⟩:=HR13.out.copy rfl;have HC9:=qb C9;have HB9:=qb B9;have HT9:=qb T9;have RG:=qb (qht HR13.out.top);have TH:=qb (qgn (n:=18) HR13.out.res (Nat.le_refl _));clear C9 B9 T9;go_upto_region 7 with fail
      refine wp_region_lit (wpList_load_mid rfl 61 (.tmp 5) rfl (w.heap.size+1) 0 rfl _ _ RG.out Tryz.underlying61 rfl qhf ?_);refine wpList_store_mid rfl 61 (.tmp 4) (.tmp 49) rfl w.heap.size 0 _ rfl rfl TH.out qhf (by simp[Value.oneCell']) (wpList_nil ?_)
      (go_wp2_with fail);refine fin88 _ _ w.heap.size _ rfl rfl HC9.out ?_;rw[HC.out];exact qbkm j a z er HF1.out HF2.out HB9.out
  | ok x t st=>
    dsimp only at HC;go_enter Tryz.func88,Tryz.ntmps88
    (go_wp2_with fail);generalize (w.alloc _).alloc _=V0 at *;refine(O1.out _).mono ?_;rintro e w1 ⟨rfl,b1⟩;have R2:=R0.below b1;obtain⟨x0,x1,x2,x3,x4,x5,x6,x7,x8,x9,x10,x11,x12,x13,x14,x15,x16,x17,x_0,x_1,x_2,x_3,x_4,x_5,x_6,x_7,x_8,x_9,x_10,x_11,x_12,x_13,x_14,x_15,x_16,x_17⟩:=qdc R2.top;obtain⟨W6,hW6,R6,_⟩:=R2.op6 (.string (qd (sgn j))) (.func (.func (rdF j)) #[] #[]) (.func (.func (hoF j)) #[] #[]) (.bool (opB j)) (.int .i64 (p:Int)) (.int .i64 0);have HW6:=qb hW6;have HR6:=qb R6;have h6:w.heap.size+2≤W6.heap.size:=R6.lt;clear R0 R2 b1 O1 hW6 R6;go_upto_region 3 with fail
    rw[←HW6.out];clear  x0 x_0 x1 x_1 x2 x_2 x3 x_3 x4 x_4 x5 x_5 x6 x_6 x7 x_7 x8 x_8 x9 x_9 x10 x_10 x11 x_11 x12 x_12 x13 x_13 x14 x_14 x15 x_15 x16 x_16 x17 x_17 HW6;obtain⟨x0,x1,x2,x3,x4,x5,x6,x7,x8,x9,x10,x11,x12,x13,x14,x15,x16,x17,x_0,x_1,x_2,x_3,x_4,x_5,x_6,x_7,x_8,x_9,x_10,x_11,x_12,x_13,x_14,x_15,x_16,x_17⟩:=qdc HR6.out.top;go_upto_region 4 with fail
    have E1:=qb (fun W=>qbdt s z W hs (HZ x t st z rfl));generalize skL s.data.toList z=zz at *;generalize hEE:(if zz<s.data.toList.length∧s.data.toList[zz]?≠some 44 then (10:Int) else 0)=EE at *;clear hEE
    go_region_with
      ((first
        | (go_at_call 60;refine(RN.out _).mono ?_;rintro e w3 ⟨rfl,rfl⟩)
        | (go_at_call 116;refine(RW.out _).mono ?_;rintro e w3 ⟨b3,vr,vl,rfl,t1,t2,fr1,fr2⟩;obtain⟨r1,c1,rfl,_⟩:=id t1;obtain⟨q1,d1',rfl,_⟩:=id t2;unfold verV;have R3:=(HR6.out.below (Below.refl _ _).drew).below b3;have HR3:=qb R3;have T1:=qb t1;have T2:=qb t2;have F1:=qb (fr1.mono h6);have F2:=qb (fr2.mono h6);obtain⟨d0,d1,d2,d3,d4,d5,d6,d7,d8,d9,d10,d11,d12,d13,d14,d15,d16,d17,e0,e1,e2,e3,e4,e5,e6,e7,e8,e9,e10,e11,e12,e13,e14,e15,e16,e17⟩:=qdc R3.top;clear R3 b3 t1 t2 fr1 fr2)
        | fail))
    all_goals
      obtain⟨W13,hW13,R13,T13⟩:=HR3.out.as13 (.string (qd x.ep)) (.slice r1 x.rel.length c1) (.int .u8 x.c) (.string (qd x.n)) (.bool x.b) (.string (qd x.m)) (.bool x.d) (.string (qd x.k)) (.slice q1 x.loc.length d1') (.string (qd t)) (.bool st) (.int .i64 (z:Int)) (.int .i64 0);rw[←hW13];have HR13:=qb R13;have U1:=qb (T13 _ _ T1.out F1.out);have U2:=qb (T13 _ _ T2.out F2.out);clear  x0 x_0 x1 x_1 x2 x_2 x3 x_3 x4 x_4 x5 x_5 x6 x_6 x7 x_7 x8 x_8 x9 x_9 x10 x_10 x11 x_11 x12 x_12 x13 x_13 x14 x_14 x15 x_15 x16 x_16 x17 x_17 d0 d1 d2 d3 d4 d5 d6 d7 d8 d9 d10 d11 d12 d13 d14 d15 d16 d17 e0 e1 e2 e3 e4 e5 e6 e7 e8 e9 e10 e11 e12 e13 e14 e15 e16 e17 R13 T13 hW13;have z16:=qc 16 HR13.out.top rfl;have z17:=qc 17 HR13.out.top rfl;(go_wp2_with fail);refine(E1.out _).mono ?_;rintro e w4 ⟨rfl,b4⟩;have R4:=HR13.out.below b4;have V1:=qb (U1.out.below b4);have V2:=qb (U2.out.below b4);clear z16 z17;have z16:=qc 16 R4.top rfl;have z17:=qc 17 R4.top rfl;have y16:=qf 16 R4.top;have y17:=qf 17 R4.top;obtain⟨W14,hW14,R14,T14⟩:=R4.en2 (.int .i64 (zz:Int)) (.int .i64 EE);have HW14:=qb hW14;have HR14:=qb R14;have X1:=qb (T14 _ _ V1.out F1.out);have X2:=qb (T14 _ _ V2.out F2.out);clear hW14 R14 T14 R4 b4;go_upto_region 7 with fail
      rw[←HW14.out];obtain⟨C9,B9,T9⟩:=HR14.out.copy rfl;have HC9:=qb C9;have HB9:=qb B9;have HT9:=qb T9;have RG:=qb (qht HR14.out.top);have TH:=qb (qgn (n:=18) HR14.out.res (Nat.le_refl _));clear C9 B9 T9;refine wp_region_lit (wpList_load_mid rfl 61 (.tmp 5) rfl (w.heap.size+1) 0 rfl _ _ RG.out Tryz.underlying61 rfl qhf ?_);refine wpList_store_mid rfl 61 (.tmp 4) (.tmp 49) rfl w.heap.size 0 _ rfl rfl TH.out qhf (by simp[Value.oneCell']) (wpList_nil ?_)
      (go_wp2_with fail);refine fin88 _ _ w.heap.size _ rfl rfl HC9.out ?_;rw[HC.out];exact qbpn j a zz EE x t st _ _ HF1.out HF2.out HB9.out (HT9.out _ _ X1.out F1.out) (HT9.out _ _ X2.out F2.out) (F1.out.mono (Nat.le_add_right _ 2)) (F2.out.mono (Nat.le_add_right _ 2))
end Go.Proofs.YtabmfdedbpmfmaaGreat
