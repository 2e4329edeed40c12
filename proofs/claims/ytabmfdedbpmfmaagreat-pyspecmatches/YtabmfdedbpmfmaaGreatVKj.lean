/- Walks: the latest of the versions that a text wants, for the -/
import Derived.Laws.AppendOwnNone
import Derived.Test.YtabmfdedbpmfmaaGreatVJg
import Derived.Test.YtabmfdedbpmfmaaGreatVKi
import Derived.Test.YtabmfdedbpmfmaaGreatVYd
namespace Go.Proofs.YtabmfdedbpmfmaaGreat
open Go.RowKit Go.Shelf
set_option linter.unusedVariables false
set_option maxHeartbeats 8000000
set_option maxRecDepth 100000
theorem lat_none (ts:List QB):qgg (fun _=>false) ts=([],false):=by
 unfold qgg;generalize hb:(([],false):QB×Bool)=b;clear hb
 induction ts with
 | nil=>rfl
 | cons t r ih=>rw[List.foldl_cons];exact ih
theorem pick_doc (l:QB) (ts:List QB):qwg l ts=qgg (qcd l) ts:=by
 unfold qwg;split
 ·rename_i h
  congr 1
  funext u
  unfold qcd;rw[decide_eq_true h,Bool.true_and]
 ·rename_i h;rw[show qcd l=fun _=>false by funext u;unfold qcd;rw[decide_eq_false h,Bool.false_and],lat_none]
theorem qqg {P:Program} {ops:Array Oper} {Q:Exit→Act→World→Prop} {rest:List Oper} {o:Oper} {a:Act} {w w':World} (hgd:o.guard=none) (s x:Operand) (t:TypeId)
  (hop:o.op=Op.call { callee:=Callee.builtin Builtin.append,args:=#[s,x],argTypes:=#[t,t] }) (v u v':Value) (hs:a.eval s=v) (hx:a.eval x=u)
  (hrun:(Builtin.append_ #[t,t] o.type #[v,u]).run P w=.ok v' w') (h:wpList P ops Q rest (a.put o.dst v') w'):wpList P ops Q (o::rest) a w:=
 wpList_plain hgd fun _ hK=>by
  unfold Oper.wp execOp;simp only[hop,resolve,invoke,builtin,Sem.run_bind,Sem.run_pure,Result.andThen_ok,List.map_toArray,List.map_cons,List.map_nil,hs,hx,hrun];exact hK _ _ h
theorem qbgk (s:QY) (ts:List QB) (v:Value) (w:World) (hv:qx w v ts) (hln:ts.length≤9000000000000000000) (hz:∀ t∈ts,t.length≤140737488351232) :
  Calls Tryz.prog 21 #[.string s,v] w fun e w'=>e=.returned (.tuple #[.string (qd (qgg (qcd s.data.toList) ts).1),.bool (qgg (qcd s.data.toList) ts).2])∧Below w.heap.size w w':=by
 have HP:=qb (fun (u:QY) (W:World) (hu:u.size≤140737488351232)=>qqm s u W hu);have HZ:=qb hz;clear hz;obtain⟨p,hp⟩:∃ p,qcd s.data.toList=p:=⟨_,rfl⟩;rw[hp]at HP ⊢;clear hp;obtain⟨a,k,rfl,_⟩:=id hv;obtain⟨n,hn⟩:∃ n,ts.length=n:=⟨_,rfl⟩;rw[hn]at hv hln ⊢;have HN:=qb hn;have HV:=qb hv;clear hn hv;go_enter Tryz.func21,Tryz.ntmps21
 (go_wp2_with fail);go_loopw [6,7,8] (fun x f j wr=>∃ (i:Nat) (S:QB) (F:Bool),i≤n∧x=.string (qd S)∧f=.bool F∧j=.int .i64 i∧Hid (Below w.heap.size w wr)∧Hid ((ts.take i).foldl (latF p) ([],false)=(S,F))) (fun _ _ j _=>n-(intOf j).toNat)
 case atStart=>exact⟨0,[],false,by omega,rfl,rfl,rfl,Below.refl _ _,rfl⟩
 case round=>
  obtain⟨i,S,F,hin,rfl,rfl,rfl,HB,HA⟩:=hrel
  by_cases hlt:i<n
  ·have hlt':(i:Int)<(n:Int):=by omega
   have hi0:(0:Int)≤(i:Int):=by omega
   have i1:i<ts.length:=by rw[HN.out];exact hlt
   obtain⟨a',k',hv',h0|⟨b,o,ha,hbl,hrow⟩⟩:=HV.out
   ·exfalso;rw[h0]at i1;simp at i1
   injection hv' with z1 z2 z3;subst z1;subst z3;clear z2;subst ha;have dd:=hrow i i1;have h2:=qbhn p ts i i1;rw[HA.out]at h2;have h3:latF p (S,F) ts[i]=if (p ts[i]&&(!F||decide (0<cmpT ts[i] S)))=true then (ts[i],true) else (S,F):=rfl;rw[h3]at h2;have P1:=qb (fun (W:World)=>(by have:=HP.out (qd ts[i]) W (by rw[qr];exact HZ.out _ (List.getElem_mem _));rw[qj]at this;exact this:Calls Tryz.prog 23 #[.string s,.string (qd ts[i])] W fun e W'=>e=.returned (.bool (p ts[i]))∧Below W.heap.size W W'))
   have C1:=qb (fun (W:World)=>(by have:=qbdd (qd ts[i]) (qd S) W;rw[qj,qj]at this;exact this:Calls Tryz.prog 51 #[.string (qd ts[i]),.string (qd S)] W fun e W'=>e=.returned (.int .i64 (cmpT ts[i] S))∧Below W.heap.size W W'))
   have H2:=qb h2;have HD:Hid (∀ W,Below w.heap.size w W→W.cell? ⟨b,o+i,none⟩=some (.string (qd ts[i]))):=fun W hW=>(hW.cell hbl).trans dd;clear h2 h3 hrow dd hbl;generalize p ts[i]=X at *;generalize cmpT ts[i] S=C at *;generalize ts[i]=t at *;clear i1;have d0:=HD.out _ HB.out;(go_wp2_with fail);refine(P1.out _).mono ?_;rintro e W1 ⟨rfl,b1⟩;have HB1:=qb (HB.out.trans (b1.mono HB.out.size));clear b1 HB P1 d0;have d1:=HD.out _ HB1.out;cases X with
   | false=>
    (go_wp2_with fail);go_roundw
    case rel=>exact⟨i+1,S,F,by omega,rfl,rfl,by go_num,HB1,by show _=_;rw[H2.out];rfl⟩
    case measure=>simp[intOf];omega
   | true=>
    cases F with
    | false=>
     (go_wp2_with fail);go_roundw
     case rel=>exact⟨i+1,t,true,by omega,rfl,rfl,by go_num,HB1,by show _=_;rw[H2.out];rfl⟩
     case measure=>simp[intOf];omega
    | true=>
     (go_wp2_with fail);refine(C1.out _).mono ?_;rintro e W2 ⟨rfl,b2⟩;have HB2:=qb (HB1.out.trans (b2.mono HB1.out.size));clear b2 HB1 C1 d1;have d2:=HD.out _ HB2.out
     by_cases hC:0<C
     ·have hd:decide (0<C)=true:=by simpa using hC
      (go_wp2_with fail);go_roundw
      case rel=>exact⟨i+1,t,true,by omega,rfl,rfl,by go_num,HB2,by show _=_;rw[H2.out,hd];rfl⟩
      case measure=>simp[intOf];omega
     ·have hd:decide (0<C)=false:=by simpa using hC
      (go_wp2_with fail);go_roundw
      case rel=>exact⟨i+1,S,true,by omega,rfl,rfl,by go_num,HB2,by show _=_;rw[H2.out,hd];rfl⟩
      case measure=>simp[intOf];omega
  ·have hlt':¬ (i:Int)<(n:Int):=by omega
   have hX:qgg p ts=(S,F):=by
    have:=HA.out
    rwa [List.take_of_length_le (by rw[HN.out];omega)]at this
   have HX:=qb hX;clear hX;(go_wp2_with fail);go_ret2
   exact⟨by rw[HX.out];rfl,HB.out⟩
theorem qxf (a1 a2:Option Addr) (n c1 c2:Nat) (ts:List QB) (hl:ts.length=n) (hn:n≤9000000000000000000) (w:World) (hT1:qx w (.slice a1 n c1) ts) (hT2:qx w (.slice a2 n c2) ts) :
  Calls Tryz.prog 24 #[.slice a1 n c1,.slice a2 n c2] w fun e w'=>e=.returned (.bool true)∧Below w.heap.size w w':=by
 have HT1:=qb hT1;have HT2:=qb hT2;have HL:=qb hl;clear hT1 hT2 hl;have hb:((n:Int) != (n:Int))=false:=by simp
 go_enter Tryz.func24,Tryz.ntmps24
 (go_wp2_with fail);go_loopw [5] (fun x wr=>∃ i:Nat,i≤n∧x=.int .i64 i∧Below w.heap.size w wr) (fun x _=>n-(intOf x).toNat)
 case atStart=>exact⟨0,by omega,rfl,Below.refl _ _⟩
 case round=>
  obtain⟨i,hi,rfl,hB⟩:=hrel
  by_cases hlt:i<n
  ·have hlt':(i:Int)<(n:Int):=by omega
   have i1:i<ts.length:=by rw[HL.out];exact hlt
   obtain⟨b1,o1,rfl,d1⟩:=qx.some (HT1.out.below hB) (by omega)
   obtain⟨b2,o2,rfl,d2⟩:=qx.some (HT2.out.below hB) (by omega)
   have e1:=d1 i i1;have e2:=d2 i i1;clear d1 d2;generalize qd ts[i]=x at *;clear i1;(go_wp2_with fail);go_quiet (fail)
   (go_wp2_with fail);go_roundw
   case rel=>exact⟨i+1,by omega,by go_num,hB.trans (qz _ _ _)⟩
   case measure=>simp[intOf];omega
  ·have hlt':¬ (i:Int)<(n:Int):=by omega
   (go_wp2_with fail);go_ret
   exact⟨rfl,hB⟩
theorem str_ones (ts:List QB):∀ u∈ts.map (fun t=>Value.string (qd t)),u.oneCell'=true:=by
 intro u hu;obtain⟨t,_,rfl⟩:=List.mem_map.1 hu
 rfl
theorem app_all {W:World} {B:Nat} (hB:W.heap[B]? = some (.cells #[] 9 (0,0))) {a:Option Addr} {n k:Nat} {ts:List QB} (hT:qx W (.slice a n k) ts) (hl:ts.length=n) (hnone:a=none→n=0∧k=0) (hn:n*16≤140737488355328) :
 ∃ a' k' W',(Builtin.append_ #[37,37] 37 #[.slice (some ⟨B,0,none⟩) 0 0,.slice a n k]).run Tryz.prog W=.ok (.slice a' n k') W'∧qx W' (.slice a' n k') ts∧W.grownBy W' (some B):=by
  obtain⟨i0,hi,hz0,hz1,hz2⟩:=info_parts Tryz.info9;have hown:W.ownsRow B 9 1 (.slice (some ⟨B,0,none⟩) 0 0) 0 []:=⟨rfl,.inr ⟨B,0,#[],rfl,Nat.le_refl _,hB,Nat.le_refl _,Nat.zero_le _,rfl,rfl⟩⟩;cases a with
  | none=>
    obtain⟨rfl,rfl⟩:=hnone rfl;obtain rfl:ts=[]:=List.length_eq_zero_iff.1 hl;exact⟨_,_,W,run_append_owned_none W B 37 37 9 i0 1 Tryz.underlying37 hi _ _ [] hown,⟨_,0,rfl,.inl rfl⟩,World.grownBy.refl _ _⟩
  | some ad=>
    have hlt:=(Array.getElem?_eq_some_iff.1 hB).1
    obtain ⟨v',W',r1,r2,r3,_,_⟩:=run_append_own_at (P:=Tryz.prog) (w:=W) B 37 37 9 i0 (.string .empty) 1 16 Tryz.underlying37 hi hz0 hz1 hz2 rfl (by decide) _ 0 [] hown ad n k (ts.map (fun t=>Value.string (qd t))) (by rw[List.length_map,hl];omega)
      (fun j u hu=>by
        obtain⟨hj,hju⟩:=List.getElem?_eq_some_iff.1 hu;rw[List.length_map]at hj;rw[List.getElem_map]at hju;obtain⟨b,o,hab,hrow⟩:=qx.some hT (by omega)
        injection hab with hab;subst hab;rw[←hju,←hrow j hj]
        congr 1
        unfold Addr.add;split
        · rename_i h0;subst h0;rfl
        · rfl) (str_ones ts) (by unfold maxLen;omega) (by omega) (Nat.le_of_lt hlt)
    rw[Nat.zero_add]at r2;obtain⟨a',k',rfl,hc⟩:=qcl r2;refine⟨a',k',W',r1,⟨a',k',by rw[hl],?_⟩,r3⟩
    rcases hc with h0|⟨g,rfl,hg,hc⟩
    · exact .inl (List.length_eq_zero_iff.1 (by omega))
    · exact .inr ⟨g,0,rfl,hg,fun i hi=>by rw[Nat.zero_add];exact hc i _ (by rw[List.nil_append,List.getElem?_map,List.getElem?_eq_getElem hi];rfl)⟩
theorem qbcm (s u:QY) (a:Option Addr) (n k:Nat) (ts:List QB) (w:World) (hT:qx w (.slice a n k) ts) (hl:ts.length=n) (hnone:a=none→n=0∧k=0) (hn:n*16≤140737488355328) (hu:u.size≤140737488351232) (hz:∀ t∈ts,t.length≤140737488351232) :
  Calls Tryz.prog 5 #[.string s,.string u,.slice a n k] w fun e w'=>e=.returned (.bool true)∧Below w.heap.size w w':=by
 have b0:=(Below.refl _ w).alloc (Nat.le_refl _) (.cells #[] 9);obtain⟨a1,k1,w1,hrun,hT1,hg⟩:=app_all (World.alloc_heap_new w (.cells #[] 9)) (hT.below b0) hl hnone hn;have B1:=qb (b0.grown hg (Nat.le_trans (Nat.le_refl _) b0.size) (fun q hq=>by simp only[Option.some.injEq]at hq;omega))
 have HT:=qb hT;have HT1:=qb hT1;have HLN:Hid (ts.length≤9000000000000000000):=by show _≤_;omega
 have HL:=qb hl;have HN9:Hid (n≤9000000000000000000):=by show _≤_;omega
 have PK:=qb (fun v W h=>by have:=qwf s v ts W h HLN.out hz;rw[pick_doc]at this;exact this)
 have RK:=qb (fun v W h=>qbgk s ts v W h HLN.out hz);have MA:=qb (fun W=>qcq s u W hu);have RM:=qb (fun W=>qqm s u W hu);have AW:=qb qbfs;generalize qcd s.data.toList=p at *;generalize p u.data.toList=Y at *;generalize qgg p ts=X at *;obtain⟨T,ok⟩:=X;generalize qd T=tt at *;clear b0 hT hl hnone hn hT1 hg hu hz;go_enter Tryz.func5,Tryz.ntmps5
 go_wp2_with (at_builtin;refine qqg rfl _ _ 37 rfl _ _ _ rfl rfl hrun ?_)
 refine(PK.out _ _ HT1.out).mono ?_;rintro e w2 ⟨rfl,b2⟩;have B2:=qb (B1.out.trans (b2.mono B1.out.size));have HT2:=qb (HT1.out.below b2);clear b2 PK hrun;(go_wp2_with fail);refine(RK.out _ _ (HT.out.below B2.out)).mono ?_;rintro e w3 ⟨rfl,b3⟩;have B3:=qb (B2.out.trans (b3.mono B2.out.size));have HT3:=qb (HT2.out.below b3);clear b3 RK;(go_wp2_with fail);refine(MA.out _).mono ?_;rintro e w4 ⟨rfl,b4⟩;have B4:=qb (B3.out.trans (b4.mono B3.out.size));have HT4:=qb (HT3.out.below b4);clear b4 MA;(go_wp2_with fail);refine(RM.out _).mono ?_;rintro e w5 ⟨rfl,b5⟩;have B5:=qb (B4.out.trans (b5.mono B4.out.size));have HT5:=qb (HT4.out.below b5);clear b5 RM;have y1:(Y==Y)=true:=by simp
 have y2:(ok==ok)=true:=by simp
 have y3:(tt.toList==tt.toList)=true:=by simp
 (go_wp2_with fail);refine(qxf a1 a n k1 k ts HL.out HN9.out _ HT5.out (HT.out.below B5.out)).mono ?_;rintro e w6 ⟨rfl,b6⟩;have B6:=qb (B5.out.trans (b6.mono B5.out.size));clear b6;(go_wp2_with fail);refine(AW.out _).mono ?_;rintro e w7 ⟨rfl,b7⟩;have B7:=qb (B6.out.trans (b7.mono B6.out.size));clear b7;(go_wp2_with fail);go_ret
 exact⟨rfl,B7.out⟩
end Go.Proofs.YtabmfdedbpmfmaaGreat
