/- Walks: the iterator over runs of a class with separators bet -/
import Derived.Test.YtabmfdedbpmfmaaGreatVPf
namespace Go.Proofs.YtabmfdedbpmfmaaGreat
open Go.RowKit Go.Shelf
open Go renaming World → QW
set_option linter.unusedVariables false
set_option maxHeartbeats 2000000
set_option maxRecDepth 100000
attribute [local go_sem] Oper.semAt_some
def qbf (l:QB) (k:Int) (seps:QB) (a:Nat):List (Nat×Nat):=
 if qn k (l.drop a)=0 then [] else
  (a,a+qn k (l.drop a))::if h:∃ c,l[a+qn k (l.drop a)]? = some c∧seps.contains c=true then qbf l k seps (a+qn k (l.drop a)+1) else []
 termination_by l.length-a
 decreasing_by
  obtain⟨c,hc,_⟩:=h;have:=(List.getElem?_eq_some_iff.1 hc).1;omega
theorem qgq (l:QB) (k:Int) (seps:QB) (a:Nat) (h:qn k (l.drop a)=0):qbf l k seps a=[]:=by
 rw[qbf,if_pos h]
theorem qhl (l:QB) (k:Int) (seps:QB) (a e:Nat) (he:a+qn k (l.drop a)=e) (hn:e≠a) (c:UInt8) (hc:l[e]? = some c) (hs:seps.contains c=true):qbf l k seps a=(a,e)::qbf l k seps (e+1):=by
 subst he;rw[qbf,if_neg (by omega),dif_pos ⟨c,hc,hs⟩]
theorem qkq (l:QB) (k:Int) (seps:QB) (a e:Nat) (he:a+qn k (l.drop a)=e) (hn:e≠a) (h:∀ c,l[e]? = some c→seps.contains c=false):qbf l k seps a=[(a,e)]:=by
 subst he;rw[qbf,if_neg (by omega),dif_neg]
 rintro⟨c,hc,hs⟩;rw[h c hc]at hs;cases hs
theorem qjv (l:QB) (k:Int) (seps:QB):∀ (n a:Nat),l.length-a=n→(qbf l k seps a).length≤l.length-a:=by
 intro n
 induction n using Nat.strongRecOn with
 | _ n ih=>
  intro a hn
  by_cases h0:qn k (l.drop a)=0
  ·rw[qgq l k seps a h0];simp
  ·have hle:=qjg k (l.drop a);rw[List.length_drop]at hle
   by_cases h:∃ c,l[a+qn k (l.drop a)]? = some c∧seps.contains c=true
   ·obtain⟨c,hc,hs⟩:=h;have hlt:=(List.getElem?_eq_some_iff.1 hc).1;rw[qhl l k seps a _ rfl (by omega) c hc hs]
    have:=ih (l.length-(a+qn k (l.drop a)+1)) (by omega) (a+qn k (l.drop a)+1) rfl
    simp only[List.length_cons];omega
   ·rw [qkq l k seps a _ rfl (by omega) (fun c hc=>by
     cases hs:seps.contains c
     ·rfl
     ·exact absurd ⟨c,hc,hs⟩ h)]
    simp only[List.length_cons,List.length_nil];omega
def qkv (b c d:Nat) (W W':QW):Prop:=W'.heap[b]? = W.heap[b]?∧W'.heap[c]? = W.heap[c]?∧W'.heap[d]? = W.heap[d]?
theorem qkv.refl (b c d:Nat) (W:QW):qkv b c d W W:=⟨rfl,rfl,rfl⟩
theorem qkv.trans {b c d:Nat} {A B C:QW} (h:qkv b c d A B) (k:qkv b c d B C):qkv b c d A C:=⟨k.1.trans h.1,k.2.1.trans h.2.1,k.2.2.trans h.2.2⟩
theorem three_b {b c d:Nat} {w:QW} (hb:b<w.heap.size) (hc:c<w.heap.size) (hd:d<w.heap.size):∀ (W:QW) (l:Nat) (o o':Obj),w.heap.size≤l→W.heap[l]? = some o→o.isCells=false→o.isWalk=false→qkv b c d W (W.putObj l o'):=
 fun W l o o' hl _ _ _=>⟨World.putObj_heap_other (by omega),World.putObj_heap_other (by omega),World.putObj_heap_other (by omega)⟩
theorem qbhb:∀ (seps:QB) (c:UInt8),(0≤Lib.indexByte seps c)↔seps.contains c=true
 | [],c=>by simp[Lib.indexByte]
 | d :: r,c=>by
  have ih:=qbhb r c;have hge:=Lib.indexByte_ge r c;unfold Lib.indexByte
  by_cases hd:(d==c)=true
  ·rw[if_pos hd];obtain rfl:d=c:=by simpa using hd
   simp
  ·rw [if_neg hd];have hd':(c==d)=false:=by rw[beq_eq_false_iff_ne];rintro rfl;exact hd (by simp)
   rw[List.contains_cons,hd',Bool.false_or,←ih]
   by_cases hi:(Lib.indexByte r c==-1)=true
   ·rw[if_pos hi];have:Lib.indexByte r c=-1:=by simpa using hi
    rw[this]
   ·rw[if_neg hi];have:¬ Lib.indexByte r c=-1:=by simpa using hi
    omega
theorem qbcn (s:QY) (e:Nat) (h:e<s.size):s.data.toList[e]? = some s[e]:=by
 rw[List.getElem?_eq_getElem (by rw[qg];exact h)];rfl
theorem qbnt (s:QY) (e:Nat) (h:¬ e<s.size):s.data.toList[e]? = none:=List.getElem?_eq_none (by rw[qg];omega)
theorem qsb (W:QW) (m:Nat):W.grownBy (W.drewN m) none:=⟨rfl,rfl,rfl,Nat.le_refl _,fun _ _ _=>rfl⟩
theorem qlg {β : Type} {B:Nat} {J:β→QW→Prop} (h:AbidesFrom B J) {s:β} {W:QW} (hs:J s W) (m:Nat):J s (W.drewN m):=h s W (W.drewN m) none hs (qsb W m) (fun r e=>by cases e)
theorem qmg {W:QW} {B:Nat} {t:TypeId} {v:Value} (h:Boxed W B t v) (m:Nat):Boxed (W.drewN m) B t v:=h.kept (qsb W m) (by simp)
theorem runs1_in (n:Nat) (hn:1≤n) (l Ba Bs Bc Bp:Nat) (s p:QY) (a:Nat) (kc:Int) (ha:a≤s.size) (hs:s.size≤64) (J Jx:List (Nat×Nat)→QW→Prop) (B0:Nat) (hJ:AbidesFrom B0 J)
 (hY:∀ pre x W,J pre W→pre.length<(qbf s.data.toList kc p.data.toList a).length→YieldAt Fence.wide (n-1) Tryz.prog l #[.string (s.extract x.1 x.2),.int .i64 (x.2:Int)] W fun e W'=>
 (e=.returned (.bool true)∧J (pre++[x]) W'∧qkv Bs Bc Bp W W')∨(e=.returned (.bool false)∧Jx (pre++[x]) W'))
 (W:QW) (hBa:Boxed W Ba 3 (.int .i64 (a:Int))) (hBs:Boxed W Bs 9 (.string s)) (hBc:Boxed W Bc 3 (.int .i64 kc)) (hBp:Boxed W Bp 9 (.string p)) (h0:J [] W) :
 CallsIn Fence.wide n Tryz.prog 163 #[.func (.yield l) #[] #[],.pointer (some ⟨Ba,0,none⟩),.pointer (some ⟨Bs,0,none⟩),.pointer (some ⟨Bc,0,none⟩),.pointer (some ⟨Bp,0,none⟩)] W fun e W'=>(∃ v,e=.returned v) ∧
 ((∃ ys,ys=qbf s.data.toList kc p.data.toList a∧J ys W')∨(∃ pre,pre <+: qbf s.data.toList kc p.data.toList a∧Jx pre W')):=by
  have cA0:=hBa.cell;refine callsIn_of_wp Tryz.func163 rfl trivial ?_ rfl;simp only[Tryz.ntmps163,List.size_toArray,List.length_cons,List.length_nil,Nat.reduceAdd,Nat.reduceSub,Array.replicate_succ,Array.replicate_zero,List.push_toArray,List.append_toArray,List.nil_append,List.cons_append];gi_wp2
  gi_loopw [6] (fun i wr=>∃ (k:Nat) (pre:List (Nat×Nat)),k≤s.size∧i=.int .i64 k∧J pre wr∧Boxed wr Bs 9 (.string s)∧Boxed wr Bc 3 (.int .i64 kc)∧Boxed wr Bp 9 (.string p) ∧
      Hid (qbf s.data.toList kc p.data.toList a=pre++qbf s.data.toList kc p.data.toList k))
    (fun i _=>s.size-(intOf i).toNat)
  case atStart=>exact⟨a,[],ha,rfl,h0,hBs,hBc,hBp,rfl⟩
  case round=>
    obtain⟨k,pre,hk,rfl,hJs,bS,bC,bP,HR⟩:=hrel;have cS:=bS.cell;have cC:=bC.cell;have cP:=bP.cell;have hle:=qds kc s k hk;have C:=qjf s (k:Int) kc wr (by unfold maxLen;omega)
    rw[qdl s k kc hk]at C;have HN:=qb (qgq s.data.toList kc p.data.toList k);have HM:=qb (qhl s.data.toList kc p.data.toList k);have HL:=qb (qkq s.data.toList kc p.data.toList k);have hke:k≤k+qn kc (s.data.toList.drop k):=by omega
    have hcast:(k:Int)+(qn kc (s.data.toList.drop k):Int)=((k+qn kc (s.data.toList.drop k):Nat):Int):=by omega
    rw[hcast]at C;clear hcast;have HE:Hid (∀ e,k+qn kc (s.data.toList.drop k)=e→(e=k↔qn kc (s.data.toList.drop k)=0)):=by intro e he;omega
    generalize he:k+qn kc (s.data.toList.drop k)=e at *;have HC:=qb C;have HE2:=qb (HE.out e rfl);have HHe:=qb he;clear C HE he
    by_cases hek:e=k
    · have HX:=qb (HN.out (HE2.out.1 hek))
      have hb:((e:Int)==(k:Int))=true:=by simp[hek]
      clear hek;gi_wp2_with (refine⟨trivial,?_⟩;gi_at_call 60;refine(callsIn_wide.2 HC.out).mono ?_;rintro e w' ⟨rfl,hw'⟩;rw[hw'];clear hw' w')
      refine⟨fun _ h=>(by cases h),?_⟩
      gi_wp2
      refine bodyPost_ret (results_none rfl _ _ _) rfl ?_;exact⟨⟨_,rfl⟩,.inl ⟨pre,by rw[HR.out,HX.out];simp,hJs⟩⟩
    · have hb:((e:Int)==(k:Int))=false:=by rw[beq_eq_false_iff_ne];omega
      by_cases hlt:e<s.size
      · have hne:((e:Int)==(s.size:Int))=false:=by rw[beq_eq_false_iff_ne];omega
        have hc:((s[e].toNat:Int)).toNat.toUInt8=s[e]:=by simp
        have hI:=fun W=>qmh p (s[e].toNat:Int) W;rw[hc]at hI;have hin:=qbhb p.data.toList s[e];have HI:=qb hI;clear hI hc;generalize Lib.indexByte p.data.toList s[e]=ix at *;cases hcon:p.data.toList.contains s[e]
        · rw [hcon]at hin
          have hix:¬ 0≤ix:=fun h=>by have:=hin.1 h;cases this
          have hix':ix<0:=by omega
          have HX:=qb (HL.out e rfl hek (fun c hc=>by rw[qbcn s e hlt]at hc;cases hc;exact hcon))
          clear hin hcon hix;obtain⟨fn,tmps,assign,body,hy,hR⟩:=hY pre (k,e) wr hJs (by rw[HR.out,HX.out];simp)
          dsimp only at hy;gi_wp2_with (refine⟨trivial,?_⟩;gi_at_call 60;refine(callsIn_wide.2 HC.out).mono ?_;rintro e w' ⟨rfl,hw'⟩;rw[hw'];clear hw' w')
          refine hR.mono ?_;rintro e' W3 (⟨rfl,hJ3,hk3⟩|⟨rfl,hJx3⟩)
          · have bS3:Boxed W3 Bs 9 (.string s):=hk3.1.trans bS
            have bC3:Boxed W3 Bc 3 (.int .i64 kc):=hk3.2.1.trans bC;have bP3:Boxed W3 Bp 9 (.string p):=hk3.2.2.trans bP;clear cS cC cP;have cS:=bS3.cell;have cC:=bC3.cell;have cP:=bP3.cell;gi_wp2
            refine wpIn_wide.2 ?_;go_quiet ((go_at_call 164;exact Calls.quiet_of_same (HI.out _)))
            gi_wp2
            refine bodyPost_ret (results_none rfl _ _ _) rfl ?_;exact⟨⟨_,rfl⟩,.inl ⟨pre++[(k,e)],by rw[HR.out,HX.out],qlg hJ hJ3 _⟩⟩
          · gi_wp2
            refine bodyPost_ret (results_none rfl _ _ _) rfl ?_;exact⟨⟨_,rfl⟩,.inr ⟨pre++[(k,e)],by rw[HR.out,HX.out];exact List.prefix_refl _,hJx3⟩⟩
        · rw [hcon]at hin
          have hix:0≤ix:=hin.2 rfl;have hix':¬ ix<0:=by omega
          have HX:=qb (HM.out e rfl hek s[e] (qbcn s e hlt) hcon);clear hin hcon hix;obtain⟨fn,tmps,assign,body,hy,hR⟩:=hY pre (k,e) wr hJs (by rw[HR.out,HX.out];simp)
          dsimp only at hy;gi_wp2_with (refine⟨trivial,?_⟩;gi_at_call 60;refine(callsIn_wide.2 HC.out).mono ?_;rintro e w' ⟨rfl,hw'⟩;rw[hw'];clear hw' w')
          refine hR.mono ?_;rintro e' W3 (⟨rfl,hJ3,hk3⟩|⟨rfl,hJx3⟩)
          · have bS3:Boxed W3 Bs 9 (.string s):=hk3.1.trans bS
            have bC3:Boxed W3 Bc 3 (.int .i64 kc):=hk3.2.1.trans bC;have bP3:Boxed W3 Bp 9 (.string p):=hk3.2.2.trans bP;clear cS cC cP;have cS:=bS3.cell;have cC:=bC3.cell;have cP:=bP3.cell;gi_wp2
            refine wpIn_wide.2 ?_;go_quiet ((go_at_call 164;exact Calls.quiet_of_same (HI.out _)))
            gi_wp2
            go_roundw
            case rel=>exact⟨e+1,pre++[(k,e)],by omega,by go_num,qlg hJ hJ3 _,qmg bS3 _,qmg bC3 _,qmg bP3 _,by rw[HR.out,HX.out];simp[Hid]⟩
            case measure=>simp[intOf];omega
          · gi_wp2
            refine bodyPost_ret (results_none rfl _ _ _) rfl ?_;exact⟨⟨_,rfl⟩,.inr ⟨pre++[(k,e)],by rw[HR.out,HX.out];exact⟨_,by simp;rfl⟩,hJx3⟩⟩
      · have hne:((e:Int)==(s.size:Int))=true:=by simp;omega
        have HX:=qb (HL.out e rfl hek (fun c hc=>by rw[qbnt s e hlt]at hc;cases hc))
        obtain⟨fn,tmps,assign,body,hy,hR⟩:=hY pre (k,e) wr hJs (by rw[HR.out,HX.out];simp)
        dsimp only at hy;gi_wp2_with (refine⟨trivial,?_⟩;gi_at_call 60;refine(callsIn_wide.2 HC.out).mono ?_;rintro e w' ⟨rfl,hw'⟩;rw[hw'];clear hw' w')
        refine hR.mono ?_;rintro e' W3 (⟨rfl,hJ3,hk3⟩|⟨rfl,hJx3⟩)
        · have bS3:Boxed W3 Bs 9 (.string s):=hk3.1.trans bS
          have bC3:Boxed W3 Bc 3 (.int .i64 kc):=hk3.2.1.trans bC;have bP3:Boxed W3 Bp 9 (.string p):=hk3.2.2.trans bP;clear cS cC cP;have cS:=bS3.cell;have cC:=bC3.cell;have cP:=bP3.cell;gi_wp2
          refine wpIn_wide.2 ?_;go_quiet (fail)
          gi_wp2
          refine bodyPost_ret (results_none rfl _ _ _) rfl ?_;exact⟨⟨_,rfl⟩,.inl ⟨pre++[(k,e)],by rw[HR.out,HX.out],qlg hJ hJ3 _⟩⟩
        · gi_wp2
          refine bodyPost_ret (results_none rfl _ _ _) rfl ?_;exact⟨⟨_,rfl⟩,.inr ⟨pre++[(k,e)],by rw[HR.out,HX.out];exact List.prefix_refl _,hJx3⟩⟩
theorem qbmg (n:Nat) (hn:1≤n) (Ba Bs Bc Bp:Nat) (s p:QY) (a:Nat) (kc:Int) (ha:a≤s.size) (hs:s.size≤64) (w:QW) (hBa:Boxed w Ba 3 (.int .i64 (a:Int))) (hBs:Boxed w Bs 9 (.string s)) (hBc:Boxed w Bc 3 (.int .i64 kc)) (hBp:Boxed w Bp 9 (.string p)) :
  SeqStopsK Fence.wide n Tryz.prog 163 #[.pointer (some ⟨Ba,0,none⟩),.pointer (some ⟨Bs,0,none⟩),.pointer (some ⟨Bc,0,none⟩),.pointer (some ⟨Bp,0,none⟩)] (fun x:Nat×Nat=>#[Value.string (s.extract x.1 x.2),.int .i64 (x.2:Int)]) (qkv Bs Bc Bp) (fun ys=>ys=qbf s.data.toList kc p.data.toList a) (fun pre=>pre <+: qbf s.data.toList kc p.data.toList a) (qbf s.data.toList kc p.data.toList a).length w:=fun l J Jx W hW hJ _ hY h0=>
 runs1_in n hn l Ba Bs Bc Bp s p a kc ha hs J Jx W.heap.size hJ hY W ((hW.block Ba hBa.lt).trans hBa) ((hW.block Bs hBs.lt).trans hBs) ((hW.block Bc hBc.lt).trans hBc) ((hW.block Bp hBp.lt).trans hBp) h0
theorem runs_any (s p:QY) (a k:Int) (w:QW) :
  Calls Tryz.prog 142 #[.string s,.int .i64 a,.int .i64 k,.string p] w fun e w'=>e=.returned (.func (.func 163) #[] #[.pointer (some ⟨w.heap.size+1,0,none⟩),.pointer (some ⟨w.heap.size,0,none⟩),.pointer (some ⟨w.heap.size+1+1,0,none⟩),.pointer (some ⟨w.heap.size+1+1+1,0,none⟩)])∧w'=(((w.alloc (.cells #[.string s] 9)).alloc (.cells #[.int .i64 a] 3)).alloc (.cells #[.int .i64 k] 3)).alloc (.cells #[.string p] 9):=by
 go_enter Tryz.func142,Tryz.ntmps142
 go_wp2
 go_ret
 exact⟨rfl,rfl⟩
end Go.Proofs.YtabmfdedbpmfmaaGreat
