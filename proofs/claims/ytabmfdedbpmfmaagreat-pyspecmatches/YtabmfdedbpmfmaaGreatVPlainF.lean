/- Plain laws: texts of digits stand in the order of their numb -/
import Derived.WalkKit
import Derived.Lib.Bytealg
import Derived.Test.YtabmfdedbpmfmaaGreatRows
import Derived.WalkSpells
import Derived.WalkLawsBesides
import Derived.Lib.Strings
import Derived.Laws.IdiomStrings
import Derived.Lib.ConvBytes
namespace Go.Proofs.YtabmfdedbpmfmaaGreat
abbrev QY:=ByteArray
abbrev QB:=List UInt8
def isC (c k:Int):Bool:=
 if k=1 then decide (48≤c)&&decide (c≤57)
 else if k=2 then decide (97≤c)&&decide (c≤122)
 else if k=3 then decide (65≤c)&&decide (c≤90)
 else if k=4 then (decide (97≤c)&&decide (c≤122))||(decide (65≤c)&&decide (c≤90))
 else if k=5 then (decide (97≤c)&&decide (c≤122))||(decide (65≤c)&&decide (c≤90))||(decide (48≤c)&&decide (c≤57))
 else if k=6 then decide (c=32)||decide (c=9)
 else if k=7 then decide (c=32)||decide (c=9)||decide (c=10)||decide (c=13)
 else false
def qn (k:Int):QB→Nat
 | []=>0
 | c::r=>if isC (c.toNat:Int) k then qn k r+1 else 0
theorem qjg (k:Int):∀ l:QB,qn k l≤l.length
 | []=>Nat.le_refl _
 | c::r=>by
  unfold qn;have:=qjg k r;split<;>simp<;>omega
def runI (l:QB) (at' k:Int):Int:=
 if 0≤at'∧at'≤(l.length:Int) then at'+(qn k (l.drop at'.toNat):Int) else at'
def qp:QB→QB
 | []=>[48]
 | c::r=>if c=48 then qp r else c::r
def cmpD (a b:QB):Int:=
 if (qp a).length<(qp b).length then -1 else if (qp b).length<(qp a).length then 1 else Lib.compareBytes (qp a) (qp b)
def qd (l:QB):QY:=⟨l.toArray⟩
theorem qj (l:QB):(qd l).data.toList=l:=by simp[qd]
theorem qr (l:QB):(qd l).size=l.length:=by simp[qd,ByteArray.size]
theorem qdb (s:QY):qd s.data.toList=s:=by cases s;simp[qd]
theorem qg (s:QY):s.data.toList.length=s.size:=by rw[Array.length_toList];rfl
theorem qbbw {a b:QY} (h:a.data.toList=b.data.toList):a=b:=by rw[←qdb a,←qdb b,h]
theorem qcj (s:QY) (i:Nat) (h:i<s.size):s.data.toList.drop i=s[i]::s.data.toList.drop (i+1):=by
 rw[List.drop_eq_getElem_cons (by rw[qg];exact h)];rfl
theorem qdx (s:QY) (i:Nat) (h:s.size≤i):s.data.toList.drop i=[]:=List.drop_eq_nil_of_le (by rw[qg];exact h)
theorem qfc (s:QY) (i j:Nat):s.extract i j=qd ((s.data.toList.take j).drop i):=by
 apply qbbw;rw[qj];simp[ByteArray.data_extract,List.drop_take,List.extract_eq_take_drop]
theorem qfv (s:QY) (i:Nat):s.extract i s.size=qd (s.data.toList.drop i):=by
 rw[qfc,List.take_of_length_le (by rw[qg];exact Nat.le_refl _)]
theorem qvv (k:Int) (s:QY) (i:Nat) (h:i<s.size) (hc:isC (s[i].toNat:Int) k=true):qn k (s.data.toList.drop i)=qn k (s.data.toList.drop (i+1))+1:=by
 rw[qcj s i h,qn,if_pos hc]
theorem qrl (k:Int) (s:QY) (i:Nat) (h:i<s.size) (hc:isC (s[i].toNat:Int) k=false):qn k (s.data.toList.drop i)=0:=by
 rw[qcj s i h,qn,if_neg (by simp[hc])]
theorem qwm (k:Int) (s:QY) (i:Nat) (h:s.size≤i):qn k (s.data.toList.drop i)=0:=by
 rw[qdx s i h,qn]
theorem qdl (s:QY) (m:Nat) (k:Int) (h:m≤s.size):runI s.data.toList m k=m+(qn k (s.data.toList.drop m):Int):=by
 unfold runI;rw[if_pos (by rw[qg];omega)];simp
theorem qwd (s:QY) (n:Int) (k:Int) (h:¬ (0≤n∧n≤(s.size:Int))):runI s.data.toList n k=n:=by
 unfold runI;rw[if_neg (by rw[qg];exact h)]
theorem qxj (s:QY) (i:Nat) (h:i<s.size) (hc:(s[i].toNat:Int)=48):qp (s.data.toList.drop i)=qp (s.data.toList.drop (i+1)):=by
 rw[qcj s i h,qp,if_pos (UInt8.toNat_inj.1 (by show _=48;omega))]
theorem qvb (s:QY) (i:Nat) (h:i<s.size) (hc:(s[i].toNat:Int)≠48):qp (s.data.toList.drop i)=s.data.toList.drop i:=by
 rw[qcj s i h,qp,if_neg (fun e=>hc (by rw[e];rfl))]
theorem qzp (s:QY) (i:Nat) (h:s.size≤i):qp (s.data.toList.drop i)=[48]:=by
 rw[qdx s i h,qp]
theorem qkc (l:QB):(qp l).length≤l.length+1:=by
 induction l with
 | nil=>simp[qp]
 | cons c r ih=>unfold qp;split<;>simp<;>omega
open Go.RowKit
open Bool renaming eq_iff_iff → qbsk
set_option maxHeartbeats 2000000
theorem qkb (c lo hi:Int) (w:World) :
  Calls Tryz.prog 114 #[.int .u8 c,.int .u8 lo,.int .u8 hi] w fun e w'=>e=.returned (.bool (decide (lo≤c)&&decide (c≤hi)))∧w'=w:=by
 by_cases h1:lo≤c
 ·by_cases h2:c≤hi
  ·go_enter Tryz.func114,Tryz.ntmps114
   go_wp2
   go_ret
   exact⟨by simp[h1,h2],rfl⟩
  ·go_enter Tryz.func114,Tryz.ntmps114
   go_wp2
   go_ret
   exact⟨by simp[h2],rfl⟩
 ·go_enter Tryz.func114,Tryz.ntmps114
  go_wp2
  go_ret
  exact⟨by simp;omega,rfl⟩
theorem qtt (s:QY) (n:Int) (w:World) :
  Calls Tryz.prog 85 #[.string s,.int .i64 n] w fun e w'=>e=.returned (.bool (decide (0≤n)&&decide (n≤(s.size:Int))))∧w'=w:=by
 by_cases h1:0≤n
 ·by_cases h2:n≤(s.size:Int)
  ·go_enter Tryz.func85,Tryz.ntmps85
   go_wp2
   go_ret
   exact⟨by simp[h1,h2],rfl⟩
  ·go_enter Tryz.func85,Tryz.ntmps85
   go_wp2
   go_ret
   exact⟨by simp[h2],rfl⟩
 ·go_enter Tryz.func85,Tryz.ntmps85
  go_wp2
  go_ret
  exact⟨by simp;omega,rfl⟩
theorem qcb {a b:Bool} (h:a=b):Ending.returned (.bool a)=.returned (.bool b):=by rw[h]
theorem qmp (c k:Int) (w:World) :
  Calls Tryz.prog 86 #[.int .u8 c,.int .i64 k] w fun e w'=>e=.returned (.bool (isC c k))∧w'=w:=by
 by_cases k1:k=1
 ·subst k1;go_enter Tryz.func86,Tryz.ntmps86
  go_wp2_with (go_at_call 114;refine(qkb _ _ _ _).mono ?_;rintro e w' ⟨rfl,rfl⟩)
  go_ret
  exact⟨rfl,rfl⟩
 by_cases k2:k=2
 ·subst k2;go_enter Tryz.func86,Tryz.ntmps86
  go_wp2_with (go_at_call 114;refine(qkb _ _ _ _).mono ?_;rintro e w' ⟨rfl,rfl⟩)
  go_ret
  exact⟨rfl,rfl⟩
 by_cases k3:k=3
 ·subst k3;go_enter Tryz.func86,Tryz.ntmps86
  go_wp2_with (go_at_call 114;refine(qkb _ _ _ _).mono ?_;rintro e w' ⟨rfl,rfl⟩)
  go_ret
  exact⟨rfl,rfl⟩
 by_cases k4:k=4
 ·subst k4;go_enter Tryz.func86,Tryz.ntmps86
  go_wp2_with (go_at_call 114;refine(qkb _ _ _ _).mono ?_;rintro e w' ⟨rfl,rfl⟩)
  all_goals go_ret
  all_goals exact⟨qcb (by rw[qbsk];simp_all [isC]),rfl⟩
 by_cases k5:k=5
 ·subst k5;go_enter Tryz.func86,Tryz.ntmps86
  go_wp2_with (go_at_call 114;refine(qkb _ _ _ _).mono ?_;rintro e w' ⟨rfl,rfl⟩)
  all_goals go_ret
  all_goals exact⟨qcb (by rw[qbsk];simp_all [isC]),rfl⟩
 by_cases k6:k=6
 ·subst k6;go_enter Tryz.func86,Tryz.ntmps86
  go_wp2
  all_goals go_ret
  all_goals exact⟨qcb (by rw[qbsk];simp_all [isC]),rfl⟩
 by_cases k7:k=7
 ·subst k7;go_enter Tryz.func86,Tryz.ntmps86
  go_wp2
  all_goals go_ret
  all_goals exact⟨qcb (by rw[qbsk];simp_all [isC]),rfl⟩
 have H:Hid (∀ c,isC c k=false):=by simp[Hid,isC,k1,k2,k3,k4,k5,k6,k7]
 have b1:(k==1)=false:=by simpa using k1
 have b2:(k==2)=false:=by simpa using k2
 have b3:(k==3)=false:=by simpa using k3
 have b4:(k==4)=false:=by simpa using k4
 have b5:(k==5)=false:=by simpa using k5
 have b6:(k==6)=false:=by simpa using k6
 have b7:(k==7)=false:=by simpa using k7
 clear k1 k2 k3 k4 k5 k6 k7;go_enter Tryz.func86,Tryz.ntmps86
 go_wp2
 go_ret
 exact⟨qcb (H.out _).symm,rfl⟩
theorem qqq (c k:Int) (w:World) :
  Calls Tryz.prog 68 #[.int .u8 c,.int .i64 k] w fun e w'=>e=.returned (.bool (isC c k))∧w'=w:=by
 by_cases k1:k=1
 ·subst k1;go_enter Tryz.func68,Tryz.ntmps68
  go_wp2
  all_goals go_ret
  all_goals exact⟨qcb (by rw[qbsk];simp[isC]<;>omega),rfl⟩
 by_cases k2:k=2
 ·subst k2;go_enter Tryz.func68,Tryz.ntmps68
  go_wp2
  all_goals go_ret
  all_goals exact⟨qcb (by rw[qbsk];simp[isC]<;>omega),rfl⟩
 by_cases k3:k=3
 ·subst k3;go_enter Tryz.func68,Tryz.ntmps68
  go_wp2
  all_goals go_ret
  all_goals exact⟨qcb (by rw[qbsk];simp[isC]<;>omega),rfl⟩
 by_cases k4:k=4
 ·subst k4;go_enter Tryz.func68,Tryz.ntmps68
  go_wp2
  all_goals go_ret
  all_goals exact⟨qcb (by rw[qbsk];simp[isC]<;>omega),rfl⟩
 by_cases k5:k=5
 ·subst k5;go_enter Tryz.func68,Tryz.ntmps68
  go_wp2
  all_goals go_ret
  all_goals exact⟨qcb (by rw[qbsk];simp[isC]<;>omega),rfl⟩
 by_cases k6:k=6
 ·subst k6;go_enter Tryz.func68,Tryz.ntmps68
  go_wp2
  all_goals go_ret
  all_goals exact⟨qcb (by rw[qbsk];simp[isC]<;>omega),rfl⟩
 by_cases k7:k=7
 ·subst k7;go_enter Tryz.func68,Tryz.ntmps68
  go_wp2
  all_goals go_ret
  all_goals exact⟨qcb (by rw[qbsk];simp[isC]<;>omega),rfl⟩
 have H:Hid (∀ c,isC c k=false):=by simp[Hid,isC,k1,k2,k3,k4,k5,k6,k7]
 have b1:(k==1)=false:=by simpa using k1
 have b2:(k==2)=false:=by simpa using k2
 have b3:(k==3)=false:=by simpa using k3
 have b4:(k==4)=false:=by simpa using k4
 have b5:(k==5)=false:=by simpa using k5
 have b6:(k==6)=false:=by simpa using k6
 have b7:(k==7)=false:=by simpa using k7
 clear k1 k2 k3 k4 k5 k6 k7;go_enter Tryz.func68,Tryz.ntmps68
 go_wp2
 all_goals go_ret
 all_goals exact⟨qcb (H.out _).symm,rfl⟩
set_option maxHeartbeats 400000
set_option maxRecDepth 100000
theorem qb {p:Prop} (h:p):Hid p:=h
theorem qbv {k:IntKind} {a b:Int} (h:a=b):Ending.returned (.int k a)=.returned (.int k b):=by rw[h]
theorem qnr {a b:QY} (h:a=b):Ending.returned (.string a)=.returned (.string b):=by rw[h]
theorem qjf (s:QY) (n k:Int) (w:World) (hs:s.size≤maxLen) :
  Calls Tryz.prog 60 #[.string s,.int .i64 n,.int .i64 k] w fun e w'=>e=.returned (.int .i64 (runI s.data.toList n k))∧w'=w:=by
 unfold maxLen at hs
 by_cases hin:0≤n∧n≤(s.size:Int)
 ·obtain ⟨h0,h1⟩:=hin;obtain⟨m,rfl⟩:=Int.eq_ofNat_of_zero_le h0;have hb:(decide (0≤(m:Int))&&decide ((m:Int)≤(s.size:Int)))=true:=by simp;omega
  have hm:m≤s.size:=by omega
  have HI:Hid (runI s.data.toList m k=m+(qn k (s.data.toList.drop m):Int)):=qdl s m k hm;go_enter Tryz.func60,Tryz.ntmps60
  go_wp2_with (go_at_call 85;refine(qtt _ _ _).mono ?_;rintro e w' ⟨rfl,rfl⟩)
  go_loop [17] (fun i=>∃ j:Nat,m+j≤s.size∧i=.int .i64 j∧Hid (qn k (s.data.toList.drop m)=j+qn k (s.data.toList.drop (m+j)))) (fun i=>s.size-(intOf i).toNat)
  case atStart=>exact⟨0,by omega,rfl,by simp[Hid]⟩
  case round=>
   obtain⟨j,hj,rfl,HR⟩:=hrel
   by_cases hlt:m+j<s.size
   ·by_cases hc:isC (s[m+j].toNat:Int) k=true
    ·have H1:Hid _:=qvv k s (m+j) hlt hc;go_wp2_with (go_at_call 86;refine(qmp _ _ _).mono ?_;rintro e w' ⟨rfl,rfl⟩)
     go_round
     case rel=>exact⟨j+1,by omega,by go_num,by have a:=HR.out;have b:=H1.out;show _=_;rw[Nat.add_assoc]at b;omega⟩
     case measure=>simp[intOf];omega
    ·have hc':isC (s[m+j].toNat:Int) k=false:=by simpa using hc
     have H1:Hid _:=qrl k s (m+j) hlt hc';go_wp2_with (go_at_call 86;refine(qmp _ _ _).mono ?_;rintro e w' ⟨rfl,rfl⟩)
     go_ret
     exact⟨qbv (by have a:=HR.out;have b:=H1.out;rw[HI.out];omega),rfl⟩
   ·have H1:Hid _:=qwm k s (m+j) (by omega)
    (go_wp2_with fail);go_ret
    exact⟨qbv (by have a:=HR.out;have b:=H1.out;rw[HI.out];omega),rfl⟩
 ·have hb:(decide (0≤n)&&decide (n≤(s.size:Int)))=false:=by simp;omega
  have HI:Hid _:=qwd s n k hin;clear hin;go_enter Tryz.func60,Tryz.ntmps60
  go_wp2_with (go_at_call 85;refine(qtt _ _ _).mono ?_;rintro e w' ⟨rfl,rfl⟩)
  go_ret
  exact⟨qbv HI.out.symm,rfl⟩
theorem qgx (s:QY) (n k:Int) (w:World) (hs:s.size≤maxLen) :
  Calls Tryz.prog 52 #[.string s,.int .i64 n,.int .i64 k] w fun e w'=>e=.returned (.int .i64 (runI s.data.toList n k))∧w'=w:=by
 unfold maxLen at hs
 by_cases h0:0≤n
 ·by_cases h1:n≤(s.size:Int)
  ·obtain ⟨m,rfl⟩:=Int.eq_ofNat_of_zero_le h0;have hm:m≤s.size:=by omega
   have HI:Hid (runI s.data.toList m k=m+(qn k (s.data.toList.drop m):Int)):=qdl s m k hm;have d1:decide ((m:Int)<0)=false:=by simp
   have d2:decide (s.size<m)=false:=by simp;omega
   go_enter Tryz.func52,Tryz.ntmps52
   (go_wp2_with fail);go_loop [1] (fun i=>∃ j:Nat,m+j≤s.size∧i=.int .i64 (m+j:Nat)∧Hid (qn k (s.data.toList.drop m)=j+qn k (s.data.toList.drop (m+j)))) (fun i=>s.size-(intOf i).toNat)
   case atStart=>exact⟨0,by omega,rfl,by simp[Hid]⟩
   case round=>
    obtain⟨j,hj,rfl,HR⟩:=hrel
    by_cases hlt:m+j<s.size
    ·by_cases hc:isC (s[m+j].toNat:Int) k=true
     ·have H1:Hid _:=qvv k s (m+j) hlt hc;go_wp2_with (go_at_call 68;refine(qqq _ _ _).mono ?_;rintro e w' ⟨rfl,rfl⟩)
      go_round
      case rel=>exact⟨j+1,by omega,by go_num,by have a:=HR.out;have b:=H1.out;show _=_;rw[Nat.add_assoc]at b;omega⟩
      case measure=>simp[intOf];omega
     ·have hc':isC (s[m+j].toNat:Int) k=false:=by simpa using hc
      have H1:Hid _:=qrl k s (m+j) hlt hc';go_wp2_with (go_at_call 68;refine(qqq _ _ _).mono ?_;rintro e w' ⟨rfl,rfl⟩)
      go_ret
      exact⟨qbv (by have a:=HR.out;have b:=H1.out;rw[HI.out];omega),rfl⟩
    ·have H1:Hid _:=qwm k s (m+j) (by omega)
     (go_wp2_with fail);go_ret
     exact⟨qbv (by have a:=HR.out;have b:=H1.out;rw[HI.out];omega),rfl⟩
  ·have HI:Hid _:=qwd s n k (fun h=>h1 h.2);go_enter Tryz.func52,Tryz.ntmps52
   (go_wp2_with fail);go_ret
   exact⟨qbv HI.out.symm,rfl⟩
 ·have HI:Hid _:=qwd s n k (fun h=>h0 h.1);go_enter Tryz.func52,Tryz.ntmps52
  (go_wp2_with fail);go_ret
  exact⟨qbv HI.out.symm,rfl⟩
theorem qjt (s:QY) (w:World) (hs:s.size≤maxLen) :
  Calls Tryz.prog 127 #[.string s] w fun e w'=>e=.returned (.string (qd (qp s.data.toList)))∧w'=w:=by
 unfold maxLen at hs;go_enter Tryz.func127,Tryz.ntmps127
 (go_wp2_with fail);go_loop [6] (fun i=>∃ j:Nat,j≤s.size∧i=.int .i64 j∧Hid (qp s.data.toList=qp (s.data.toList.drop j))) (fun i=>s.size-(intOf i).toNat)
 case atStart=>exact⟨0,by omega,rfl,by simp[Hid]⟩
 case round=>
  obtain⟨j,hj,rfl,HR⟩:=hrel
  by_cases hlt:j<s.size
  ·by_cases hc:(s[j].toNat:Int)=48
   ·have H1:Hid _:=qxj s j hlt hc;have hb:((s[j].toNat:Int) != 48)=false:=by simpa using hc
    clear hc;(go_wp2_with fail);go_round
    case rel=>exact⟨j+1,by omega,by go_num,HR.out.trans H1.out⟩
    case measure=>simp[intOf];omega
   ·have H1:Hid _:=qvb s j hlt hc;have hb:((s[j].toNat:Int) != 48)=true:=by simpa using hc
    clear hc;(go_wp2_with fail);go_ret
    exact⟨qnr (by rw[qfv,HR.out,H1.out]),rfl⟩
  ·have H1:Hid _:=qzp s j (by omega)
   (go_wp2_with fail);go_ret
   exact⟨qnr (by rw[HR.out,H1.out];rfl),rfl⟩
theorem qjq (s:QY) (w:World) (hs:s.size≤maxLen) :
  Calls Tryz.prog 82 #[.string s] w fun e w'=>e=.returned (.string (qd (qp s.data.toList)))∧w'=w:=by
 unfold maxLen at hs;go_enter Tryz.func82,Tryz.ntmps82
 (go_wp2_with fail);go_loop [3] (fun i=>∃ j:Nat,j≤s.size∧i=.int .i64 j∧Hid (qp s.data.toList=qp (s.data.toList.drop j))) (fun i=>s.size-(intOf i).toNat)
 case atStart=>exact⟨0,by omega,rfl,by simp[Hid]⟩
 case round=>
  obtain⟨j,hj,rfl,HR⟩:=hrel
  by_cases hlt:j<s.size
  ·by_cases hc:(s[j].toNat:Int)=48
   ·have H1:Hid _:=qxj s j hlt hc;have hb:((s[j].toNat:Int)==48)=true:=by simpa using hc
    clear hc;(go_wp2_with fail);go_round
    case rel=>exact⟨j+1,by omega,by go_num,HR.out.trans H1.out⟩
    case measure=>simp[intOf];omega
   ·have H1:Hid _:=qvb s j hlt hc;have hb:((s[j].toNat:Int)==48)=false:=by simpa using hc
    have hne:((j:Int)==(s.size:Int))=false:=by simp;omega
    clear hc;(go_wp2_with fail);go_ret
    exact⟨qnr (by rw[qfv,HR.out,H1.out]),rfl⟩
  ·have H1:Hid _:=qzp s j (by omega)
   have heq:((j:Int)==(s.size:Int))=true:=by simp;omega
   (go_wp2_with fail);go_ret
   exact⟨qnr (by rw[HR.out,H1.out];rfl),rfl⟩
theorem qsf (x y:Int) (w:World) :
  Calls Tryz.prog 128 #[.int .i64 x,.int .i64 y] w fun e w'=>e=.returned (.int .i64 (if x<y then -1 else if y<x then 1 else 0))∧w'=w:=by
 by_cases h1:x<y
 ·go_enter Tryz.func128,Tryz.ntmps128
  go_wp2
  go_ret
  exact⟨qbv (by first|rfl|((repeat' split)<;>omega)),rfl⟩
 ·by_cases h2:y<x
  ·go_enter Tryz.func128,Tryz.ntmps128
   go_wp2
   go_ret
   exact⟨qbv (by first|rfl|((repeat' split)<;>omega)),rfl⟩
  ·go_enter Tryz.func128,Tryz.ntmps128
   go_wp2
   go_ret
   exact⟨qbv (by first|rfl|((repeat' split)<;>omega)),rfl⟩
theorem qqk (a b:QY) (w:World) :
  Calls Tryz.prog 147 #[.string a,.string b] w fun e w'=>e=.returned (.int .i64 (Lib.compareBytes a.data.toList b.data.toList))∧w'=w:=by
 go_enter Tryz.func147,Tryz.ntmps147
 go_wp2
 rw[run_callFunc_extern Tryz.func167 (by kernel_rfl) (by kernel_rfl) (by kernel_rfl) (e:=Extern.BytealgCompare.compare) (by kernel_rfl),Lib.run_compareString]
 simp only[Result.andThen];rw[Oper.upon_value];go_wp2
 go_ret
 exact⟨rfl,rfl⟩
theorem qmb (a b:QY) (w:World) :
  Calls Tryz.prog 129 #[.string a,.string b] w fun e w'=>e=.returned (.int .i64 (Lib.compareBytes a.data.toList b.data.toList))∧w'=w:=by
 go_enter Tryz.func129,Tryz.ntmps129
 go_wp2_with (go_at_call 147;refine(qqk _ _ _).mono ?_;rintro e w' ⟨rfl,rfl⟩)
 go_ret
 exact⟨rfl,rfl⟩
theorem qsz (a b:QY) (w:World) (ha:a.size≤9223372036854775806) (hb:b.size≤9223372036854775806) :
  Calls Tryz.prog 106 #[.string a,.string b] w fun e w'=>e=.returned (.int .i64 (cmpD a.data.toList b.data.toList))∧w'=w:=by
 have la:=qkc a.data.toList;have lb:=qkc b.data.toList;rw[qg]at la lb;have ea:=qr (qp a.data.toList);have eb:=qr (qp b.data.toList);have da:=qj (qp a.data.toList);have db:=qj (qp b.data.toList);have hC:cmpD a.data.toList b.data.toList=if (qp a.data.toList).length<(qp b.data.toList).length then -1 else if (qp b.data.toList).length<(qp a.data.toList).length then 1 else Lib.compareBytes (qp a.data.toList) (qp b.data.toList):=rfl;have HC:=qb hC;clear hC;generalize cmpD a.data.toList b.data.toList=C at *;go_enter Tryz.func106,Tryz.ntmps106
 (go_wp2_with fail);refine(qjt _ _ (by unfold maxLen;omega)).mono ?_
 rintro e w' ⟨rfl,rfl⟩;(go_wp2_with fail);refine(qjt _ _ (by unfold maxLen;omega)).mono ?_
 rintro e w' ⟨rfl,rfl⟩;generalize qp a.data.toList=A at *;generalize qp b.data.toList=B at *
 by_cases hl:A.length=B.length
 ·have hn:((A.length:Int) != (B.length:Int))=false:=by simp;omega
  have hle:A.length≤B.length:=by omega
  have hge:B.length≤A.length:=by omega
  clear hl;(go_wp2_with fail);refine(qmb _ _ _).mono ?_;rintro e w' ⟨rfl,rfl⟩;(go_wp2_with fail);go_ret
  exact⟨qbv (by rw[HC.out,if_neg (by omega),if_neg (by omega)]),rfl⟩
 ·have hn:((A.length:Int) != (B.length:Int))=true:=by simp;omega
  clear hl;have hl:A.length<B.length∨B.length<A.length:=by simp at hn;omega
  rcases hl with hl|hl
  ·(go_wp2_with fail);refine(qsf _ _ _).mono ?_;rintro e w' ⟨rfl,rfl⟩;(go_wp2_with fail);go_ret
   exact⟨qbv (by rw[HC.out,if_pos hl]),rfl⟩
  ·(go_wp2_with fail);refine(qsf _ _ _).mono ?_;rintro e w' ⟨rfl,rfl⟩;(go_wp2_with fail);go_ret
   exact⟨qbv (by rw[HC.out,if_neg (by omega),if_pos hl]),rfl⟩
theorem cmp3:∀ a b:QB,(Lib.compareBytes a b=-1∧Op.bytesLess a b=true)∨(Lib.compareBytes a b=0∧Op.bytesLess a b=false∧(a==b)=true)∨(Lib.compareBytes a b=1∧Op.bytesLess a b=false∧(a==b)=false)
 | [],[]=>.inr (.inl (by simp[Lib.compareBytes,Op.bytesLess]))
 | [],_::_=>.inl (by simp[Lib.compareBytes,Op.bytesLess])
 | _::_,[]=>.inr (.inr (by simp[Lib.compareBytes,Op.bytesLess]))
 | a :: x,b::y=>by
  by_cases h1:a<b
  ·exact .inl (by simp[Lib.compareBytes,Op.bytesLess,h1])
  ·by_cases h2:b<a
   ·have hne:¬ a=b:=fun e=>by subst e;exact h1 h2
    exact .inr (.inr (by simp[Lib.compareBytes,Op.bytesLess,h1,h2,hne]))
   ·have he:a=b:=UInt8.le_antisymm (UInt8.not_lt.1 h2) (UInt8.not_lt.1 h1);subst he;have ih:=cmp3 x y;simp only[Lib.compareBytes,Op.bytesLess,h1,if_false,List.cons_beq_cons,BEq.rfl,Bool.true_and,decide_false,Bool.false_or];exact ih
theorem toL (s:QY):s.toList=s.data.toList:=Lib.toList_data s
theorem qzd (a b:QY) (w:World) :
  Calls Tryz.prog 100 #[.string a,.string b] w fun e w'=>e=.returned (.int .i64 (Lib.compareBytes a.data.toList b.data.toList))∧w'=w:=by
 have h3:=cmp3 a.data.toList b.data.toList;rw[←toL a,←toL b]at h3 ⊢;rcases h3 with ⟨hc,hl⟩|⟨hc,hl,he⟩|⟨hc,hl,he⟩
 all_goals rw[hc]
 all_goals clear hc
 all_goals go_enter Tryz.func100,Tryz.ntmps100
 all_goals go_wp2
 all_goals go_ret
 all_goals exact⟨rfl,rfl⟩
theorem qth (a b:QY) (w:World) (ha:a.size≤9223372036854775806) (hb:b.size≤9223372036854775806) :
  Calls Tryz.prog 70 #[.string a,.string b] w fun e w'=>e=.returned (.int .i64 (cmpD a.data.toList b.data.toList))∧w'=w:=by
 have la:=qkc a.data.toList;have lb:=qkc b.data.toList;rw[qg]at la lb;have ea:=qr (qp a.data.toList);have eb:=qr (qp b.data.toList);have da:=qj (qp a.data.toList);have db:=qj (qp b.data.toList);have hC:cmpD a.data.toList b.data.toList=if (qp a.data.toList).length<(qp b.data.toList).length then -1 else if (qp b.data.toList).length<(qp a.data.toList).length then 1 else Lib.compareBytes (qp a.data.toList) (qp b.data.toList):=rfl;have HC:=qb hC;clear hC;generalize cmpD a.data.toList b.data.toList=C at *;go_enter Tryz.func70,Tryz.ntmps70
 (go_wp2_with fail);refine(qjq _ _ (by unfold maxLen;omega)).mono ?_
 rintro e w' ⟨rfl,rfl⟩;(go_wp2_with fail);refine(qjq _ _ (by unfold maxLen;omega)).mono ?_
 rintro e w' ⟨rfl,rfl⟩;generalize qp a.data.toList=A at *;generalize qp b.data.toList=B at *
 by_cases h1:A.length<B.length
 ·(go_wp2_with fail);go_ret
  exact⟨qbv (by rw[HC.out,if_pos h1]),rfl⟩
 ·by_cases h2:B.length<A.length
  ·(go_wp2_with fail);go_ret
   exact⟨qbv (by rw[HC.out,if_neg (by omega),if_pos h2]),rfl⟩
  ·(go_wp2_with fail);refine(qzd _ _ _).mono ?_;rintro e w' ⟨rfl,rfl⟩;(go_wp2_with fail);go_ret
   exact⟨qbv (by rw[HC.out,if_neg (by omega),if_neg (by omega)]),rfl⟩
structure Bys (W:World) (b:Nat) (l:QB):Prop where
 cell:∀ i,i<l.length→W.cell? ⟨b,i,none⟩=some (.int .u8 ((l.getD i 0).toNat:Int))
 free:∀ i,i<l.length→W.frozen? ⟨b,i,none⟩=false
theorem qpl (w:World) (e:TypeId) (s:QY) (j:Nat) (hj:j<s.size):(Lib.bytesWorld w e s).frozen? ⟨w.heap.size,j,none⟩=false:=by
 unfold World.frozen?;rw[Lib.bytesWorld_at_new];have:s.size≤(Lib.bytesCells w e s).size:=by
  unfold Lib.bytesCells;rw[Array.size_append,Array.size_map];exact Nat.le_add_right _ _
 simp;omega
theorem Bys.conv (w:World) (e:TypeId) (s:QY):Bys (Lib.bytesWorld w e s) w.heap.size s.data.toList:=
 ⟨fun i hi=>Lib.bytesWorld_cell w e s i (by rwa [qg]at hi),fun i hi=>qpl w e s i (by rwa [qg]at hi)⟩
theorem qwb (w:World) (e:TypeId) (s:QY):Below w.heap.size w (Lib.bytesWorld w e s):=by
 refine⟨rfl,rfl,rfl,?_,fun k hk=>Lib.bytesWorld_at_old w e s k hk⟩;rw[Lib.bytesWorld_size];omega
theorem Bys.set {W:World} {b:Nat} {l:QB} (h:Bys W b l) (i:Nat) (hi:i<l.length) (v:Int) (c:UInt8) (hv:v=(c.toNat:Int)) :
  Bys (W.setCell ⟨b,i,none⟩ (.int .u8 v)) b (l.set i c):=by
 subst hv;refine⟨fun j hj=>?_,fun j hj=>?_⟩
 ·rw [List.length_set]at hj
  by_cases e:j=i
  ·subst e;rw[World.cell?_setCell_same' _ _ _ (by rw[h.cell j hj];rfl)]
   simp[List.getD,hj]
  ·rw[World.cell?_setCell_other _ _ _ _ (by intro q;cases q;exact e rfl),h.cell j hj]
   simp[List.getD,Ne.symm e]
 ·rw[List.length_set]at hj;rw[World.frozen?_setCell];exact h.free j hj
theorem Bys.drew {W:World} {b:Nat} {l:QB} (h:Bys W b l):Bys W.drew b l:=⟨h.cell,h.free⟩
theorem Bys.back {P:Program} {W:World} {b:Nat} {l:QB} (h:Bys W b l) (src dst e:TypeId) (cap:Nat) (hs:P.underlying src=some (.slice e)) (he:P.underlying e=some (.int .u8)) (hd:P.underlying dst=some .string) :
  (convert src dst (.slice (some ⟨b,0,none⟩) l.length cap)).run P W=.ok (.string (qd l)) W:=by
 refine run_convert_bytes_back W src dst e ⟨b,0,none⟩ cap l hs he hd (fun j hj=>?_);have:=h.cell j hj;have ea:(Addr.add ⟨b,0,none⟩ j)=⟨b,j,none⟩:=by
  by_cases e0:j=0
  ·subst e0;rfl
  ·simp[Addr.add,e0]
 rw[ea,this];simp[List.getD,hj]
def upTo (f:UInt8→UInt8) (l:QB) (j:Nat):QB:=(l.take j).map f++l.drop j
theorem qfq (f:UInt8→UInt8) (l:QB) (j:Nat):(upTo f l j).length=l.length:=by simp[upTo];omega
theorem qzl (f:UInt8→UInt8) (l:QB):upTo f l 0=l:=by simp[upTo]
theorem qbgg (f:UInt8→UInt8) (l:QB):upTo f l l.length=l.map f:=by simp[upTo]
theorem qbcc (f:UInt8→UInt8) (l:QB) (j:Nat) (h:j<l.length):(upTo f l j).getD j 0=l.getD j 0:=by
 have e:((l.take j).map f).length=j:=by simp;omega
 simp only[upTo,List.getD];rw[List.getElem?_append_right (by omega),e]
 simp
theorem qvl (f:UInt8→UInt8) (l:QB) (j:Nat) (h:j<l.length):(upTo f l j).set j (f (l.getD j 0))=upTo f l (j+1):=by
 have e:((l.take j).map f).length=j:=by simp;omega
 unfold upTo;rw[List.set_append_right _ _ (by omega),e,Nat.sub_self,List.drop_eq_getElem_cons h,List.set_cons_zero,List.take_succ_eq_append_getElem h,List.map_append]
 simp[List.getD,h,-List.map_take]
theorem qxr (f:UInt8→UInt8) (l:QB) (j:Nat) (h:j<l.length) (hf:f (l.getD j 0)=l.getD j 0):upTo f l (j+1)=upTo f l j:=by
 rw[←qvl f l j h,hf,←qbcc f l j h];have hl:j<(upTo f l j).length:=by rw[qfq];exact h
 simp[List.getD,hl]
def lowC (c:UInt8):UInt8:=if isC (c.toNat:Int) 3 then c+32 else c
set_option maxHeartbeats 400000
theorem add32 (c:UInt8) (h:(c.toNat:Int)≤90):((c.toNat:Int)-65+97)=((c+32).toNat:Int):=by
 have:(c+32).toNat=(c.toNat+32) % 256:=UInt8.toNat_add c 32;omega
theorem add32' (c:UInt8) (h:(c.toNat:Int)≤90):((c.toNat:Int)+32)=((c+32).toNat:Int):=by
 have:(c+32).toNat=(c.toNat+32) % 256:=UInt8.toNat_add c 32;omega
theorem qmw (s:QY) (w:World) (hs:s.size≤maxLen) :
  Calls Tryz.prog 95 #[.string s] w fun e w'=>e=.returned (.string (qd (s.data.toList.map lowC)))∧Below w.heap.size w w':=by
 unfold maxLen at hs;have hconv:=fun (w:World)=>Lib.run_convert_string_bytes (P:=Tryz.prog) w 9 97 5 s Tryz.underlying9 Tryz.underlying97 Tryz.underlying5;obtain⟨W1,hW1⟩:∃ W1,Lib.bytesWorld w 5 s=W1:=⟨_,rfl⟩;have hb0:=qwb w 5 s;have hy0:=Bys.conv w 5 s;rw[hW1]at hb0 hy0;go_enter Tryz.func95,Tryz.ntmps95
 (go_wp2_with fail);go_loopw [10] (fun i wr=>∃ j:Nat,j≤s.size∧i=.int .i64 j∧Bys wr w.heap.size (upTo lowC s.data.toList j)∧Below w.heap.size w wr) (fun i _=>s.size-(intOf i).toNat)
 case atStart=>exact⟨0,by omega,rfl,by rw[qzl];exact hy0,hb0⟩
 case round=>
  obtain⟨j,hj,rfl,hy,hbel⟩:=hrel
  by_cases hlt:j<s.size
  ·have hcell:=hy.cell j (by rw[qfq,qg];exact hlt)
   have hfree:=hy.free j (by rw[qfq,qg];exact hlt)
   rw[qbcc _ _ _ (by rw[qg];exact hlt)]at hcell
   have HS:Hid _:=qvl lowC s.data.toList j (by rw[qg];exact hlt)
   have HK:Hid _:=qxr lowC s.data.toList j (by rw[qg];exact hlt)
   have HL:Hid _:=qfq lowC s.data.toList j;generalize s.data.toList.getD j 0=c at *;have hcb:c.toNat<256:=c.toNat_lt
   by_cases hc:isC (c.toNat:Int) 3=true
   ·have hbd:(65≤(c.toNat:Int))∧(c.toNat:Int)≤90:=by simpa[isC] using hc
    have HV:Hid (lowC c=c+32):=by simp[Hid,lowC,hc]
    go_wp2_with (go_at_call 86;refine(qmp _ _ _).mono ?_;rintro e w' ⟨rfl,rfl⟩)
    go_roundw
    case rel=>exact⟨j+1,by omega,by go_num,by rw[←HS.out];exact hy.set j (by rw[qfq,qg];exact hlt) _ _ (by rw[HV.out];exact add32 c hbd.2),hbel.setCell (Nat.le_refl _) _⟩
    case measure=>simp[intOf];omega
   ·have hc':isC (c.toNat:Int) 3=false:=by simpa using hc
    have HV:Hid (lowC c=c):=by simp[Hid,lowC,hc]
    go_wp2_with (go_at_call 86;refine(qmp _ _ _).mono ?_;rintro e w' ⟨rfl,rfl⟩)
    go_roundw
    case rel=>exact⟨j+1,by omega,by go_num,by rw[HK.out HV.out];exact hy,hbel⟩
    case measure=>simp[intOf];omega
  ·obtain rfl:j=s.size:=by omega
   have hback:=fun cap=>hy.back (P:=Tryz.prog) 97 9 5 cap Tryz.underlying97 Tryz.underlying5 Tryz.underlying9;rw[qfq,qg]at hback;have HA:Hid (upTo lowC s.data.toList s.size=s.data.toList.map lowC):=by have:=qbgg lowC s.data.toList;rw[qg]at this;exact this
   (go_wp2_with fail);go_ret
   exact⟨qnr (by rw[HA.out]),hbel⟩
theorem qlk (s:QY) (w:World) (hs:s.size≤maxLen) :
  Calls Tryz.prog 38 #[.string s] w fun e w'=>e=.returned (.string (qd (s.data.toList.map lowC)))∧Below w.heap.size w w':=by
 unfold maxLen at hs;have hconv:=fun (w:World)=>Lib.run_convert_string_bytes (P:=Tryz.prog) w 9 97 5 s Tryz.underlying9 Tryz.underlying97 Tryz.underlying5;obtain⟨W1,hW1⟩:∃ W1,Lib.bytesWorld w 5 s=W1:=⟨_,rfl⟩;have hb0:=qwb w 5 s;have hy0:=Bys.conv w 5 s;rw[hW1]at hb0 hy0;go_enter Tryz.func38,Tryz.ntmps38
 (go_wp2_with fail);go_loopw [4] (fun i wr=>∃ j:Nat,j≤s.size∧i=.int .i64 j∧Bys wr w.heap.size (upTo lowC s.data.toList j)∧Below w.heap.size w wr) (fun i _=>s.size-(intOf i).toNat)
 case atStart=>exact⟨0,by omega,rfl,by rw[qzl];exact hy0,hb0⟩
 case round=>
  obtain⟨j,hj,rfl,hy,hbel⟩:=hrel
  by_cases hlt:j<s.size
  ·have hcell:=hy.cell j (by rw[qfq,qg];exact hlt)
   have hfree:=hy.free j (by rw[qfq,qg];exact hlt)
   rw[qbcc _ _ _ (by rw[qg];exact hlt)]at hcell
   have HS:Hid _:=qvl lowC s.data.toList j (by rw[qg];exact hlt)
   have HK:Hid _:=qxr lowC s.data.toList j (by rw[qg];exact hlt)
   have HL:Hid _:=qfq lowC s.data.toList j;generalize s.data.toList.getD j 0=c at *;have hcb:c.toNat<256:=c.toNat_lt
   by_cases hc:isC (c.toNat:Int) 3=true
   ·have hbd:(65≤(c.toNat:Int))∧(c.toNat:Int)≤90:=by simpa[isC] using hc
    have HV:Hid (lowC c=c+32):=by simp[Hid,lowC,hc]
    go_wp2_with (go_at_call 68;refine(qqq _ _ _).mono ?_;rintro e w' ⟨rfl,rfl⟩)
    go_roundw
    case rel=>exact⟨j+1,by omega,by go_num,by rw[←HS.out];exact hy.set j (by rw[qfq,qg];exact hlt) _ _ (by rw[HV.out];exact add32' c hbd.2),hbel.setCell (Nat.le_refl _) _⟩
    case measure=>simp[intOf];omega
   ·have hc':isC (c.toNat:Int) 3=false:=by simpa using hc
    have HV:Hid (lowC c=c):=by simp[Hid,lowC,hc]
    go_wp2_with (go_at_call 68;refine(qqq _ _ _).mono ?_;rintro e w' ⟨rfl,rfl⟩)
    go_roundw
    case rel=>exact⟨j+1,by omega,by go_num,by rw[HK.out HV.out];exact hy,hbel⟩
    case measure=>simp[intOf];omega
  ·obtain rfl:j=s.size:=by omega
   have hback:=fun cap=>hy.back (P:=Tryz.prog) 97 9 5 cap Tryz.underlying97 Tryz.underlying5 Tryz.underlying9;rw[qfq,qg]at hback;have HA:Hid (upTo lowC s.data.toList s.size=s.data.toList.map lowC):=by have:=qbgg lowC s.data.toList;rw[qg]at this;exact this
   (go_wp2_with fail);go_ret
   exact⟨qnr (by rw[HA.out]),hbel⟩
def cmpN (x y:Nat):Int:=if x<y then -1 else if y<x then 1 else 0
theorem cmpB_eq (a b:QB) (h:Lib.compareBytes a b=0):a=b:=by
 rcases cmp3 a b with ⟨h1,_⟩|⟨_,_,he⟩|⟨h1,_⟩
 ·omega
 ·simpa using he
 ·omega
def vr:QB→Nat
 | []=>0
 | c::r=>(c.toNat-48)+10*vr r
end Go.Proofs.YtabmfdedbpmfmaaGreat
