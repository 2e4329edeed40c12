/- Walks: with how many bytes two texts begin; the end of a cla -/
import Derived.WalkKit
import Derived.Lib.Bytealg
import Derived.Test.YtabmfdedbpmfmaaGreatRows
import Derived.WalkSpells
import Derived.WalkLawsBesides
import Derived.Lib.Strings
import Derived.Laws.IdiomStrings
import Derived.Lib.ConvBytes
import Derived.Shelf.RegionOpen
import Derived.Deep.CondSized
import Derived.RangeFuncNested
import Derived.Deep.QuietTactic
import Derived.BigQuiet
import Derived.Deep.RegionHeld3
import Derived.Deep.AppendLies
import Derived.StillTailTactics
namespace Go.Proofs.YtabmfdedbpmfmaaGreat
abbrev QY:=ByteArray
abbrev QB:=List UInt8
def isC (c k:Int):Bool:=
 if k=1 then decide (48≤c)&&decide (c≤57)
 else if k=2 then decide (97≤c)&&decide (c≤122)
 else if k=3 then decide (65≤c)&&decide (c≤90)
 else if k=4 then (decide (97≤c)&&decide (c≤122))||(decide (65≤c)&&decide (c≤90))
 else if k=5 then (decide (97≤c)&&decide (c≤122))||(decide (65≤c)&&decide (c≤90))||(decide (48≤c)&&decide (c≤57))
 else if k=6 then decide (c=32)||decide (c=9)
 else if k=7 then decide (c=32)||decide (c=9)||decide (c=10)||decide (c=13)
 else false
def qp (k:Int):QB→Nat
 | []=>0
 | c::r=>if isC (c.toNat:Int) k then qp k r+1 else 0
theorem qhx (k:Int):∀ l:QB,qp k l≤l.length
 | []=>Nat.le_refl _
 | c::r=>by
  unfold qp;have:=qhx k r;split<;>simp<;>omega
def runI (l:QB) (at' k:Int):Int:=
 if 0≤at'∧at'≤(l.length:Int) then at'+(qp k (l.drop at'.toNat):Int) else at'
def qr:QB→QB
 | []=>[48]
 | c::r=>if c=48 then qr r else c::r
def cmpD (a b:QB):Int:=
 if (qr a).length<(qr b).length then -1 else if (qr b).length<(qr a).length then 1 else Lib.compareBytes (qr a) (qr b)
def qd (l:QB):QY:=⟨l.toArray⟩
theorem qj (l:QB):(qd l).data.toList=l:=by simp[qd]
theorem qn (l:QB):(qd l).size=l.length:=by simp[qd,ByteArray.size]
theorem qcw (s:QY):qd s.data.toList=s:=by cases s;simp[qd]
theorem qg (s:QY):s.data.toList.length=s.size:=by rw[Array.length_toList];rfl
theorem qzz {a b:QY} (h:a.data.toList=b.data.toList):a=b:=by rw[←qcw a,←qcw b,h]
theorem qch (s:QY) (i:Nat) (h:i<s.size):s.data.toList.drop i=s[i]::s.data.toList.drop (i+1):=by
 rw[List.drop_eq_getElem_cons (by rw[qg];exact h)];rfl
theorem qfd (s:QY) (i:Nat) (h:s.size≤i):s.data.toList.drop i=[]:=List.drop_eq_nil_of_le (by rw[qg];exact h)
theorem qfh (s:QY) (i j:Nat):s.extract i j=qd ((s.data.toList.take j).drop i):=by
 apply qzz;rw[qj];simp[ByteArray.data_extract,List.drop_take,List.extract_eq_take_drop]
theorem qfs (s:QY) (i:Nat):s.extract i s.size=qd (s.data.toList.drop i):=by
 rw[qfh,List.take_of_length_le (by rw[qg];exact Nat.le_refl _)]
theorem qvt (k:Int) (s:QY) (i:Nat) (h:i<s.size) (hc:isC (s[i].toNat:Int) k=true):qp k (s.data.toList.drop i)=qp k (s.data.toList.drop (i+1))+1:=by
 rw[qch s i h,qp,if_pos hc]
theorem qqx (k:Int) (s:QY) (i:Nat) (h:i<s.size) (hc:isC (s[i].toNat:Int) k=false):qp k (s.data.toList.drop i)=0:=by
 rw[qch s i h,qp,if_neg (by simp[hc])]
theorem qtl (k:Int) (s:QY) (i:Nat) (h:s.size≤i):qp k (s.data.toList.drop i)=0:=by
 rw[qfd s i h,qp]
theorem qdl (s:QY) (m:Nat) (k:Int) (h:m≤s.size):runI s.data.toList m k=m+(qp k (s.data.toList.drop m):Int):=by
 unfold runI;rw[if_pos (by rw[qg];omega)];simp
theorem qvk (s:QY) (n:Int) (k:Int) (h:¬ (0≤n∧n≤(s.size:Int))):runI s.data.toList n k=n:=by
 unfold runI;rw[if_neg (by rw[qg];exact h)]
theorem qzf (s:QY) (i:Nat) (h:i<s.size) (hc:(s[i].toNat:Int)=48):qr (s.data.toList.drop i)=qr (s.data.toList.drop (i+1)):=by
 rw[qch s i h,qr,if_pos (UInt8.toNat_inj.1 (by show _=48;omega))]
theorem qtq (s:QY) (i:Nat) (h:i<s.size) (hc:(s[i].toNat:Int)≠48):qr (s.data.toList.drop i)=s.data.toList.drop i:=by
 rw[qch s i h,qr,if_neg (fun e=>hc (by rw[e];rfl))]
theorem qwx (s:QY) (i:Nat) (h:s.size≤i):qr (s.data.toList.drop i)=[48]:=by
 rw[qfd s i h,qr]
theorem qjx (l:QB):(qr l).length≤l.length+1:=by
 induction l with
 | nil=>simp[qr]
 | cons c r ih=>unfold qr;split<;>simp<;>omega
open Go.RowKit
open Bool renaming eq_iff_iff → qbrr
set_option maxHeartbeats 2000000
theorem qjv (c lo hi:Int) (w:World) :
  Calls Tryz.prog 114 #[.int .u8 c,.int .u8 lo,.int .u8 hi] w fun e w'=>e=.returned (.bool (decide (lo≤c)&&decide (c≤hi)))∧w'=w:=by
 by_cases h1:lo≤c
 ·by_cases h2:c≤hi
  ·go_enter Tryz.func114,Tryz.ntmps114
   go_wp2
   go_ret
   exact⟨by simp[h1,h2],rfl⟩
  ·go_enter Tryz.func114,Tryz.ntmps114
   go_wp2
   go_ret
   exact⟨by simp[h2],rfl⟩
 ·go_enter Tryz.func114,Tryz.ntmps114
  go_wp2
  go_ret
  exact⟨by simp;omega,rfl⟩
theorem qvc (s:QY) (n:Int) (w:World) :
  Calls Tryz.prog 85 #[.string s,.int .i64 n] w fun e w'=>e=.returned (.bool (decide (0≤n)&&decide (n≤(s.size:Int))))∧w'=w:=by
 by_cases h1:0≤n
 ·by_cases h2:n≤(s.size:Int)
  ·go_enter Tryz.func85,Tryz.ntmps85
   go_wp2
   go_ret
   exact⟨by simp[h1,h2],rfl⟩
  ·go_enter Tryz.func85,Tryz.ntmps85
   go_wp2
   go_ret
   exact⟨by simp[h2],rfl⟩
 ·go_enter Tryz.func85,Tryz.ntmps85
  go_wp2
  go_ret
  exact⟨by simp;omega,rfl⟩
theorem qbz {a b:Bool} (h:a=b):Ending.returned (.bool a)=.returned (.bool b):=by rw[h]
theorem qmb (c k:Int) (w:World) :
  Calls Tryz.prog 86 #[.int .u8 c,.int .i64 k] w fun e w'=>e=.returned (.bool (isC c k))∧w'=w:=by
 by_cases k1:k=1
 ·subst k1;go_enter Tryz.func86,Tryz.ntmps86
  go_wp2_with (go_at_call 114;refine(qjv _ _ _ _).mono ?_;rintro e w' ⟨rfl,rfl⟩)
  go_ret
  exact⟨rfl,rfl⟩
 by_cases k2:k=2
 ·subst k2;go_enter Tryz.func86,Tryz.ntmps86
  go_wp2_with (go_at_call 114;refine(qjv _ _ _ _).mono ?_;rintro e w' ⟨rfl,rfl⟩)
  go_ret
  exact⟨rfl,rfl⟩
 by_cases k3:k=3
 ·subst k3;go_enter Tryz.func86,Tryz.ntmps86
  go_wp2_with (go_at_call 114;refine(qjv _ _ _ _).mono ?_;rintro e w' ⟨rfl,rfl⟩)
  go_ret
  exact⟨rfl,rfl⟩
 by_cases k4:k=4
 ·subst k4;go_enter Tryz.func86,Tryz.ntmps86
  go_wp2_with (go_at_call 114;refine(qjv _ _ _ _).mono ?_;rintro e w' ⟨rfl,rfl⟩)
  all_goals go_ret
  all_goals exact⟨qbz (by rw[qbrr];simp_all [isC]),rfl⟩
 by_cases k5:k=5
 ·subst k5;go_enter Tryz.func86,Tryz.ntmps86
  go_wp2_with (go_at_call 114;refine(qjv _ _ _ _).mono ?_;rintro e w' ⟨rfl,rfl⟩)
  all_goals go_ret
  all_goals exact⟨qbz (by rw[qbrr];simp_all [isC]),rfl⟩
 by_cases k6:k=6
 ·subst k6;go_enter Tryz.func86,Tryz.ntmps86
  go_wp2
  all_goals go_ret
  all_goals exact⟨qbz (by rw[qbrr];simp_all [isC]),rfl⟩
 by_cases k7:k=7
 ·subst k7;go_enter Tryz.func86,Tryz.ntmps86
  go_wp2
  all_goals go_ret
  all_goals exact⟨qbz (by rw[qbrr];simp_all [isC]),rfl⟩
 have H:Hid (∀ c,isC c k=false):=by simp[Hid,isC,k1,k2,k3,k4,k5,k6,k7]
 have b1:(k==1)=false:=by simpa using k1
 have b2:(k==2)=false:=by simpa using k2
 have b3:(k==3)=false:=by simpa using k3
 have b4:(k==4)=false:=by simpa using k4
 have b5:(k==5)=false:=by simpa using k5
 have b6:(k==6)=false:=by simpa using k6
 have b7:(k==7)=false:=by simpa using k7
 clear k1 k2 k3 k4 k5 k6 k7;go_enter Tryz.func86,Tryz.ntmps86
 go_wp2
 go_ret
 exact⟨qbz (H.out _).symm,rfl⟩
theorem qpv (c k:Int) (w:World) :
  Calls Tryz.prog 68 #[.int .u8 c,.int .i64 k] w fun e w'=>e=.returned (.bool (isC c k))∧w'=w:=by
 by_cases k1:k=1
 ·subst k1;go_enter Tryz.func68,Tryz.ntmps68
  go_wp2
  all_goals go_ret
  all_goals exact⟨qbz (by rw[qbrr];simp[isC]<;>omega),rfl⟩
 by_cases k2:k=2
 ·subst k2;go_enter Tryz.func68,Tryz.ntmps68
  go_wp2
  all_goals go_ret
  all_goals exact⟨qbz (by rw[qbrr];simp[isC]<;>omega),rfl⟩
 by_cases k3:k=3
 ·subst k3;go_enter Tryz.func68,Tryz.ntmps68
  go_wp2
  all_goals go_ret
  all_goals exact⟨qbz (by rw[qbrr];simp[isC]<;>omega),rfl⟩
 by_cases k4:k=4
 ·subst k4;go_enter Tryz.func68,Tryz.ntmps68
  go_wp2
  all_goals go_ret
  all_goals exact⟨qbz (by rw[qbrr];simp[isC]<;>omega),rfl⟩
 by_cases k5:k=5
 ·subst k5;go_enter Tryz.func68,Tryz.ntmps68
  go_wp2
  all_goals go_ret
  all_goals exact⟨qbz (by rw[qbrr];simp[isC]<;>omega),rfl⟩
 by_cases k6:k=6
 ·subst k6;go_enter Tryz.func68,Tryz.ntmps68
  go_wp2
  all_goals go_ret
  all_goals exact⟨qbz (by rw[qbrr];simp[isC]<;>omega),rfl⟩
 by_cases k7:k=7
 ·subst k7;go_enter Tryz.func68,Tryz.ntmps68
  go_wp2
  all_goals go_ret
  all_goals exact⟨qbz (by rw[qbrr];simp[isC]<;>omega),rfl⟩
 have H:Hid (∀ c,isC c k=false):=by simp[Hid,isC,k1,k2,k3,k4,k5,k6,k7]
 have b1:(k==1)=false:=by simpa using k1
 have b2:(k==2)=false:=by simpa using k2
 have b3:(k==3)=false:=by simpa using k3
 have b4:(k==4)=false:=by simpa using k4
 have b5:(k==5)=false:=by simpa using k5
 have b6:(k==6)=false:=by simpa using k6
 have b7:(k==7)=false:=by simpa using k7
 clear k1 k2 k3 k4 k5 k6 k7;go_enter Tryz.func68,Tryz.ntmps68
 go_wp2
 all_goals go_ret
 all_goals exact⟨qbz (H.out _).symm,rfl⟩
set_option maxHeartbeats 400000
set_option maxRecDepth 100000
theorem qb {p:Prop} (h:p):Hid p:=h
theorem qbv {k:IntKind} {a b:Int} (h:a=b):Ending.returned (.int k a)=.returned (.int k b):=by rw[h]
theorem qnm {a b:QY} (h:a=b):Ending.returned (.string a)=.returned (.string b):=by rw[h]
theorem qjc (s:QY) (n k:Int) (w:World) (hs:s.size≤maxLen) :
  Calls Tryz.prog 60 #[.string s,.int .i64 n,.int .i64 k] w fun e w'=>e=.returned (.int .i64 (runI s.data.toList n k))∧w'=w:=by
 unfold maxLen at hs
 by_cases hin:0≤n∧n≤(s.size:Int)
 ·obtain ⟨h0,h1⟩:=hin;obtain⟨m,rfl⟩:=Int.eq_ofNat_of_zero_le h0;have hb:(decide (0≤(m:Int))&&decide ((m:Int)≤(s.size:Int)))=true:=by simp;omega
  have hm:m≤s.size:=by omega
  have HI:Hid (runI s.data.toList m k=m+(qp k (s.data.toList.drop m):Int)):=qdl s m k hm;go_enter Tryz.func60,Tryz.ntmps60
  go_wp2_with (go_at_call 85;refine(qvc _ _ _).mono ?_;rintro e w' ⟨rfl,rfl⟩)
  go_loop [17] (fun i=>∃ j:Nat,m+j≤s.size∧i=.int .i64 j∧Hid (qp k (s.data.toList.drop m)=j+qp k (s.data.toList.drop (m+j)))) (fun i=>s.size-(intOf i).toNat)
  case atStart=>exact⟨0,by omega,rfl,by simp[Hid]⟩
  case round=>
   obtain⟨j,hj,rfl,HR⟩:=hrel
   by_cases hlt:m+j<s.size
   ·by_cases hc:isC (s[m+j].toNat:Int) k=true
    ·have H1:Hid _:=qvt k s (m+j) hlt hc;go_wp2_with (go_at_call 86;refine(qmb _ _ _).mono ?_;rintro e w' ⟨rfl,rfl⟩)
     go_round
     case rel=>exact⟨j+1,by omega,by go_num,by have a:=HR.out;have b:=H1.out;show _=_;rw[Nat.add_assoc]at b;omega⟩
     case measure=>simp[intOf];omega
    ·have hc':isC (s[m+j].toNat:Int) k=false:=by simpa using hc
     have H1:Hid _:=qqx k s (m+j) hlt hc';go_wp2_with (go_at_call 86;refine(qmb _ _ _).mono ?_;rintro e w' ⟨rfl,rfl⟩)
     go_ret
     exact⟨qbv (by have a:=HR.out;have b:=H1.out;rw[HI.out];omega),rfl⟩
   ·have H1:Hid _:=qtl k s (m+j) (by omega)
    (go_wp2_with fail);go_ret
    exact⟨qbv (by have a:=HR.out;have b:=H1.out;rw[HI.out];omega),rfl⟩
 ·have hb:(decide (0≤n)&&decide (n≤(s.size:Int)))=false:=by simp;omega
  have HI:Hid _:=qvk s n k hin;clear hin;go_enter Tryz.func60,Tryz.ntmps60
  go_wp2_with (go_at_call 85;refine(qvc _ _ _).mono ?_;rintro e w' ⟨rfl,rfl⟩)
  go_ret
  exact⟨qbv HI.out.symm,rfl⟩
theorem qhc (s:QY) (n k:Int) (w:World) (hs:s.size≤maxLen) :
  Calls Tryz.prog 52 #[.string s,.int .i64 n,.int .i64 k] w fun e w'=>e=.returned (.int .i64 (runI s.data.toList n k))∧w'=w:=by
 unfold maxLen at hs
 by_cases h0:0≤n
 ·by_cases h1:n≤(s.size:Int)
  ·obtain ⟨m,rfl⟩:=Int.eq_ofNat_of_zero_le h0;have hm:m≤s.size:=by omega
   have HI:Hid (runI s.data.toList m k=m+(qp k (s.data.toList.drop m):Int)):=qdl s m k hm;have d1:decide ((m:Int)<0)=false:=by simp
   have d2:decide (s.size<m)=false:=by simp;omega
   go_enter Tryz.func52,Tryz.ntmps52
   (go_wp2_with fail);go_loop [1] (fun i=>∃ j:Nat,m+j≤s.size∧i=.int .i64 (m+j:Nat)∧Hid (qp k (s.data.toList.drop m)=j+qp k (s.data.toList.drop (m+j)))) (fun i=>s.size-(intOf i).toNat)
   case atStart=>exact⟨0,by omega,rfl,by simp[Hid]⟩
   case round=>
    obtain⟨j,hj,rfl,HR⟩:=hrel
    by_cases hlt:m+j<s.size
    ·by_cases hc:isC (s[m+j].toNat:Int) k=true
     ·have H1:Hid _:=qvt k s (m+j) hlt hc;go_wp2_with (go_at_call 68;refine(qpv _ _ _).mono ?_;rintro e w' ⟨rfl,rfl⟩)
      go_round
      case rel=>exact⟨j+1,by omega,by go_num,by have a:=HR.out;have b:=H1.out;show _=_;rw[Nat.add_assoc]at b;omega⟩
      case measure=>simp[intOf];omega
     ·have hc':isC (s[m+j].toNat:Int) k=false:=by simpa using hc
      have H1:Hid _:=qqx k s (m+j) hlt hc';go_wp2_with (go_at_call 68;refine(qpv _ _ _).mono ?_;rintro e w' ⟨rfl,rfl⟩)
      go_ret
      exact⟨qbv (by have a:=HR.out;have b:=H1.out;rw[HI.out];omega),rfl⟩
    ·have H1:Hid _:=qtl k s (m+j) (by omega)
     (go_wp2_with fail);go_ret
     exact⟨qbv (by have a:=HR.out;have b:=H1.out;rw[HI.out];omega),rfl⟩
  ·have HI:Hid _:=qvk s n k (fun h=>h1 h.2);go_enter Tryz.func52,Tryz.ntmps52
   (go_wp2_with fail);go_ret
   exact⟨qbv HI.out.symm,rfl⟩
 ·have HI:Hid _:=qvk s n k (fun h=>h0 h.1);go_enter Tryz.func52,Tryz.ntmps52
  (go_wp2_with fail);go_ret
  exact⟨qbv HI.out.symm,rfl⟩
theorem qjq (s:QY) (w:World) (hs:s.size≤maxLen) :
  Calls Tryz.prog 127 #[.string s] w fun e w'=>e=.returned (.string (qd (qr s.data.toList)))∧w'=w:=by
 unfold maxLen at hs;go_enter Tryz.func127,Tryz.ntmps127
 (go_wp2_with fail);go_loop [6] (fun i=>∃ j:Nat,j≤s.size∧i=.int .i64 j∧Hid (qr s.data.toList=qr (s.data.toList.drop j))) (fun i=>s.size-(intOf i).toNat)
 case atStart=>exact⟨0,by omega,rfl,by simp[Hid]⟩
 case round=>
  obtain⟨j,hj,rfl,HR⟩:=hrel
  by_cases hlt:j<s.size
  ·by_cases hc:(s[j].toNat:Int)=48
   ·have H1:Hid _:=qzf s j hlt hc;have hb:((s[j].toNat:Int) != 48)=false:=by simpa using hc
    clear hc;(go_wp2_with fail);go_round
    case rel=>exact⟨j+1,by omega,by go_num,HR.out.trans H1.out⟩
    case measure=>simp[intOf];omega
   ·have H1:Hid _:=qtq s j hlt hc;have hb:((s[j].toNat:Int) != 48)=true:=by simpa using hc
    clear hc;(go_wp2_with fail);go_ret
    exact⟨qnm (by rw[qfs,HR.out,H1.out]),rfl⟩
  ·have H1:Hid _:=qwx s j (by omega)
   (go_wp2_with fail);go_ret
   exact⟨qnm (by rw[HR.out,H1.out];rfl),rfl⟩
theorem qjl (s:QY) (w:World) (hs:s.size≤maxLen) :
  Calls Tryz.prog 82 #[.string s] w fun e w'=>e=.returned (.string (qd (qr s.data.toList)))∧w'=w:=by
 unfold maxLen at hs;go_enter Tryz.func82,Tryz.ntmps82
 (go_wp2_with fail);go_loop [3] (fun i=>∃ j:Nat,j≤s.size∧i=.int .i64 j∧Hid (qr s.data.toList=qr (s.data.toList.drop j))) (fun i=>s.size-(intOf i).toNat)
 case atStart=>exact⟨0,by omega,rfl,by simp[Hid]⟩
 case round=>
  obtain⟨j,hj,rfl,HR⟩:=hrel
  by_cases hlt:j<s.size
  ·by_cases hc:(s[j].toNat:Int)=48
   ·have H1:Hid _:=qzf s j hlt hc;have hb:((s[j].toNat:Int)==48)=true:=by simpa using hc
    clear hc;(go_wp2_with fail);go_round
    case rel=>exact⟨j+1,by omega,by go_num,HR.out.trans H1.out⟩
    case measure=>simp[intOf];omega
   ·have H1:Hid _:=qtq s j hlt hc;have hb:((s[j].toNat:Int)==48)=false:=by simpa using hc
    have hne:((j:Int)==(s.size:Int))=false:=by simp;omega
    clear hc;(go_wp2_with fail);go_ret
    exact⟨qnm (by rw[qfs,HR.out,H1.out]),rfl⟩
  ·have H1:Hid _:=qwx s j (by omega)
   have heq:((j:Int)==(s.size:Int))=true:=by simp;omega
   (go_wp2_with fail);go_ret
   exact⟨qnm (by rw[HR.out,H1.out];rfl),rfl⟩
theorem qsf (x y:Int) (w:World) :
  Calls Tryz.prog 128 #[.int .i64 x,.int .i64 y] w fun e w'=>e=.returned (.int .i64 (if x<y then -1 else if y<x then 1 else 0))∧w'=w:=by
 by_cases h1:x<y
 ·go_enter Tryz.func128,Tryz.ntmps128
  go_wp2
  go_ret
  exact⟨qbv (by first|rfl|((repeat' split)<;>omega)),rfl⟩
 ·by_cases h2:y<x
  ·go_enter Tryz.func128,Tryz.ntmps128
   go_wp2
   go_ret
   exact⟨qbv (by first|rfl|((repeat' split)<;>omega)),rfl⟩
  ·go_enter Tryz.func128,Tryz.ntmps128
   go_wp2
   go_ret
   exact⟨qbv (by first|rfl|((repeat' split)<;>omega)),rfl⟩
theorem qpp (a b:QY) (w:World) :
  Calls Tryz.prog 147 #[.string a,.string b] w fun e w'=>e=.returned (.int .i64 (Lib.compareBytes a.data.toList b.data.toList))∧w'=w:=by
 go_enter Tryz.func147,Tryz.ntmps147
 go_wp2
 rw[run_callFunc_extern Tryz.func167 (by kernel_rfl) (by kernel_rfl) (by kernel_rfl) (e:=Extern.BytealgCompare.compare) (by kernel_rfl),Lib.run_compareString]
 simp only[Result.andThen];rw[Oper.upon_value];go_wp2
 go_ret
 exact⟨rfl,rfl⟩
theorem qml (a b:QY) (w:World) :
  Calls Tryz.prog 129 #[.string a,.string b] w fun e w'=>e=.returned (.int .i64 (Lib.compareBytes a.data.toList b.data.toList))∧w'=w:=by
 go_enter Tryz.func129,Tryz.ntmps129
 go_wp2_with (go_at_call 147;refine(qpp _ _ _).mono ?_;rintro e w' ⟨rfl,rfl⟩)
 go_ret
 exact⟨rfl,rfl⟩
theorem qsq (a b:QY) (w:World) (ha:a.size≤9223372036854775806) (hb:b.size≤9223372036854775806) :
  Calls Tryz.prog 106 #[.string a,.string b] w fun e w'=>e=.returned (.int .i64 (cmpD a.data.toList b.data.toList))∧w'=w:=by
 have la:=qjx a.data.toList;have lb:=qjx b.data.toList;rw[qg]at la lb;have ea:=qn (qr a.data.toList);have eb:=qn (qr b.data.toList);have da:=qj (qr a.data.toList);have db:=qj (qr b.data.toList);have hC:cmpD a.data.toList b.data.toList=if (qr a.data.toList).length<(qr b.data.toList).length then -1 else if (qr b.data.toList).length<(qr a.data.toList).length then 1 else Lib.compareBytes (qr a.data.toList) (qr b.data.toList):=rfl;have HC:=qb hC;clear hC;generalize cmpD a.data.toList b.data.toList=C at *;go_enter Tryz.func106,Tryz.ntmps106
 (go_wp2_with fail);refine(qjq _ _ (by unfold maxLen;omega)).mono ?_
 rintro e w' ⟨rfl,rfl⟩;(go_wp2_with fail);refine(qjq _ _ (by unfold maxLen;omega)).mono ?_
 rintro e w' ⟨rfl,rfl⟩;generalize qr a.data.toList=A at *;generalize qr b.data.toList=B at *
 by_cases hl:A.length=B.length
 ·have hn:((A.length:Int) != (B.length:Int))=false:=by simp;omega
  have hle:A.length≤B.length:=by omega
  have hge:B.length≤A.length:=by omega
  clear hl;(go_wp2_with fail);refine(qml _ _ _).mono ?_;rintro e w' ⟨rfl,rfl⟩;(go_wp2_with fail);go_ret
  exact⟨qbv (by rw[HC.out,if_neg (by omega),if_neg (by omega)]),rfl⟩
 ·have hn:((A.length:Int) != (B.length:Int))=true:=by simp;omega
  clear hl;have hl:A.length<B.length∨B.length<A.length:=by simp at hn;omega
  rcases hl with hl|hl
  ·(go_wp2_with fail);refine(qsf _ _ _).mono ?_;rintro e w' ⟨rfl,rfl⟩;(go_wp2_with fail);go_ret
   exact⟨qbv (by rw[HC.out,if_pos hl]),rfl⟩
  ·(go_wp2_with fail);refine(qsf _ _ _).mono ?_;rintro e w' ⟨rfl,rfl⟩;(go_wp2_with fail);go_ret
   exact⟨qbv (by rw[HC.out,if_neg (by omega),if_pos hl]),rfl⟩
theorem cmp3:∀ a b:QB,(Lib.compareBytes a b=-1∧Op.bytesLess a b=true)∨(Lib.compareBytes a b=0∧Op.bytesLess a b=false∧(a==b)=true)∨(Lib.compareBytes a b=1∧Op.bytesLess a b=false∧(a==b)=false)
 | [],[]=>.inr (.inl (by simp[Lib.compareBytes,Op.bytesLess]))
 | [],_::_=>.inl (by simp[Lib.compareBytes,Op.bytesLess])
 | _::_,[]=>.inr (.inr (by simp[Lib.compareBytes,Op.bytesLess]))
 | a :: x,b::y=>by
  by_cases h1:a<b
  ·exact .inl (by simp[Lib.compareBytes,Op.bytesLess,h1])
  ·by_cases h2:b<a
   ·have hne:¬ a=b:=fun e=>by subst e;exact h1 h2
    exact .inr (.inr (by simp[Lib.compareBytes,Op.bytesLess,h1,h2,hne]))
   ·have he:a=b:=UInt8.le_antisymm (UInt8.not_lt.1 h2) (UInt8.not_lt.1 h1);subst he;have ih:=cmp3 x y;simp only[Lib.compareBytes,Op.bytesLess,h1,if_false,List.cons_beq_cons,BEq.rfl,Bool.true_and,decide_false,Bool.false_or];exact ih
theorem toL (s:QY):s.toList=s.data.toList:=Lib.toList_data s
theorem qxs (a b:QY) (w:World) :
  Calls Tryz.prog 100 #[.string a,.string b] w fun e w'=>e=.returned (.int .i64 (Lib.compareBytes a.data.toList b.data.toList))∧w'=w:=by
 have h3:=cmp3 a.data.toList b.data.toList;rw[←toL a,←toL b]at h3 ⊢;rcases h3 with ⟨hc,hl⟩|⟨hc,hl,he⟩|⟨hc,hl,he⟩
 all_goals rw[hc]
 all_goals clear hc
 all_goals go_enter Tryz.func100,Tryz.ntmps100
 all_goals go_wp2
 all_goals go_ret
 all_goals exact⟨rfl,rfl⟩
theorem qtb (a b:QY) (w:World) (ha:a.size≤9223372036854775806) (hb:b.size≤9223372036854775806) :
  Calls Tryz.prog 70 #[.string a,.string b] w fun e w'=>e=.returned (.int .i64 (cmpD a.data.toList b.data.toList))∧w'=w:=by
 have la:=qjx a.data.toList;have lb:=qjx b.data.toList;rw[qg]at la lb;have ea:=qn (qr a.data.toList);have eb:=qn (qr b.data.toList);have da:=qj (qr a.data.toList);have db:=qj (qr b.data.toList);have hC:cmpD a.data.toList b.data.toList=if (qr a.data.toList).length<(qr b.data.toList).length then -1 else if (qr b.data.toList).length<(qr a.data.toList).length then 1 else Lib.compareBytes (qr a.data.toList) (qr b.data.toList):=rfl;have HC:=qb hC;clear hC;generalize cmpD a.data.toList b.data.toList=C at *;go_enter Tryz.func70,Tryz.ntmps70
 (go_wp2_with fail);refine(qjl _ _ (by unfold maxLen;omega)).mono ?_
 rintro e w' ⟨rfl,rfl⟩;(go_wp2_with fail);refine(qjl _ _ (by unfold maxLen;omega)).mono ?_
 rintro e w' ⟨rfl,rfl⟩;generalize qr a.data.toList=A at *;generalize qr b.data.toList=B at *
 by_cases h1:A.length<B.length
 ·(go_wp2_with fail);go_ret
  exact⟨qbv (by rw[HC.out,if_pos h1]),rfl⟩
 ·by_cases h2:B.length<A.length
  ·(go_wp2_with fail);go_ret
   exact⟨qbv (by rw[HC.out,if_neg (by omega),if_pos h2]),rfl⟩
  ·(go_wp2_with fail);refine(qxs _ _ _).mono ?_;rintro e w' ⟨rfl,rfl⟩;(go_wp2_with fail);go_ret
   exact⟨qbv (by rw[HC.out,if_neg (by omega),if_neg (by omega)]),rfl⟩
structure Bys (W:World) (b:Nat) (l:QB):Prop where
 cell:∀ i,i<l.length→W.cell? ⟨b,i,none⟩=some (.int .u8 ((l.getD i 0).toNat:Int))
 free:∀ i,i<l.length→W.frozen? ⟨b,i,none⟩=false
theorem qqk (w:World) (e:TypeId) (s:QY) (j:Nat) (hj:j<s.size):(Lib.bytesWorld w e s).frozen? ⟨w.heap.size,j,none⟩=false:=by
 unfold World.frozen?;rw[Lib.bytesWorld_at_new];have:s.size≤(Lib.bytesCells w e s).size:=by
  unfold Lib.bytesCells;rw[Array.size_append,Array.size_map];exact Nat.le_add_right _ _
 simp;omega
theorem Bys.conv (w:World) (e:TypeId) (s:QY):Bys (Lib.bytesWorld w e s) w.heap.size s.data.toList:=
 ⟨fun i hi=>Lib.bytesWorld_cell w e s i (by rwa [qg]at hi),fun i hi=>qqk w e s i (by rwa [qg]at hi)⟩
theorem qtv (w:World) (e:TypeId) (s:QY):Below w.heap.size w (Lib.bytesWorld w e s):=by
 refine⟨rfl,rfl,rfl,?_,fun k hk=>Lib.bytesWorld_at_old w e s k hk⟩;rw[Lib.bytesWorld_size];omega
theorem Bys.set {W:World} {b:Nat} {l:QB} (h:Bys W b l) (i:Nat) (hi:i<l.length) (v:Int) (c:UInt8) (hv:v=(c.toNat:Int)) :
  Bys (W.setCell ⟨b,i,none⟩ (.int .u8 v)) b (l.set i c):=by
 subst hv;refine⟨fun j hj=>?_,fun j hj=>?_⟩
 ·rw [List.length_set]at hj
  by_cases e:j=i
  ·subst e;rw[World.cell?_setCell_same' _ _ _ (by rw[h.cell j hj];rfl)]
   simp[List.getD,hj]
  ·rw[World.cell?_setCell_other _ _ _ _ (by intro q;cases q;exact e rfl),h.cell j hj]
   simp[List.getD,Ne.symm e]
 ·rw[List.length_set]at hj;rw[World.frozen?_setCell];exact h.free j hj
theorem Bys.drew {W:World} {b:Nat} {l:QB} (h:Bys W b l):Bys W.drew b l:=⟨h.cell,h.free⟩
theorem Bys.back {P:Program} {W:World} {b:Nat} {l:QB} (h:Bys W b l) (src dst e:TypeId) (cap:Nat) (hs:P.underlying src=some (.slice e)) (he:P.underlying e=some (.int .u8)) (hd:P.underlying dst=some .string) :
  (convert src dst (.slice (some ⟨b,0,none⟩) l.length cap)).run P W=.ok (.string (qd l)) W:=by
 refine run_convert_bytes_back W src dst e ⟨b,0,none⟩ cap l hs he hd (fun j hj=>?_);have:=h.cell j hj;have ea:(Addr.add ⟨b,0,none⟩ j)=⟨b,j,none⟩:=by
  by_cases e0:j=0
  ·subst e0;rfl
  ·simp[Addr.add,e0]
 rw[ea,this];simp[List.getD,hj]
def upTo (f:UInt8→UInt8) (l:QB) (j:Nat):QB:=(l.take j).map f++l.drop j
theorem qgd (f:UInt8→UInt8) (l:QB) (j:Nat):(upTo f l j).length=l.length:=by simp[upTo];omega
theorem qwz (f:UInt8→UInt8) (l:QB):upTo f l 0=l:=by simp[upTo]
theorem qbgf (f:UInt8→UInt8) (l:QB):upTo f l l.length=l.map f:=by simp[upTo]
theorem qbbt (f:UInt8→UInt8) (l:QB) (j:Nat) (h:j<l.length):(upTo f l j).getD j 0=l.getD j 0:=by
 have e:((l.take j).map f).length=j:=by simp;omega
 simp only[upTo,List.getD];rw[List.getElem?_append_right (by omega),e]
 simp
theorem qtk (f:UInt8→UInt8) (l:QB) (j:Nat) (h:j<l.length):(upTo f l j).set j (f (l.getD j 0))=upTo f l (j+1):=by
 have e:((l.take j).map f).length=j:=by simp;omega
 unfold upTo;rw[List.set_append_right _ _ (by omega),e,Nat.sub_self,List.drop_eq_getElem_cons h,List.set_cons_zero,List.take_succ_eq_append_getElem h,List.map_append]
 simp[List.getD,h,-List.map_take]
theorem qxw (f:UInt8→UInt8) (l:QB) (j:Nat) (h:j<l.length) (hf:f (l.getD j 0)=l.getD j 0):upTo f l (j+1)=upTo f l j:=by
 rw[←qtk f l j h,hf,←qbbt f l j h];have hl:j<(upTo f l j).length:=by rw[qgd];exact h
 simp[List.getD,hl]
def lowC (c:UInt8):UInt8:=if isC (c.toNat:Int) 3 then c+32 else c
set_option maxHeartbeats 400000
theorem add32 (c:UInt8) (h:(c.toNat:Int)≤90):((c.toNat:Int)-65+97)=((c+32).toNat:Int):=by
 have:(c+32).toNat=(c.toNat+32) % 256:=UInt8.toNat_add c 32;omega
theorem add32' (c:UInt8) (h:(c.toNat:Int)≤90):((c.toNat:Int)+32)=((c+32).toNat:Int):=by
 have:(c+32).toNat=(c.toNat+32) % 256:=UInt8.toNat_add c 32;omega
theorem qnb (s:QY) (w:World) (hs:s.size≤maxLen) :
  Calls Tryz.prog 95 #[.string s] w fun e w'=>e=.returned (.string (qd (s.data.toList.map lowC)))∧Below w.heap.size w w':=by
 unfold maxLen at hs;have hconv:=fun (w:World)=>Lib.run_convert_string_bytes (P:=Tryz.prog) w 9 97 5 s Tryz.underlying9 Tryz.underlying97 Tryz.underlying5;obtain⟨W1,hW1⟩:∃ W1,Lib.bytesWorld w 5 s=W1:=⟨_,rfl⟩;have hb0:=qtv w 5 s;have hy0:=Bys.conv w 5 s;rw[hW1]at hb0 hy0;go_enter Tryz.func95,Tryz.ntmps95
 (go_wp2_with fail);go_loopw [10] (fun i wr=>∃ j:Nat,j≤s.size∧i=.int .i64 j∧Bys wr w.heap.size (upTo lowC s.data.toList j)∧Below w.heap.size w wr) (fun i _=>s.size-(intOf i).toNat)
 case atStart=>exact⟨0,by omega,rfl,by rw[qwz];exact hy0,hb0⟩
 case round=>
  obtain⟨j,hj,rfl,hy,hbel⟩:=hrel
  by_cases hlt:j<s.size
  ·have hcell:=hy.cell j (by rw[qgd,qg];exact hlt)
   have hfree:=hy.free j (by rw[qgd,qg];exact hlt)
   rw[qbbt _ _ _ (by rw[qg];exact hlt)]at hcell
   have HS:Hid _:=qtk lowC s.data.toList j (by rw[qg];exact hlt)
   have HK:Hid _:=qxw lowC s.data.toList j (by rw[qg];exact hlt)
   have HL:Hid _:=qgd lowC s.data.toList j;generalize s.data.toList.getD j 0=c at *;have hcb:c.toNat<256:=c.toNat_lt
   by_cases hc:isC (c.toNat:Int) 3=true
   ·have hbd:(65≤(c.toNat:Int))∧(c.toNat:Int)≤90:=by simpa[isC] using hc
    have HV:Hid (lowC c=c+32):=by simp[Hid,lowC,hc]
    go_wp2_with (go_at_call 86;refine(qmb _ _ _).mono ?_;rintro e w' ⟨rfl,rfl⟩)
    go_roundw
    case rel=>exact⟨j+1,by omega,by go_num,by rw[←HS.out];exact hy.set j (by rw[qgd,qg];exact hlt) _ _ (by rw[HV.out];exact add32 c hbd.2),hbel.setCell (Nat.le_refl _) _⟩
    case measure=>simp[intOf];omega
   ·have hc':isC (c.toNat:Int) 3=false:=by simpa using hc
    have HV:Hid (lowC c=c):=by simp[Hid,lowC,hc]
    go_wp2_with (go_at_call 86;refine(qmb _ _ _).mono ?_;rintro e w' ⟨rfl,rfl⟩)
    go_roundw
    case rel=>exact⟨j+1,by omega,by go_num,by rw[HK.out HV.out];exact hy,hbel⟩
    case measure=>simp[intOf];omega
  ·obtain rfl:j=s.size:=by omega
   have hback:=fun cap=>hy.back (P:=Tryz.prog) 97 9 5 cap Tryz.underlying97 Tryz.underlying5 Tryz.underlying9;rw[qgd,qg]at hback;have HA:Hid (upTo lowC s.data.toList s.size=s.data.toList.map lowC):=by have:=qbgf lowC s.data.toList;rw[qg]at this;exact this
   (go_wp2_with fail);go_ret
   exact⟨qnm (by rw[HA.out]),hbel⟩
theorem qlb (s:QY) (w:World) (hs:s.size≤maxLen) :
  Calls Tryz.prog 38 #[.string s] w fun e w'=>e=.returned (.string (qd (s.data.toList.map lowC)))∧Below w.heap.size w w':=by
 unfold maxLen at hs;have hconv:=fun (w:World)=>Lib.run_convert_string_bytes (P:=Tryz.prog) w 9 97 5 s Tryz.underlying9 Tryz.underlying97 Tryz.underlying5;obtain⟨W1,hW1⟩:∃ W1,Lib.bytesWorld w 5 s=W1:=⟨_,rfl⟩;have hb0:=qtv w 5 s;have hy0:=Bys.conv w 5 s;rw[hW1]at hb0 hy0;go_enter Tryz.func38,Tryz.ntmps38
 (go_wp2_with fail);go_loopw [4] (fun i wr=>∃ j:Nat,j≤s.size∧i=.int .i64 j∧Bys wr w.heap.size (upTo lowC s.data.toList j)∧Below w.heap.size w wr) (fun i _=>s.size-(intOf i).toNat)
 case atStart=>exact⟨0,by omega,rfl,by rw[qwz];exact hy0,hb0⟩
 case round=>
  obtain⟨j,hj,rfl,hy,hbel⟩:=hrel
  by_cases hlt:j<s.size
  ·have hcell:=hy.cell j (by rw[qgd,qg];exact hlt)
   have hfree:=hy.free j (by rw[qgd,qg];exact hlt)
   rw[qbbt _ _ _ (by rw[qg];exact hlt)]at hcell
   have HS:Hid _:=qtk lowC s.data.toList j (by rw[qg];exact hlt)
   have HK:Hid _:=qxw lowC s.data.toList j (by rw[qg];exact hlt)
   have HL:Hid _:=qgd lowC s.data.toList j;generalize s.data.toList.getD j 0=c at *;have hcb:c.toNat<256:=c.toNat_lt
   by_cases hc:isC (c.toNat:Int) 3=true
   ·have hbd:(65≤(c.toNat:Int))∧(c.toNat:Int)≤90:=by simpa[isC] using hc
    have HV:Hid (lowC c=c+32):=by simp[Hid,lowC,hc]
    go_wp2_with (go_at_call 68;refine(qpv _ _ _).mono ?_;rintro e w' ⟨rfl,rfl⟩)
    go_roundw
    case rel=>exact⟨j+1,by omega,by go_num,by rw[←HS.out];exact hy.set j (by rw[qgd,qg];exact hlt) _ _ (by rw[HV.out];exact add32' c hbd.2),hbel.setCell (Nat.le_refl _) _⟩
    case measure=>simp[intOf];omega
   ·have hc':isC (c.toNat:Int) 3=false:=by simpa using hc
    have HV:Hid (lowC c=c):=by simp[Hid,lowC,hc]
    go_wp2_with (go_at_call 68;refine(qpv _ _ _).mono ?_;rintro e w' ⟨rfl,rfl⟩)
    go_roundw
    case rel=>exact⟨j+1,by omega,by go_num,by rw[HK.out HV.out];exact hy,hbel⟩
    case measure=>simp[intOf];omega
  ·obtain rfl:j=s.size:=by omega
   have hback:=fun cap=>hy.back (P:=Tryz.prog) 97 9 5 cap Tryz.underlying97 Tryz.underlying5 Tryz.underlying9;rw[qgd,qg]at hback;have HA:Hid (upTo lowC s.data.toList s.size=s.data.toList.map lowC):=by have:=qbgf lowC s.data.toList;rw[qg]at this;exact this
   (go_wp2_with fail);go_ret
   exact⟨qnm (by rw[HA.out]),hbel⟩
def cmpN (x y:Nat):Int:=if x<y then -1 else if y<x then 1 else 0
theorem cmpB_eq (a b:QB) (h:Lib.compareBytes a b=0):a=b:=by
 rcases cmp3 a b with ⟨h1,_⟩|⟨_,_,he⟩|⟨h1,_⟩
 ·omega
 ·simpa using he
 ·omega
def vr:QB→Nat
 | []=>0
 | c::r=>(c.toNat-48)+10*vr r
open Go.RowKit Go.Shelf
open _root_.Array renaming getElem?_eq_some_iff → qbsp
open Nat renaming lt_of_lt_of_le → qbtd
open Go renaming World → QW, Value → QV
set_option linter.unusedVariables false
def digB (l:QB):Bool:=!l.isEmpty&&(qp 1 l==l.length)
def misL (n a:Nat):Int:=if a=n then 11 else 10
def seg (l:QB) (a e:Nat):QB:=(l.take e).drop a
theorem qfx (s:QY) (a e:Nat):s.extract a e=qd (seg s.data.toList a e):=qfh s a e
theorem qdf (s:QY) (a e:Nat):(s.extract a e).data.toList=seg s.data.toList a e:=by rw[qfx,qj]
theorem qsv (l:QB) (a e:Nat) (h:e≤l.length):(seg l a e).length=e-a:=by simp[seg];omega
theorem qdr (k:Int) (s:QY) (a:Nat) (h:a≤s.size):a+qp k (s.data.toList.drop a)≤s.size:=by
 have:=qhx k (s.data.toList.drop a);rw[List.length_drop,qg]at this;omega
theorem eqE (s:QY) (h:0<s.size):(s.toList==[])=false:=by
 rw[toL];rw[←qg]at h;cases hl:s.data.toList with
 | nil=>rw[hl]at h;simp at h
 | cons c r=>rfl
theorem emp (s:QY) (h:0<s.size):s.data.toList.isEmpty=false:=by
 rw[←qg]at h;cases hl:s.data.toList with
 | nil=>rw[hl]at h;simp at h
 | cons c r=>rfl
theorem size0 (s:QY) (h:¬ 0<s.size):s=⟨#[]⟩:=by
 cases s with|mk d=>
  have:d.size=0:=by simpa[ByteArray.size] using h
  rw[Array.eq_empty_of_size_eq_zero this]
def Lies (W:QW) (ps:List (Nat×Obj)):Prop:=∀ p∈ps,W.heap[p.1]? = some p.2
theorem Lies.nil (W:QW):Lies W []:=by intro p hp;cases hp
theorem Lies.cons {W:QW} {B:Nat} {o:Obj} {ps:List (Nat×Obj)} (h:W.heap[B]? = some o) (hs:Lies W ps):Lies W ((B,o)::ps):=by
 intro p hp;rcases List.mem_cons.1 hp with rfl|hp
 ·exact h
 ·exact hs p hp
theorem Lies.head {W:QW} {B:Nat} {o:Obj} {ps:List (Nat×Obj)} (h:Lies W ((B,o)::ps)):W.heap[B]? = some o:=h (B,o) List.mem_cons_self
theorem Lies.tail {W:QW} {p:Nat×Obj} {ps:List (Nat×Obj)} (h:Lies W (p::ps)):Lies W ps:=fun q hq=>h q (List.mem_cons_of_mem _ hq)
theorem Lies.lt {W:QW} {ps:List (Nat×Obj)} (h:Lies W ps) (p:Nat×Obj) (hp:p∈ps):p.1<W.heap.size:=(qbsp.1 (h p hp)).1
theorem Lies.kept {W W':QW} {row:Option Nat} {ps:List (Nat×Obj)} (h:Lies W ps) (hg:W.grownBy W' row) (hne:∀ p∈ps,some p.1≠row):Lies W' ps:=
 fun p hp=>(hg.block p.1 (h.lt p hp) (hne p hp)).trans (h p hp)
theorem Lies.alloc {W:QW} {ps:List (Nat×Obj)} (h:Lies W ps) (o:Obj):Lies (W.alloc o) ps:=h.kept (World.grownBy_alloc W o none) (by simp)
theorem qsg (W:QW) (b o:Nat) (v:QV):W.grownBy (W.setCell ⟨b,o,none⟩ v) (some b):=
 ⟨rfl,rfl,rfl,(KeepsWalks.setCell W _ v).size,fun k _ hk=>Below.heap_setCell _ _ _ k (fun e=>hk (by rw[e]))⟩
theorem Lies.other {W:QW} {ps:List (Nat×Obj)} (h:Lies W ps) (b o:Nat) (v:QV) (hne:∀ p∈ps,p.1≠b):Lies (W.setCell ⟨b,o,none⟩ v) ps:=
 h.kept (qsg W b o v) (fun p hp e=>hne p hp (by simpa using e))
theorem Lies.below {W W':QW} {n:Nat} {ps:List (Nat×Obj)} (h:Lies W ps) (hb:Below n W W') (hn:∀ p∈ps,p.1<n):Lies W' ps:=
 fun p hp=>(hb.block p.1 (hn p hp)).trans (h p hp)
theorem qtw {β : Type} (B0:Nat) (ps:List (Nat×Obj)) (hps:∀ p∈ps,p.1<B0):OwnFrom B0 (fun (_:β) W=>Lies W ps):=by
 rintro s X Y row h hg hrow;exact h.kept hg (fun p hp e=>by have:=(hrow p.1 e.symm).1;have:=hps p hp;omega)
theorem qdj {W:QW} {B:Nat} {t:TypeId} {v:QV} {m:Nat×Nat} (h:W.heap[B]? = some (.cells #[v] t m)):W.cell? ⟨B,0,none⟩=some v:=by simp[World.cell?,h]
theorem qf {W:QW} {B:Nat} {t:TypeId} {cs:Array QV} (o:Nat) (h:W.heap[B]? = some (.cells cs t (0,0))):W.frozen? ⟨B,o,none⟩=false:=by simp[World.frozen?,h]
theorem qc {W:QW} {B:Nat} {t:TypeId} {cs:Array QV} {m:Nat×Nat} (o:Nat) {v:QV} (h:W.heap[B]? = some (.cells cs t m)) (hv:cs[o]? = some v):W.cell? ⟨B,o,none⟩=some v:=by simp[World.cell?,h,hv]
theorem qw {W:QW} {B:Nat} {t:TypeId} {cs:Array QV} {m:Nat×Nat} (o:Nat) (v:QV) (h:W.heap[B]? = some (.cells cs t m)):(W.setCell ⟨B,o,none⟩ v).heap[B]? = some (.cells (cs.setIfInBounds o v) t m):=by
 obtain⟨hlt,hk⟩:=qbsp.1 h;show(W.heap.modify B _)[B]? = _;rw[Array.getElem?_eq_getElem (by rw[Array.size_modify];exact hlt),Array.getElem_modify_self,hk]
 rfl
def qz (W:QW) (v:QV) (ts:List QB):Prop:=
 ∃ a cap,v=.slice a ts.length cap∧(ts=[]∨∃ b off,a=some ⟨b,off,none⟩∧b<W.heap.size∧∀ i (h:i<ts.length),W.cell? ⟨b,off+i,none⟩=some (.string (qd ts[i])))
theorem qz.below {W W':QW} {v:QV} {ts:List QB} (h:qz W v ts) (hb:Below W.heap.size W W'):qz W' v ts:=by
 obtain⟨a,cap,hv,h0|⟨b,off,ha,hlt,hc⟩⟩:=h
 ·exact⟨a,cap,hv,.inl h0⟩
 ·exact⟨a,cap,hv,.inr ⟨b,off,ha,qbtd hlt hb.size,fun i hi=>by rw[←hc i hi];simp only[World.cell?];rw[hb.block b hlt]⟩⟩
theorem qz.some {W:QW} {a:Option Addr} {n cap:Nat} {ts:List QB} (h:qz W (.slice a n cap) ts) (hne:0<ts.length) :
  ∃ b off,a=some ⟨b,off,none⟩∧∀ i (h:i<ts.length),W.cell? ⟨b,off+i,none⟩=some (.string (qd ts[i])):=by
 obtain⟨a',cap',hv,h0|⟨b,off,ha,hlt,hc⟩⟩:=h
 ·subst h0;simp at hne
 ·cases hv;exact⟨b,off,ha,hc⟩
def qrv (ts:List QB):Prop:=ts.length≤9223372036854775806∧∀ t∈ts,t.length≤9223372036854775806
theorem qbmz {n:Nat} (h:n=0):((n:Int)==0)=true:=by subst h;rfl
theorem qbmk {n:Nat} (h:¬ n=0):((n:Int)==0)=false:=by simp;omega
structure Turn (B:Nat) (w w':QW):Prop where
 os:w'.os=w.os
 tape:w'.tape=w.tape
 output:w'.output=w.output
 size:w.heap.size≤w'.heap.size
 block:∀ k,k<w.heap.size→k≠B→w'.heap[k]? = w.heap[k]?
theorem Turn.refl (B:Nat) (w:QW):Turn B w w:=⟨rfl,rfl,rfl,Nat.le_refl _,fun _ _ _=>rfl⟩
theorem Turn.trans {B:Nat} {a b c:QW} (h:Turn B a b) (k:Turn B b c):Turn B a c:=
 ⟨k.os.trans h.os,k.tape.trans h.tape,k.output.trans h.output,Nat.le_trans h.size k.size,fun i hi hn=>(k.block i (qbtd hi h.size) hn).trans (h.block i hi hn)⟩
theorem Turn.ofBelow {B:Nat} {w w':QW} (h:Below w.heap.size w w'):Turn B w w':=⟨h.os,h.tape,h.output,h.size,fun k hk _=>h.block k hk⟩
theorem Turn.below {B n:Nat} {w w':QW} (h:Turn B w w') (hn:n≤B) (hs:n≤w.heap.size):Below n w w':=⟨h.os,h.tape,h.output,h.size,fun k hk=>h.block k (qbtd hk hs) (by omega)⟩
theorem Turn.set (B o:Nat) (w:QW) (v:QV):Turn B w (w.setCell ⟨B,o,none⟩ v):=
 ⟨rfl,rfl,rfl,by rw[show(w.setCell ⟨B,o,none⟩ v).heap.size=w.heap.size from Array.size_modify];exact Nat.le_refl _,fun k _ hn=>Below.heap_setCell _ _ _ k hn⟩
theorem Turn.drewN (B:Nat) (w:QW):∀ n,Turn B w (w.drewN n)
 | 0=>Turn.refl B w
 | n+1=>by
  have h:=Turn.drewN B w.drew n;exact⟨h.os,h.tape,h.output,h.size,h.block⟩
theorem qbw (w:QW):∀ n,(w.drewN n).heap=w.heap
 | 0=>rfl
 | n+1=>qbw w.drew n
theorem qx (k:Nat) (w:QW) (n:Nat):Below k w (w.drewN n):=by
 have h:=Turn.drewN 0 w n;exact⟨h.os,h.tape,h.output,h.size,fun j _=>by rw[qbw]⟩
theorem Turn.grown {B:Nat} {w w':QW} (h:Turn B w w'):w.grownBy w' (some B):=⟨h.os,h.tape,h.output,h.size,fun k hk hn=>h.block k hk (fun e=>hn (by rw[e]))⟩
theorem qbc {B:Nat} {w w':QW} {base:Nat} {e:TypeId} {size:Nat} {v:QV} {n:Nat} {xs:List QV} (h:w.ownsRow base e size v n xs) (ht:Turn B w w') (hB:B<base):w'.ownsRow base e size v n xs:=by
 refine h.kept ht.grown ?_;cases ho:v.ownBlock with
 | none=>exact .inl rfl
 | some k=>exact .inr (fun e=>by have:=(h.lt k ho).1;injection e with e;omega)
theorem qmt (n a:Nat):misL n a≠0:=by unfold misL;split<;>decide
theorem Turn.alloc {B:Nat} {w W:QW} (h:Turn B w W) (o:Obj):Turn B w (W.alloc o):=h.trans (Turn.ofBelow ((Below.refl _ W).alloc (Nat.le_refl _) o))
theorem qpc {B:Nat} {w W W':QW} {row:Option Nat} (h:Turn B w W) (hg:W.grownBy W' row) (hr:∀ k,row=some k→w.heap.size≤k):Turn B w W':=
 ⟨hg.os.trans h.os,hg.tape.trans h.tape,hg.output.trans h.output,Nat.le_trans h.size hg.size,fun k hk hn=>(hg.block k (qbtd hk h.size) (fun e=>by have:=hr k e.symm;omega)).trans (h.block k hk hn)⟩
theorem qbhn (k:Int):∀ m:QB,qp k (m.take (qp k m))=qp k m
 | []=>rfl
 | c::r=>by
  by_cases hc:isC (c.toNat:Int) k=true
  ·have e:qp k (c::r)=qp k r+1:=by rw[qp,if_pos hc]
   rw[e,List.take_succ_cons,qp,if_pos hc,qbhn k r]
  ·have e:qp k (c::r)=0:=by rw[qp,if_neg hc]
   rw[e,List.take_zero];rfl
theorem qpn (l:QB) (a d:Nat):seg l a (a+d)=(l.drop a).take d:=by
 unfold seg;rw[List.drop_take]
 congr 1
 omega
theorem qbdw (l:QB) (a:Nat):seg l a a=[]:=by unfold seg;rw[List.drop_eq_nil_iff,List.length_take];omega
def qbdr (n:Nat) (v:QV):Prop:=∀ a i c,v=.slice (some a) i c→n≤a.block
theorem qqv {W:QW} {base:Nat} {v:QV} {k:Nat} {xs:List QV} (h:W.ownsRow base 9 1 v k xs):qbdr base v:=by
 rintro a i c rfl;rcases h.2 with ⟨h1,_⟩|⟨g,cap,cur,h1,hg,_⟩
 ·cases h1
 ·cases h1;exact hg
theorem qbgr {W W':QW} {v:QV} {ts:List QB} {B:Nat} (h:qz W v ts) (hk:∀ j,j<W.heap.size→j≠B→W'.heap[j]? = W.heap[j]?) (hs:W.heap.size≤W'.heap.size) (hB:∀ a n cap,v=.slice (some a) n cap→ts≠[]→a.block≠B):qz W' v ts:=by
 obtain⟨a,cap,hv,h0|⟨b,off,ha,hlt,hc⟩⟩:=h
 ·exact⟨a,cap,hv,.inl h0⟩
 ·by_cases hn:ts=[]
  ·exact⟨a,cap,hv,.inl hn⟩
  ·have hne:=hB _ _ _ (by rw[hv,ha]) hn
   exact⟨a,cap,hv,.inr ⟨b,off,ha,qbtd hlt hs,fun i hi=>by rw[←hc i hi];simp only[World.cell?];rw[hk b hlt hne]⟩⟩
theorem qbnx {n:Nat} {W W':QW} {v:QV} {ts:List QB} (h:qz W v ts) (hf:qbdr n v) (hk:∀ j,n≤j→j<W.heap.size→W'.heap[j]? = W.heap[j]?) (hs:W.heap.size≤W'.heap.size):qz W' v ts:=by
 obtain⟨a,cap,hv,h0|⟨b,off,ha,hlt,hc⟩⟩:=h
 ·exact⟨a,cap,hv,.inl h0⟩
 ·have hn:=hf _ _ _ (by rw[hv,ha])
  exact⟨a,cap,hv,.inr ⟨b,off,ha,qbtd hlt hs,fun i hi=>by rw[←hc i hi];simp only[World.cell?];rw[hk b hn hlt]⟩⟩
theorem qz.drewN {W:QW} {v:QV} {ts:List QB} (h:qz W v ts) (n:Nat):qz (W.drewN n) v ts:=h.below (qx _ _ _)
def Cap (v:QV):Prop:=∀ a n c,v=.slice a n c→n≤c
theorem qbcj {W:QW} {base:Nat} {e:TypeId} {size:Nat} {v:QV} {k:Nat} {xs:List QV} (h:W.ownsRow base e size v k xs):Cap v:=by
 rintro a n c rfl;rcases h.2 with ⟨h1,_⟩|⟨g,cap,cur,h1,_,_,h2,_⟩
 ·cases h1;exact Nat.le_refl _
 ·cases h1;exact h2
def lenI:List QB→Nat
 | []=>0
 | t::r=>1+t.length+lenI r
theorem cell_lt {W:QW} {a:Addr} {v:QV} (h:W.cell? a=some v):a.block<W.heap.size:=by
 unfold World.cell? at h;cases hb:W.heap[a.block]? with
 | none=>rw[hb]at h;simp at h
 | some o=>exact(qbsp.1 hb).1
theorem qsr (W:QW):qz W (.slice none 0 0) []:=⟨none,0,rfl,.inl rfl⟩
def skL (l:QB) (a:Nat):Nat:=a+qp 6 (l.drop a)
def wdN:QB→Nat
 | []=>0
 | c::r=>if c==44||isC (c.toNat:Int) 6 then 0 else wdN r+1
def comL:QB→QB→Nat
 | c::r,d::t=>if c==d then comL r t+1 else 0
 | _,_=>0
def sgn:Nat→QB
 | 0=>[126,61]
 | 1=>[61,61]
 | 2=>[33,61]
 | 3=>[60,61]
 | 4=>[62,61]
 | 5=>[60]
 | 6=>[62]
 | 7=>[61,61,61]
 | _=>[]
def qgg (l:QB) (x:Nat×Nat) (k:Nat):Nat×Nat:=(if comL l (sgn k)=(sgn k).length∧(sgn x.1).length<comL l (sgn k) then k else x.1,max x.2 (comL l (sgn k)))
def opGo (l:QB):Nat→Nat×Nat
 | 0=>(8,0)
 | k+1=>qgg l (opGo l k) k
theorem qhs (l:QB) (a:Nat) (h:a≤l.length):a≤skL l a∧skL l a≤l.length:=by
 have:=qhx 6 (l.drop a);rw[List.length_drop]at this;unfold skL;omega
theorem qmk:∀ l:QB,wdN l≤l.length
 | []=>Nat.le_refl _
 | c::r=>by
  have:=qmk r;unfold wdN;split
  ·simp
  ·simp;omega
theorem qsw:∀ a b:QB,comL a b≤a.length∧comL a b≤b.length
 | [],_=>by simp[comL]
 | _::_,[]=>by simp[comL]
 | c::r,d::t=>by
  have:=qsw r t;unfold comL;split
  ·simp;omega
  ·simp
theorem qbct (k:Nat):(sgn k).length≤3:=by
 unfold sgn;split<;>simp
theorem qhv (l:QB):∀ k,k≤8→(opGo l k).1≤8∧(opGo l k).2≤l.length∧(opGo l k).2≤3∧(sgn (opGo l k).1).length≤(opGo l k).2
 | 0,_=>by simp[opGo,sgn]
 | k+1,h=>by
  have h1:=qhv l k (by omega)
  have h2:=qsw l (sgn k);have h3:=qbct k;unfold opGo qgg;dsimp only;refine⟨?_,?_,?_,?_⟩
  ·split<;>omega
  ·omega
  ·omega
  ·split<;>omega
set_option maxHeartbeats 2000000
set_option maxRecDepth 100000
theorem qbfs (a b:QY) (n:Nat) (h1:n<a.size) (h2:n<b.size) (h:a[n]=b[n]):comL (a.data.toList.drop n) (b.data.toList.drop n)=comL (a.data.toList.drop (n+1)) (b.data.toList.drop (n+1))+1:=by
 rw[qch a n h1,qch b n h2,comL,if_pos (by simp[h])]
theorem qzj (a b:QY) (n:Nat) (h1:n<a.size) (h2:n<b.size) (h:a[n]≠b[n]):comL (a.data.toList.drop n) (b.data.toList.drop n)=0:=by
 rw[qch a n h1,qch b n h2,comL,if_neg (by simp[h])]
theorem qbht (a b:QY) (n:Nat) (h:a.size≤n∨b.size≤n):comL (a.data.toList.drop n) (b.data.toList.drop n)=0:=by
 rcases h with h|h
 ·rw[qfd a n h,comL];intro c r d t e;cases e
 ·rw[qfd b n h,comL];intro c r d t _ e;cases e
theorem qwq (s:QY) (z:Nat) (h:z<s.size):s.data.toList[z]? = some s[z]:=by
 rw[List.getElem?_eq_getElem (by rw[qg];exact h)];rfl
theorem qblh (a b:QY) (w:World) (ha:a.size≤256) (hb:b.size≤256) :
  Calls Tryz.prog 135 #[.string a,.string b] w fun e w'=>e=.returned (.int .i64 (comL a.data.toList b.data.toList:Int))∧∃ m,w'=w.drewN m:=by
 go_enter Tryz.func135,Tryz.ntmps135
 (go_wp2_with fail);go_loopw [5] (fun y wr=>∃ n:Nat,n≤a.size∧n≤b.size∧y=.int .i64 n∧comL a.data.toList b.data.toList=n+comL (a.data.toList.drop n) (b.data.toList.drop n)∧∃ m,wr=w.drewN m) (fun y _=>256-(intOf y).toNat)
 case atStart=>exact⟨0,by omega,by omega,rfl,by simp,0,rfl⟩
 case round=>
  obtain⟨n,hn1,hn2,rfl,hc,hb0⟩:=hrel;have HC:=qb hc;have HB:Hid (∃ m,wr.drew=w.drewN m):=by obtain⟨m,rfl⟩:=hb0;exact⟨m+1,rfl⟩
  clear hc hb0
  by_cases hs:b.size<a.size
  ·by_cases hlt:n<b.size
   ·have h1:n<a.size:=by omega
    by_cases he:a[n]=b[n]
    ·have hcmp:((a[n].toNat:Int)==(b[n].toNat:Int))=true:=by rw[he];simp
     have HN:=qb (HC.out.trans (by rw[qbfs a b n (by omega) (by omega) he]))
     clear he;(go_wp2_with fail);go_region
     all_goals
      (go_wp2_with fail);exact⟨⟨n+1,by omega,by omega,by go_num,by have:=HN.out;omega,HB.out⟩,by simp[intOf];omega⟩
    ·have hcmp:((a[n].toNat:Int)==(b[n].toNat:Int))=false:=by
      simp only[beq_eq_false_iff_ne,ne_eq];intro e;exact he (UInt8.toNat_inj.1 (by omega))
     have HN:=qb (HC.out.trans (by rw[qzj a b n (by omega) (by omega) he]))
     clear he;(go_wp2_with fail);go_region
     all_goals
      (go_wp2_with fail);go_ret
      exact⟨by rw[HN.out];rfl,HB.out⟩
   ·have HN:=qb (HC.out.trans (by rw[qbht a b n (.inr (by omega))]))
    (go_wp2_with fail);go_region
    all_goals
     (go_wp2_with fail);go_ret
     exact⟨by rw[HN.out];rfl,HB.out⟩
  ·by_cases hlt:n<a.size
   ·have h1:n<b.size:=by omega
    by_cases he:a[n]=b[n]
    ·have hcmp:((a[n].toNat:Int)==(b[n].toNat:Int))=true:=by rw[he];simp
     have HN:=qb (HC.out.trans (by rw[qbfs a b n (by omega) (by omega) he]))
     clear he;(go_wp2_with fail);go_region
     all_goals
      (go_wp2_with fail);exact⟨⟨n+1,by omega,by omega,by go_num,by have:=HN.out;omega,HB.out⟩,by simp[intOf];omega⟩
    ·have hcmp:((a[n].toNat:Int)==(b[n].toNat:Int))=false:=by
      simp only[beq_eq_false_iff_ne,ne_eq];intro e;exact he (UInt8.toNat_inj.1 (by omega))
     have HN:=qb (HC.out.trans (by rw[qzj a b n (by omega) (by omega) he]))
     clear he;(go_wp2_with fail);go_region
     all_goals
      (go_wp2_with fail);go_ret
      exact⟨by rw[HN.out];rfl,HB.out⟩
   ·have HN:=qb (HC.out.trans (by rw[qbht a b n (.inl (by omega))]))
    (go_wp2_with fail);go_region
    all_goals
     (go_wp2_with fail);go_ret
     exact⟨by rw[HN.out];rfl,HB.out⟩
theorem qbgg (s:QY) (a:Nat) (w:World) (hs:s.size≤256) (ha:a≤s.size) :
  Calls Tryz.prog 117 #[.string s,.int .i64 (a:Int)] w fun e w'=>e=.returned (.tuple #[.int .i64 (skL s.data.toList a:Int),.int .i64 (if skL s.data.toList a<s.data.toList.length∧s.data.toList[skL s.data.toList a]?≠some 44 then 10 else 0)])∧Below w.heap.size w w':=by
 have R1:=qb (fun W=>qjc s (a:Int) 6 W (by unfold maxLen;omega))
 have hk:=qhs s.data.toList a (by rw[qg];exact ha)
 rw[qg]at hk ⊢;have hr:runI s.data.toList (a:Int) 6=((skL s.data.toList a:Nat):Int):=by rw[qdl s a 6 ha];unfold skL;omega
 rw[hr]at R1;clear hr;generalize skL s.data.toList a=z at *;go_enter Tryz.func117,Tryz.ntmps117
 by_cases hz:z<s.size
 ·have hd:decide ((z:Int)<(s.size:Int))=true:=by simp;omega
  rw[qwq s z hz]
  by_cases hc:s[z]=44
  ·have hcmp:((s[z].toNat:Int) != 44)=false:=by rw[hc];rfl
   have HP:Hid ((if z<s.size∧some s[z]≠some 44 then (10:Int) else 0)=0):=qb (by rw[hc];simp)
   rw[HP.out];clear hc;go_wp2_with (go_at_call 60;refine(R1.out _).mono ?_;rintro e w' ⟨rfl,rfl⟩)
   go_ret2
   exact⟨rfl,Below.refl _ _⟩
  ·have hcmp:((s[z].toNat:Int) != 44)=true:=by
    simp only[bne_iff_ne,ne_eq];intro e;exact hc (UInt8.toNat_inj.1 (by show _=44;omega))
   have HP:Hid ((if z<s.size∧some s[z]≠some 44 then (10:Int) else 0)=10):=qb (by rw[if_pos ⟨hz,by simpa using hc⟩])
   rw[HP.out];clear hc;go_wp2_with (go_at_call 60;refine(R1.out _).mono ?_;rintro e w' ⟨rfl,rfl⟩)
   go_ret2
   exact⟨rfl,Below.refl _ _⟩
 ·have hd:decide ((z:Int)<(s.size:Int))=false:=by simp;omega
  rw[if_neg (fun h=>hz h.1)];go_wp2_with (go_at_call 60;refine(R1.out _).mono ?_;rintro e w' ⟨rfl,rfl⟩)
  go_ret2
  exact⟨rfl,Below.refl _ _⟩
end Go.Proofs.YtabmfdedbpmfmaaGreat
