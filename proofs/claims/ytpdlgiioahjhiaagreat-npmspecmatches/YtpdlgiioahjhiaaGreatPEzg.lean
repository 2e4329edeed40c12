/- Walks: a set's text. -/
import Derived.Test.YtpdlgiioahjhiaaGreatPPlainT
import Derived.Test.YtpdlgiioahjhiaaGreatPBa
import Derived.Deep.RegionHeld3
import Derived.Test.YtpdlgiioahjhiaaGreatPJoin
import Derived.Test.YtpdlgiioahjhiaaGreatPEzm
import Derived.Test.YtpdlgiioahjhiaaGreatPEzi
namespace Go.Proofs.YtpdlgiioahjhiaaGreat
open Go.RowKit Go.Shelf
set_option linter.unusedVariables false
set_option maxHeartbeats 2000000
set_option maxRecDepth 100000
def mayB (p : Bool) (t : QB) : Bool := idB t && !(p && qcq t)
theorem mayB_pre (ts : List QB) : ts.all (mayB true) = ts.all preB := by
 congr 1
theorem mayB_bld (ts : List QB) : ts.all (mayB false) = ts.all idB := by
 congr 1
 funext t
 simp [mayB]
theorem all_take (P : QB → Bool) (ts : List QB) (k : Nat) (h : k < ts.length) (h1 : (ts.take k).all P = true) (h2 : P ts[k] = true) : (ts.take (k + 1)).all P = true := by
 rw [List.take_succ_eq_append_getElem h, List.all_append, h1];simpa using h2
theorem all_not (P : QB → Bool) (ts : List QB) (k : Nat) (h : k < ts.length) (h2 : P ts[k] = false) : ts.all P = false := by
 rw [List.all_eq_false];exact ⟨ts[k], List.getElem_mem h, by simp [h2]⟩
theorem qxf (p : Bool) (v : Value) (ts : List QB) (w : World) (hv : Txt w v ts) (hs : qxd ts) :
  Calls Tryz.prog 47 #[v, .bool p] w fun e w' => e = .returned (.bool (ts.all (mayB p))) ∧ w' = w := by
 obtain ⟨a1, c1, rfl, _⟩ := id hv;have HA := qb hv;have hs1 := hs.1;have HS := qb hs.2;clear hv hs;have HF := qb (all_not (mayB p) ts);have HE : Hid ((ts.take ts.length).all (mayB p) = true → ts.all (mayB p) = true) := by show _ → _; rw [List.take_length]; exact id
 generalize ts.all (mayB p) = D at *;go_enter Tryz.func47, Tryz.ntmps47
 (go_wp2_with fail);go_loop [5] (fun i => ∃ k : Nat, k ≤ ts.length ∧ i = .int .i64 k ∧ Hid ((ts.take k).all (mayB p) = true)) (fun i => ts.length - (intOf i).toNat)
 case atStart => exact ⟨0, by omega, rfl, rfl⟩
 case round =>
  obtain ⟨k, hk, rfl, HK⟩ := hrel
  by_cases hlt : k < ts.length
  ·obtain ⟨b1, o1, rfl, h1⟩ := HA.out.some (by omega)
   have g1 := h1 k hlt;have hlt' : (k : Int) < (ts.length : Int) := by omega
   have hk0 : (0 : Int) ≤ (k : Int) := by omega
   have hsz := HS.out ts[k] (List.getElem_mem hlt);have HN := qb (all_take (mayB p) ts k hlt HK.out);have HG := qb (HF.out k hlt);generalize ht : ts[k] = t at *;clear h1 ht;obtain ⟨s, rfl⟩ : ∃ s : QY, t = s.data.toList := ⟨qg t, (qj t).symm⟩;rw [qgx] at g1;rw [qh] at hsz
   by_cases ht0 : s.size = 0
   ·have hs0 := qbjm s (by omega)
    have hD := HG.out (by rw [hs0]; rfl)
    subst hs0;subst hD;(go_wp2_with fail);go_ret
    exact ⟨rfl, rfl⟩
   ·have htl : 0 < s.size := by omega
    have hl0 : ((s.size : Int) == 0) = false := by rw [beq_eq_false_iff_ne]; omega
    have hB := qbbw s w (by unfold maxLen; omega)
    clear ht0;cases hz : (p && qcq s.data.toList)
    ·have HM : Hid (mayB p s.data.toList = idB s.data.toList) := by show _ = _; unfold mayB; rw [hz]; simp
     cases p
     ·clear hB hz;(go_wp2_with fail);go_loop [6] (fun j => ∃ m : Nat, m ≤ s.size ∧ j = .int .i64 m ∧ Hid (idL s.data.toList = m + idL (s.data.toList.drop m))) (fun j => s.size - (intOf j).toNat)
      case atStart => exact ⟨0, by omega, rfl, by show _ = _; simp⟩
      case round =>
       obtain ⟨m, hm, rfl, HI⟩ := hrel
       by_cases hml : m < s.size
       ·cases hcc : isId s[m]
        ·have HC := qb (qjw s[m] w);rw [hcc] at HC;have hmiss := qqt s m hml hcc;have hD := HG.out (by rw [HM.out]; unfold idB; rw [HI.out, hmiss, qh]; simp; omega)
         subst hD;clear hcc hmiss;(go_wp2_with fail);refine HC.out.mono ?_;rintro e w' ⟨rfl, rfl⟩;(go_wp2_with fail);go_ret
         exact ⟨rfl, rfl⟩
        ·have HC := qb (qjw s[m] w);rw [hcc] at HC;have HH := qb (qpt s m hml hcc);clear hcc;(go_wp2_with fail);refine HC.out.mono ?_;rintro e w' ⟨rfl, rfl⟩;(go_wp2_with fail);go_round
         case rel => exact ⟨m + 1, by omega, by go_num, by show _ = _; have := HI.out; have := HH.out; omega⟩
         case measure => simp [intOf]; omega
       ·obtain rfl : m = s.size := by omega
        have hall := qb (HN.out (by rw [HM.out]; unfold idB; rw [HI.out, qsz s s.size (Nat.le_refl _), qh, emp s htl]; simp))
        (go_wp2_with fail);go_round
        case rel => exact ⟨k + 1, by omega, by go_num, hall⟩
        case measure => simp [intOf]; omega
     ·rw [show qcq s.data.toList = false by simpa using hz] at hB
      have HB := qb hB;clear hB hz;(go_wp2_with fail);refine HB.out.mono ?_;rintro e w' ⟨rfl, hw⟩;rw [hw];clear hw w';(go_wp2_with fail);go_loop [6] (fun j => ∃ m : Nat, m ≤ s.size ∧ j = .int .i64 m ∧ Hid (idL s.data.toList = m + idL (s.data.toList.drop m))) (fun j => s.size - (intOf j).toNat)
      case atStart => exact ⟨0, by omega, rfl, by show _ = _; simp⟩
      case round =>
       obtain ⟨m, hm, rfl, HI⟩ := hrel
       by_cases hml : m < s.size
       ·cases hcc : isId s[m]
        ·have HC := qb (qjw s[m] w);rw [hcc] at HC;have hmiss := qqt s m hml hcc;have hD := HG.out (by rw [HM.out]; unfold idB; rw [HI.out, hmiss, qh]; simp; omega)
         subst hD;clear hcc hmiss;(go_wp2_with fail);refine HC.out.mono ?_;rintro e w' ⟨rfl, rfl⟩;(go_wp2_with fail);go_ret
         exact ⟨rfl, rfl⟩
        ·have HC := qb (qjw s[m] w);rw [hcc] at HC;have HH := qb (qpt s m hml hcc);clear hcc;(go_wp2_with fail);refine HC.out.mono ?_;rintro e w' ⟨rfl, rfl⟩;(go_wp2_with fail);go_round
         case rel => exact ⟨m + 1, by omega, by go_num, by show _ = _; have := HI.out; have := HH.out; omega⟩
         case measure => simp [intOf]; omega
       ·obtain rfl : m = s.size := by omega
        have hall := qb (HN.out (by rw [HM.out]; unfold idB; rw [HI.out, qsz s s.size (Nat.le_refl _), qh, emp s htl]; simp))
        (go_wp2_with fail);go_round
        case rel => exact ⟨k + 1, by omega, by go_num, hall⟩
        case measure => simp [intOf]; omega
    ·have hD := HG.out (by unfold mayB; rw [hz]; simp)
     subst hD;have hp : p = true := by cases p <;> simp_all
     have hz' : qcq s.data.toList = true := by cases p <;> simp_all
     subst hp;rw [hz'] at hB;have HB := qb hB;clear hB hz hz';(go_wp2_with fail);refine HB.out.mono ?_;rintro e w' ⟨rfl, rfl⟩;(go_wp2_with fail);go_ret
     exact ⟨rfl, rfl⟩
  ·obtain rfl : k = ts.length := by omega
   have hD := HE.out HK.out;subst hD;(go_wp2_with fail);go_ret
   exact ⟨rfl, rfl⟩
theorem qbfh (a : QB) (w : World) (ha : a.length ≤ 9223372036854775806) :
  Calls Tryz.prog 46 #[.string (qg a)] w fun e w' => e = .returned (.bool (numB a)) ∧ w' = w := by
 have := qxn (qg a) w (by rw [qx]; unfold maxLen; omega)
 rw [qj] at this;exact this
theorem fitW_eq (x : SemL) (hl : lenS x ≤ 1048576) : fitW x = (numB x.maj && numB x.min && numB x.pat && x.pre.all (mayB true) && x.bld.all (mayB false) && decide ((qng x).length ≤ 64)) := by
 rw [mayB_pre, mayB_bld, qld];unfold fitW;rw [qbqt x hl];have e : decide ((lenS x : Int) ≤ 64) = decide (lenS x ≤ 64) := by rw [decide_eq_decide]; omega
 rw [e];cases numB x.maj <;> cases numB x.min <;> cases numB x.pat <;> cases x.pre.all preB <;> cases x.bld.all idB <;> simp
theorem qrg (v : Value) (x : SemL) (w : World) (hv : qfd w v x) (hl : lenS x ≤ 1048576) :
  Calls Tryz.prog 25 #[v] w fun e w' => e = .returned (.bool (fitW x)) ∧ Below w.heap.size w w' := by
 rw [fitW_eq x hl];have sx := qbfg x hl;have T1 := qb (fun W (hW : Below w.heap.size w W) => qccb v x W (hv.below hW) hl);obtain ⟨p1, q1, rfl, t1, u1⟩ := hv;have I1 := qb (fun W (hW : Below w.heap.size w W) => qxf true p1 x.pre W (t1.below hW) sx.2.2.2.1);have I2 := qb (fun W (hW : Below w.heap.size w W) => qxf false q1 x.bld W (u1.below hW) sx.2.2.2.2);have N1 := qb (fun W => qbfh x.maj W sx.1);have N2 := qb (fun W => qbfh x.min W sx.2.1);have N3 := qb (fun W => qbfh x.pat W sx.2.2.1);obtain ⟨a1, c1, rfl, _⟩ := t1;obtain ⟨a2, c2, rfl, _⟩ := u1;have b0 := (Below.refl w.heap.size w).alloc (Nat.le_refl _) (.cells #[.string (qg x.maj), .string (qg x.min), .string (qg x.pat), .slice a1 x.pre.length c1, .slice a2 x.bld.length c2] 33);have st := qx (qng x);clear sx;generalize qg (qng x) = T at *;generalize (qng x).length = L at *;generalize numB x.maj = n1 at *;generalize numB x.min = n2 at *;generalize numB x.pat = n3 at *;generalize x.pre.all (mayB true) = n4 at *;generalize x.bld.all (mayB false) = n5 at *;cases n1
 ·simp only [Bool.false_and];go_enter Tryz.func25, Tryz.ntmps25
  (go_wp2_with fail);refine (N1.out _).mono ?_;rintro e w' ⟨rfl, hw⟩;rw [hw];clear hw w';(go_wp2_with fail);go_ret
  exact ⟨rfl, b0⟩
 ·cases n2
  ·simp only [Bool.false_and, Bool.and_false];go_enter Tryz.func25, Tryz.ntmps25
   (go_wp2_with fail);refine (N1.out _).mono ?_;rintro e w' ⟨rfl, hw⟩;rw [hw];clear hw w';(go_wp2_with fail);refine (N2.out _).mono ?_;rintro e w' ⟨rfl, hw⟩;rw [hw];clear hw w';(go_wp2_with fail);go_ret
   exact ⟨rfl, b0⟩
  ·cases n3
   ·simp only [Bool.false_and, Bool.and_false];go_enter Tryz.func25, Tryz.ntmps25
    (go_wp2_with fail);refine (N1.out _).mono ?_;rintro e w' ⟨rfl, hw⟩;rw [hw];clear hw w';(go_wp2_with fail);refine (N2.out _).mono ?_;rintro e w' ⟨rfl, hw⟩;rw [hw];clear hw w';(go_wp2_with fail);refine (N3.out _).mono ?_;rintro e w' ⟨rfl, hw⟩;rw [hw];clear hw w';(go_wp2_with fail);go_ret
    exact ⟨rfl, b0⟩
   ·cases n4
    ·simp only [Bool.false_and, Bool.and_false];go_enter Tryz.func25, Tryz.ntmps25
     (go_wp2_with fail);refine (N1.out _).mono ?_;rintro e w' ⟨rfl, hw⟩;rw [hw];clear hw w';(go_wp2_with fail);refine (N2.out _).mono ?_;rintro e w' ⟨rfl, hw⟩;rw [hw];clear hw w';(go_wp2_with fail);refine (N3.out _).mono ?_;rintro e w' ⟨rfl, hw⟩;rw [hw];clear hw w';(go_wp2_with fail);refine (I1.out _ b0).mono ?_;rintro e w' ⟨rfl, hw⟩;rw [hw];clear hw w';(go_wp2_with fail);go_ret
     exact ⟨rfl, b0⟩
    ·cases n5
     ·simp only [Bool.false_and, Bool.and_false];go_enter Tryz.func25, Tryz.ntmps25
      (go_wp2_with fail);refine (N1.out _).mono ?_;rintro e w' ⟨rfl, hw⟩;rw [hw];clear hw w';(go_wp2_with fail);refine (N2.out _).mono ?_;rintro e w' ⟨rfl, hw⟩;rw [hw];clear hw w';(go_wp2_with fail);refine (N3.out _).mono ?_;rintro e w' ⟨rfl, hw⟩;rw [hw];clear hw w';(go_wp2_with fail);refine (I1.out _ b0).mono ?_;rintro e w' ⟨rfl, hw⟩;rw [hw];clear hw w';(go_wp2_with fail);refine (I2.out _ b0).mono ?_;rintro e w' ⟨rfl, hw⟩;rw [hw];clear hw w';(go_wp2_with fail);go_ret
      exact ⟨rfl, b0⟩
     ·simp only [Bool.true_and]
      by_cases hL : L ≤ 64
      all_goals
       simp only [hL, decide_true, decide_false];go_enter Tryz.func25, Tryz.ntmps25
       (go_wp2_with fail);refine (N1.out _).mono ?_;rintro e w' ⟨rfl, hw⟩;rw [hw];clear hw w';(go_wp2_with fail);refine (N2.out _).mono ?_;rintro e w' ⟨rfl, hw⟩;rw [hw];clear hw w';(go_wp2_with fail);refine (N3.out _).mono ?_;rintro e w' ⟨rfl, hw⟩;rw [hw];clear hw w';(go_wp2_with fail);refine (I1.out _ b0).mono ?_;rintro e w' ⟨rfl, hw⟩;rw [hw];clear hw w';(go_wp2_with fail);refine (I2.out _ b0).mono ?_;rintro e w' ⟨rfl, hw⟩;rw [hw];clear hw w';(go_wp2_with fail);refine (T1.out _ b0).mono ?_;rintro e w2 ⟨rfl, b2⟩;(go_wp2_with fail);go_ret
       exact ⟨qdj (by simp; omega), b0.trans (b2.mono b0.size)⟩
end Go.Proofs.YtpdlgiioahjhiaaGreat

namespace Go.Proofs.YtpdlgiioahjhiaaGreat
open Go.RowKit Go.Shelf
set_option linter.unusedVariables false
theorem qvq (a : QB) (w : World) (ha : a.length ≤ 9223372036854775805) :
  Calls Tryz.prog 155 #[.string (qg a)] w fun e w' => e = .returned (.string (qg (qbp a))) ∧ Below w.heap.size w w' := by
 have := qcch (qg a) w (by rw [qx]; exact ha)
 rw [qj] at this;exact this
end Go.Proofs.YtpdlgiioahjhiaaGreat

namespace Go.Proofs.YtpdlgiioahjhiaaGreat
open Go.RowKit Go.Shelf
set_option linter.unusedVariables false
theorem qbsb (x : SemL) (p : Int) (h1 : x.maj.length ≤ 140737488355328) (h2 : x.min.length ≤ 140737488355328) (h3 : x.pat.length ≤ 140737488355328) : qct (qgk x p) := by
 have hn : qct semN := ⟨by simp [semN], by simp [semN], by simp [semN], ⟨by simp [semN], by simp [semN]⟩, ⟨by simp [semN], by simp [semN]⟩⟩
 unfold qgk;split
 ·split
  ·split
   ·exact qbdh x p h1 h2 h3
   ·exact hn
  ·exact hn
 ·exact hn
end Go.Proofs.YtpdlgiioahjhiaaGreat

namespace Go.Proofs.YtpdlgiioahjhiaaGreat
open Go.RowKit Go.Shelf
set_option linter.unusedVariables false
set_option maxRecDepth 100000
theorem qbrv (s : QY) (w : World) (hs : 256 < s.size) :
  CallsIn Fence.wide 5 Tryz.prog 8 #[.string s] w (qxr (12, 256, []) w) := by
 refine callsIn_of_wp_marks Tryz.func8 rfl trivial (wpIn_wide.2 ?_) rfl;simp only [Tryz.ntmps8, List.size_toArray, List.length_cons, List.length_nil, Nat.reduceAdd, Nat.reduceSub, Array.replicate_succ, Array.replicate_zero, List.push_toArray, List.append_toArray, List.nil_append, List.cons_append];have hs' : decide ((256 : Int) < (s.size : Int)) = true := by simp; omega
 clear hs;(go_wp2_with fail);go_step3
 (go_wp2_with fail);refine fin8 _ [] _ w.heap.size w.heap.size (.slice none 0 0) _ _ rfl rfl (World.alloc_heap_new w _) List.nodup_nil (fun D h => by cases h) ?_
 intro W' hp;exact ⟨_, rfl, ⟨none, 0, rfl, .inl rfl⟩, ((Below.refl _ w).alloc (Nat.le_refl _) _).trans hp.1⟩
theorem qlw (s : QY) (w : World) : Calls Tryz.prog 8 #[.string s] w (qxr (qbq s.data.toList) w) := by
 refine (callsIn_wide (n := 5)).1 ?_;unfold qbq;rw [qh]
 by_cases h : 256 < s.size
 ·rw [if_pos h];exact qbrv s w h
 ·rw [if_neg h];exact qcdx s w (by omega)
theorem qtq {x : SemL} (h : qct x) : qct (qmh x) := ⟨h.1, h.2.1, h.2.2.1, ⟨by simp [qmh], by simp [qmh]⟩, h.2.2.2.2⟩
theorem qbvr (f : Nat) (p : PartL) (hp : PShort p) : ∀ c ∈ qr f p, qct c.2 := by
 have hb := hp.sem;have hn : ∀ k, qct (qgk (begL p) k) := fun k => qbsb _ _ (by have := hp.a; simp only [begL]; omega) (by have := hp.b; simp only [begL]; omega) (by have := hp.c; simp only [begL]; omega)
 have hh : ∀ k, qct (behL p k) := fun k => qtq (hn k);have hf := qtq hb;have h0 : qct (⟨[48], [48], [48], [[48]], []⟩ : SemL) := ⟨by simp, by simp, by simp, ⟨by simp, by simp⟩, ⟨by simp, by simp⟩⟩
 have hw : ∀ k, ∀ c ∈ qjf p k, qct c.2 := by
  intro k c hc;simp only [qjf, List.mem_cons, List.not_mem_nil, or_false] at hc;rcases hc with rfl | rfl
  ·exact hb
  ·exact hh k
 have hz : ∀ c ∈ qlx, qct c.2 := by
  intro c hc;simp only [qlx, List.mem_cons, List.not_mem_nil, or_false] at hc;subst hc;exact h0
 have h1 : ∀ (o : Int) (x : SemL), qct x → ∀ c ∈ [((o, x) : Comp)], qct c.2 := by
  intro o x hx c hc;simp only [List.mem_cons, List.not_mem_nil, or_false] at hc;subst hc;exact hx
 have h9 : ∀ c ∈ ([] : List Comp), qct c.2 := fun c hc => by cases hc
 unfold qr qhq qqj qqk qqm qns qls qgl
 repeat' split
 all_goals first | exact h9 | exact hz | exact hw _ | exact h1 _ _ hb | exact h1 _ _ (hh _) | exact h1 _ _ (hn _) | exact h1 _ _ hf
def qbtm (cs : List Comp) : Prop := cs.length ≤ 66 ∧ ∃ (its : List Item), its.length ≤ 33 ∧ (∀ x ∈ its, x.f ∈ fns ∧ PShort x.p) ∧ cs = its.flatMap (fun x => qr x.f x.p)
theorem qbhv {l : QB} : ∀ (xs : List Item) (a : Int) (pre : List Item), (∀ x ∈ xs, x.err = 0 → GoodI l x) → (∀ x ∈ pre, GoodI l x) →
  ∃ its : List Item, its.length ≤ pre.length + xs.length ∧ (∀ x ∈ its, GoodI l x) ∧ (qhn a (pre.flatMap (fun x => qr x.f x.p)) xs).2.2 = its.flatMap (fun x => qr x.f x.p)
 | [], a, pre, _, hp => ⟨pre, by simp, hp, rfl⟩
 | x :: xs, a, pre, h, hp => by
  by_cases he : x.err = 0
  ·rw [qlv he];have hx := h x List.mem_cons_self he;obtain ⟨its, h1, h2, h3⟩ := qbhv xs x.pos (pre ++ [x]) (fun y hy => h y (List.mem_cons_of_mem _ hy)) (fun y hy => by
    rcases List.mem_append.1 hy with hy | hy
    ·exact hp y hy
    ·simp at hy; subst hy; exact hx)
   refine ⟨its, by simp at h1 ⊢; omega, h2, ?_⟩
   rw [← h3, List.flatMap_append];simp
  ·refine ⟨pre, by simp, hp, ?_⟩
   unfold qhn;rw [if_pos he]
theorem one_good {l : QB} (hl : l.length ≤ 256) {a : Nat} (ha : a ≤ l.length) : qbtm (qbr l a).2.2 := by
 obtain ⟨its, h1, h2, h3⟩ := qbhv (l := l) (qfw l a) (a : Int) [] (qsv hl ha) (fun x h => by cases h)
 have h4 := qbhf l a;have h5 := qbcz its;simp only [List.length_nil, Nat.zero_add] at h1;have h6 : (qbr l a).2.2 = its.flatMap (fun x => qr x.f x.p) := h3;rw [h6];exact ⟨by omega, its, by omega, fun x hx => ⟨(h2 x hx).fn, (h2 x hx).short⟩, rfl⟩
theorem qbxx {l : QB} (hl : l.length ≤ 256) : ∀ (n a : Nat) (sets : List (List Comp)), a ≤ l.length → (∀ cs ∈ sets, qbtm cs) → (npGo l n a sets).2.2.length ≤ sets.length + n ∧ ∀ cs ∈ (npGo l n a sets).2.2, qbtm cs
 | 0, a, sets, _, _ => ⟨by simp [npGo], by simp [npGo]⟩
 | n + 1, a, sets, ha, h => by
  have hs : ∀ cs ∈ sets ++ [(qbr l a).2.2], qbtm cs := by
   intro cs hc;rcases List.mem_append.1 hc with hc | hc
   ·exact h cs hc
   ·simp at hc; subst hc; exact one_good hl ha
  unfold npGo;split
  ·exact ⟨by simp, by simp⟩
  ·split
   ·exact ⟨by simp, hs⟩
   ·split
    ·exact ⟨by simp, by simp⟩
    ·rename_i h3;have h4 := qbxt (Classical.byContradiction h3);have := qbxx hl n _ (sets ++ [(qbr l a).2.2]) h4.1 hs;refine ⟨?_, this.2⟩;have h5 := this.1;simp at h5 ⊢;omega
theorem qxp (l : QB) : (qbq l).2.2.length ≤ 33 ∧ ∀ cs ∈ (qbq l).2.2, qbtm cs := by
 unfold qbq;split
 ·exact ⟨by simp, by simp⟩
 ·have := qbxx (l := l) (by omega) 33 0 [] (Nat.zero_le _) (by simp)
  simpa using this
theorem qtb (l : QB) : qbvp (qbq l).2.2 := by
 obtain ⟨h1, h2⟩ := qxp l;refine ⟨by omega, fun cs hc => ?_⟩
 obtain ⟨h3, its, _, h5, rfl⟩ := h2 cs hc;refine ⟨by omega, fun c hc => ?_⟩
 obtain ⟨x, hx, hm⟩ := List.mem_flatMap.1 hc;exact qbvr _ _ (h5 x hx).2 c hm
theorem qsn (s u : QY) (w : World) : Calls Tryz.prog 21 #[.string s, .string u] w fun e w' => e = .returned (.bool (qfj (qbq s.data.toList).2.2 u.data.toList)) ∧ Below w.heap.size w w' :=
 Match_of qlw qtb s u w
end Go.Proofs.YtpdlgiioahjhiaaGreat

namespace Go.Proofs.YtpdlgiioahjhiaaGreat
open Go.RowKit Go.Shelf
open List renaming length_map → qcgc
open Nat renaming le_of_ble_eq_true → qcfd
set_option linter.unusedVariables false
set_option maxHeartbeats 8000000
set_option maxRecDepth 100000
theorem qpz {W W' : World} {B n : Nat} {v : Value} {xs : List Value} (h : W.ownsRow B 9 1 v n xs) (hb : Below W.heap.size W W') : W'.ownsRow B 9 1 v n xs :=
 h.kept (row := none) ⟨hb.os, hb.tape, hb.output, hb.size, fun k hk _ => hb.block k hk⟩ (by
  cases v.ownBlock with
  | none => exact .inl rfl
  | some k => exact .inr (by simp))
def txsN (ts : List QB) : List Value := ts.map fun t => .string (qg t)
theorem qbjc (ts : List QB) (t : QB) : txsN (ts ++ [t]) = txsN ts ++ [.string (qg t)] := by simp [txsN]
theorem qbrl {W : World} {base : Nat} {v : Value} {n : Nat} {ts : List QB} (hn : ts.length = n) (h : W.ownsRow base 9 1 v n (txsN ts)) : Txt W v ts := by
 subst hn;rcases h.2 with ⟨rfl, h0⟩ | ⟨g, cap, cur, rfl, hg, hh, _, _, hsz, ht⟩
 ·exact ⟨none, 0, by rw [h0], .inl (List.length_eq_zero_iff.1 h0)⟩
 ·have e : cur.toList = txsN ts ++ cur.toList.drop (ts.length * 1) := by rw [← ht, List.take_append_drop]
  refine ⟨_, cap, rfl, .inr ⟨g, 0, rfl, (Array.getElem?_eq_some_iff.1 hh).1, fun i hi => ?_⟩⟩;refine qd _ hh ?_;rw [Nat.zero_add, ← Array.getElem?_toList, e, List.getElem?_append_left (by simpa [txsN] using hi)]
  simp [txsN, hi]
theorem qbjg (sep : QY) (v : Value) (ts : List QB) (w : World) (hv : Txt w v ts) (hc : Cap v) (hn : ts.length ≤ 2000000) (hl : (Lib.join ts sep.data.toList).length ≤ 140737488355328) :
  Calls Tryz.prog 33 #[v, .string sep] w fun e w' => e = .returned (.string (qg (Lib.join ts sep.data.toList))) ∧ Below w.heap.size w w' := by
 obtain ⟨a, cap, rfl, h⟩ := id hv;have hcap := hc _ _ _ rfl
 by_cases h0 : ts = []
 ·subst h0;refine (Tryz.strings_Join_none a cap sep w).mono ?_;rintro e w' ⟨rfl, rfl⟩;exact ⟨rfl, Below.refl _ _⟩
 ·rcases h with h | ⟨b, off, rfl, hlt, hcell⟩
  ·exact absurd h h0
  ·have hm : (ts.map qg).map (·.data.toList) = ts := by
    rw [List.map_map]
    conv => rhs; rw [← List.map_id ts]
    refine List.map_congr_left fun t _ => ?_;simp [qg]
   have := Tryz.strings_Join b off cap (ts.map qg) sep w (by
    intro j x hj;rw [List.getElem?_map] at hj;cases hg : ts[j]? with
    | none => rw [hg] at hj; cases hj
    | some t =>
     rw [hg] at hj;obtain ⟨hj1, hj2⟩ := List.getElem?_eq_some_iff.1 hg;cases hj;rw [hcell j hj1, hj2]) hlt (by rw [qcgc]; omega) (by rw [qcgc]; exact hcap) (by rw [hm]; exact hl)
   rw [qcgc, hm] at this;exact this
theorem qvh (m : Nat) (sep : QB) : ∀ ts : List QB, (∀ t ∈ ts, t.length ≤ m) → (Lib.join ts sep).length ≤ ts.length * (m + sep.length)
 | [], _ => by simp [Lib.join, List.intercalate]
 | [t], h => by
  have := h t List.mem_cons_self;simp [Lib.join, List.intercalate];omega
 | t :: u :: r, h => by
  have ih := qvh m sep (u :: r) (fun x hx => h x (List.mem_cons_of_mem _ hx));have := h t List.mem_cons_self;unfold Lib.join at ih ⊢;simp only [List.intercalate] at ih ⊢;rw [List.intersperse_cons_cons, List.flatten_cons, List.flatten_cons, List.length_append, List.length_append];rw [List.length_cons, Nat.add_mul];omega
def qkp (c : Comp) : QB := (qkl c.1).1.data.toList ++ fmtL c.2
def okT1 (c : Comp) : Bool := (qkl c.1).2 && fitW c.2 && decide (c.2.bld.length = 0)
def setT (cs : List Comp) : QB × Bool := if cs.length = 0 then ([42], true) else if cs.all okT1 = true then (Lib.join (cs.map qkp) [32], true) else ([], false)
theorem qbpr (op : Int) : (qkl op).1.size ≤ 2 := by
 unfold qkl;split
 ·exact qcfd rfl
 ·split
  ·exact qcfd rfl
  ·split
   ·exact qcfd rfl
   ·split
    ·exact qcfd rfl
    ·split <;> exact qcfd rfl
theorem qbsl (x : SemL) (h : lenS x ≤ 1048576) : (fmtL x).length ≤ 1048576 := by
 unfold fmtL;split
 ·rw [qld]; omega
 ·simp
theorem qbgz (c : Comp) (h : lenS c.2 ≤ 1048576) : (qkp c).length ≤ 1048600 := by
 have h1 := qbpr c.1;have h2 := qbsl c.2 h;unfold qkp;rw [List.length_append, qh];omega
theorem qbgt (cs : List Comp) (v : Value) (w : World) (hv : qnf w v cs) (hs : ∀ c ∈ cs, lenS c.2 ≤ 1048576) (hcn : cs.length ≤ 2000000) :
  Calls Tryz.prog 32 #[v] w fun e w' => e = .returned (.tuple #[.string (qg (setT cs).1), .bool (setT cs).2]) ∧ Below w.heap.size w w' := by
 obtain ⟨a, k, rfl, hc0⟩ := id hv;obtain ⟨i0, hi, hz0, hz1, hz2⟩ := info_parts Tryz.info9;obtain ⟨n, hn⟩ : ∃ n, cs.length = n := ⟨_, rfl⟩;have hX : setT cs = if n = 0 then ([42], true) else if cs.all okT1 = true then (Lib.join (cs.map qkp) [32], true) else ([], false) := by unfold setT; rw [hn]
 have HJ : Hid ((Lib.join (cs.map qkp) [32]).length ≤ 140737488355328) := by
  have := qvh 1048600 [32] (cs.map qkp) (fun t ht => by obtain ⟨c, hc, rfl⟩ := List.mem_map.1 ht; exact qbgz c (hs c hc))
  rw [qcgc] at this;show _ ≤ _;simp at this ⊢;omega
 rw [hn] at hv hcn ⊢;have HN := qb hn;have HV := qb hv;have HSC := qb hs;generalize setT cs = X at *;have HX := qb hX;clear hn hv hc0 hs hX
 by_cases hn0 : n = 0
 ·have HX2 : Hid (X = ([42], true)) := by show _ = _; rw [HX.out, if_pos hn0]
  subst hn0;go_enter Tryz.func32, Tryz.ntmps32
  (go_wp2_with fail);go_ret2
  exact ⟨by rw [HX2.out]; rfl, Below.refl _ _⟩
 ·have hnb : ((n : Int) == 0) = false := by simp; omega
  have hX2 : X = if cs.all okT1 = true then (Lib.join (cs.map qkp) [32], true) else ([], false) := by rw [HX.out, if_neg hn0]
  have HX2 := qb hX2;clear hX2 HX hn0;go_enter Tryz.func32, Tryz.ntmps32
  (go_wp2_with fail);go_loopw [4, 14] (fun z j wr => ∃ (i : Nat) (ao : Option Addr) (cv : Nat), i ≤ n ∧ z = .slice ao i cv ∧ j = .int .i64 i ∧ Hid (Below w.heap.size w wr) ∧ Hid (wr.ownsRow w.heap.size 9 1 (.slice ao i cv) i (txsN ((cs.take i).map qkp))) ∧ Hid ((cs.take i).all okT1 = true)) (fun _ j _ => n - (intOf j).toNat)
  case atStart => exact ⟨0, none, 0, by omega, rfl, rfl, Below.refl _ _, World.ownsRow_nil _ _ _ _, rfl⟩
  case round =>
   obtain ⟨i, ao, cv, hin, rfl, rfl, HB, HO, HA⟩ := hrel
   by_cases hlt : i < n
   ·have hlt' : (i : Int) < (n : Int) := by omega
    have i1 : i < cs.length := by rw [HN.out]; exact hlt
    obtain ⟨a', k', hv', h0 | ⟨b, o, rfl, hbl, hrow⟩⟩ := HV.out.below HB.out
    ·exfalso;rw [h0] at i1;simp at i1
    ·cases hv';obtain ⟨vp, vb, d0, d1, d2, d3, d4, d5, t1, t2, cp1, cp2⟩ := hrow i i1;have sc := HSC.out cs[i] (List.getElem_mem i1);have h1 := qrv cs i i1 HA.out;have h3 : cs.all okT1 = true → okT1 cs[i] = true := fun h => List.all_eq_true.1 h _ (List.getElem_mem i1);have h4 : (cs.take (i + 1)).map qkp = (cs.take i).map qkp ++ [qkp cs[i]] := by rw [List.take_succ_eq_append_getElem i1, List.map_append]; rfl
     obtain ⟨a1, k1, rfl, _⟩ := id t1;obtain ⟨a2, k2, rfl, _⟩ := id t2;obtain ⟨m1, hm1⟩ : ∃ m1, cs[i].2.pre.length = m1 := ⟨_, rfl⟩;obtain ⟨m2, hm2⟩ : ∃ m2, cs[i].2.bld.length = m2 := ⟨_, rfl⟩;have hok : okT1 cs[i] = ((qkl cs[i].1).2 && fitW cs[i].2 && decide (m2 = 0)) := by unfold okT1; rw [hm2]
     have hct : qkp cs[i] = (qkl cs[i].1).1.data.toList ++ fmtL cs[i].2 := rfl;rw [hct] at h4;rw [hm1] at t1 d4 cp1;rw [hm2] at t2 d5 cp2;have H1 := qb h1;have H3 := qb h3;have H4 := qb h4;have HOK := qb hok;clear h1 h3 h4 hok hct hrow hm1 hm2;generalize cs[i] = c at *;clear i1;obtain ⟨op, x⟩ := c;dsimp only at *;have bb := (Below.refl _ wr).alloc (Nat.le_refl _) (.cells #[.int .i64 op, .string (qg x.maj), .string (qg x.min), .string (qg x.pat), .slice a1 m1 k1, .slice a2 m2 k2] 35);have C0 : Hid (Cb wr.heap.size op x a1 a2 m1 m2 k1 k2 (wr.alloc (.cells #[.int .i64 op, .string (qg x.maj), .string (qg x.min), .string (qg x.pat), .slice a1 m1 k1, .slice a2 m2 k2] 35))) := ⟨World.alloc_heap_new wr _, t1.below bb, t2.below bb⟩;have HB0 := qb (HB.out.trans (bb.mono HB.out.size));have HO0 := qb (qpz HO.out bb);have FI := qb (fun W (c : Cb wr.heap.size op x a1 a2 m1 m2 k1 k2 W) => qlc _ x W c.sem (qbfg x sc));have FM := qb (fun W (c : Cb wr.heap.size op x a1 a2 m1 m2 k1 k2 W) => qbwb _ x W c.sem (fun _ _ _ _ _ e => by cases e; exact ⟨cp1, cp2⟩) sc)
     have SI := qb (fun W => sign_any op W);have hsl := qbpr op;have hfl := qbsl x sc;have hfs := qx (fmtL x);generalize qkl op = sg at *;obtain ⟨SG, ok⟩ := sg;dsimp only at *;generalize fitW x = fx at *;generalize fmtL x = fm at *;clear t1 t2 bb HB HO cp1 cp2;obtain ⟨g0, g1, g2, g3, g4, g5⟩ := C0.out.seen;obtain ⟨t9, hcat, hcs, hcd⟩ := qdb SG (qg fm);have HCD := qb hcd;clear hcd;(go_wp2_with fail);generalize wr.alloc (.cells #[.int .i64 op, .string (qg x.maj), .string (qg x.min), .string (qg x.pat), .slice a1 m1 k1, .slice a2 m2 k2] 35) = W2 at *;generalize wr.heap.size = K at *;refine (SI.out _).mono ?_;rintro e W3 ⟨rfl, hw3⟩;rw [hw3];clear hw3 W3 SI;cases ok with
     | false =>
      have hX : X = ([], false) := by
       rw [HX2.out, if_neg];intro h;exact absurd (H3.out h) (by rw [HOK.out]; simp)
      have HX3 := qb hX;clear hX;(go_wp2_with fail);go_ret2
      exact ⟨by rw [HX3.out]; rfl, HB0.out⟩
     | true =>
      (go_wp2_with fail);refine (FI.out _ C0.out).mono ?_;rintro e W3 ⟨rfl, b3⟩;have C1 := qb (C0.out.next b3);have HB1 := qb (HB0.out.trans (b3.mono HB0.out.size));have HO1 := qb (qpz HO0.out b3);clear b3 C0 HB0 HO0 g0 g1 g2 g3 g4 g5 FI;obtain ⟨g0, g1, g2, g3, g4, g5⟩ := C1.out.seen;cases fx with
      | false =>
       have hX : X = ([], false) := by
        rw [HX2.out, if_neg];intro h;exact absurd (H3.out h) (by rw [HOK.out]; simp)
       have HX3 := qb hX;clear hX;(go_wp2_with fail);go_ret2
       exact ⟨by rw [HX3.out]; rfl, HB1.out⟩
      | true =>
       by_cases hm : m2 = 0
       ·have hm' : ¬ (0 : Int) < (m2 : Int) := by omega
        have hmn : ¬ 0 < m2 := by omega
        have hOK : okT1 (op, x) = true := by rw [HOK.out, decide_eq_true hm]; rfl
        have HOK2 := qb hOK;clear hm hOK;(go_wp2_with fail);refine (FM.out _ C1.out).mono ?_;rintro e W4 ⟨rfl, b4⟩;have HB2 := qb (HB1.out.trans (b4.mono HB1.out.size));have HO2 := qb (qpz HO1.out b4);clear b4 C1 HB1 HO1 g0 g1 g2 g3 g4 g5 FM;have hbase : w.heap.size ≤ W4.heap.size := HB2.out.size;go_wp2_with (at_builtin; refine wpList_append_own _ rfl _ _ 31 rfl w.heap.size 9 i0 (.string .empty) 1 16 Tryz.underlying31 hi hz0 hz1 hz2 rfl (by decide) _ _ _ rfl (HO2.out.alloc _) ⟨W4.heap.size, 0, none⟩ 1 1 [.string t9] rfl rfl (by intro j u hj; match j, hj with | 0, hj => simp at hj; subst hj; simp [Addr.add]) (by intro u hu; simp at hu; subst hu; rfl) (by unfold maxLen; omega) (by omega) (by simp; omega) ?_; intro v' w5 hown' hgrow _; obtain ⟨g', cap', rfl⟩ := ownsRow_succ hown')
        have HO3 : Hid (w5.ownsRow w.heap.size 9 1 (.slice (some ⟨g', 0, none⟩) (i + 1) cap') (i + 1) (txsN ((cs.take (i + 1)).map qkp))) := by
         show World.ownsRow _ _ _ _ _ _ _;have ht9 : t9 = qg (SG.data.toList ++ fm) := by rw [← qgx t9, HCD.out, qj]
         rw [H4.out, qbjc, ← ht9];exact hown'
        have HB3 := qb (((HB2.out.alloc HB2.out.size _).grown hgrow (by simp; omega) (fun k hk => (HO2.out.lt k hk).1)))
        clear hown' hgrow;(go_wp2_with fail);go_roundw
        case rel => exact ⟨i + 1, _, cap', by omega, rfl, by go_num, HB3, HO3, by show _ = _; rw [H1.out]; exact HOK2.out⟩
        case measure => simp [intOf]; omega
       ·have hm' : (0 : Int) < (m2 : Int) := by omega
        have hmn : 0 < m2 := by omega
        have hX : X = ([], false) := by
         rw [HX2.out, if_neg];intro h;exact absurd (H3.out h) (by rw [HOK.out, decide_eq_false hm]; simp)
        have HX3 := qb hX;clear hX hm;(go_wp2_with fail);go_ret2
        exact ⟨by rw [HX3.out]; rfl, HB1.out⟩
   ·have hlt' : ¬ (i : Int) < (n : Int) := by omega
    have hin2 : i = n := by omega
    have hA := HA.out;have hO := HO.out;rw [List.take_of_length_le (by rw [HN.out]; omega)] at hA hO
    have hX : X = (Lib.join (cs.map qkp) [32], true) := by rw [HX2.out, if_pos hA]
    have HX3 := qb hX;have JN := qb (fun W hW hc => qbjg ⟨#[32]⟩ (.slice ao i cv) (cs.map qkp) W hW hc (by rw [qcgc, HN.out]; omega) HJ.out)
    have HT := qb (qbrl (by rw [qcgc, HN.out]; omega) hO)
    have HCP := qb (qsd hO);clear hX hA hO hin2;(go_wp2_with fail);refine (JN.out _ HT.out HCP.out).mono ?_;rintro e W9 ⟨rfl, b9⟩;(go_wp2_with fail);go_ret2
    exact ⟨by rw [HX3.out]; rfl, HB.out.trans (b9.mono HB.out.size)⟩
end Go.Proofs.YtpdlgiioahjhiaaGreat
