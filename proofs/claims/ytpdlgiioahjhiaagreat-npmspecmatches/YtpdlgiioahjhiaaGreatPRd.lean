/- The document's reader: identifiers with dots between. -/
import Derived.Test.YtpdlgiioahjhiaaGreatPRb
import Derived.StillTailTactics
namespace Go.Proofs.YtpdlgiioahjhiaaGreat
open Go.RowKit Go.Shelf
open Calls renaming quiet_of_same → qcgr
set_option linter.unusedVariables false
set_option maxHeartbeats 1000000
def qjr (l : QB) (c : UInt8) (x : Nat × Int) : Nat × Int := if x.2 = 0 then (if atB l x.1 c then (x.1 + 1, 0) else (x.1, misL l.length x.1)) else x
def numS (l : QB) (x : Nat × Int) : Nat × Int := if x.2 = 0 then (match numR l x.1 with | .ok a => (a, 0) | .error y => (y.2, y.1)) else x
def numT (l : QB) (x : Nat × Int) : QB := if x.2 = 0 then (match numR l x.1 with | .ok a => seg l x.1 a | .error _ => []) else []
theorem RdAt.step {W : World} {B : Nat} {s : QY} {a : Nat} {e : Int} (h : RdAt W B s a e) : RdAt (W.setCell ⟨B, 1, none⟩ (.int .i64 ((a : Int) + 1))) B s (a + 1) e := h.place (a + 1)
theorem qbjn (B : Nat) (s : QY) (a : Nat) (e : Int) (c : UInt8) (w : World) (h : RdAt w B s a e) (ha : a ≤ s.size) (hs : s.size ≤ 64) :
  Calls Tryz.prog 113 #[.pointer (some ⟨B, 0, none⟩), .int .u8 (c.toNat : Int)] w fun r w' => r = .returned (.tuple #[]) ∧ RdAt w' B s (qjr s.data.toList c (a, e)).1 (qjr s.data.toList c (a, e)).2 ∧ Turn B w w' := by
 obtain ⟨c0, c1, c2, f1, f2⟩ := h.seen;have H := qb h;have N1 := qb (fun n => qjt B s a e (w.drewN n) (h.drewN n) ha);clear h;have HL := qb (qh s)
 by_cases he : e = 0
 ·subst he
  by_cases hl : a < s.size
  ·have hB := qbmz s a c hl;have hb : ((s[a].toNat : Int) == (c.toNat : Int)) = decide ((s[a].toNat : Int) = (c.toNat : Int)) := by by_cases h : (s[a].toNat : Int) = (c.toNat : Int) <;> simp [h]
   have HX := qb (show qjr s.data.toList c (a, 0) = if atB s.data.toList a c then (a + 1, 0) else (a, misL s.size a) from by unfold qjr; rw [if_pos rfl, HL.out])
   generalize qjr s.data.toList c (a, 0) = X at *;rw [hB] at HX;clear hB;generalize decide ((s[a].toNat : Int) = (c.toNat : Int)) = D at *;cases D
   ·obtain rfl : X = (a, misL s.size a) := HX.out.trans (if_neg (by simp))
    rw [qbj] at N1;go_enter Tryz.func113, Tryz.ntmps113
    (go_wp2_with fail);go_quiet (fail)
    (go_wp2_with fail);refine (N1.out _).mono ?_;rintro r w1 ⟨rfl, h1, t1⟩;(go_wp2_with fail);go_end0
    exact ⟨rfl, h1, (Turn.drewN _ _ _).trans t1⟩
   ·obtain rfl : X = (a + 1, 0) := HX.out.trans (if_pos rfl);go_enter Tryz.func113, Tryz.ntmps113
    (go_wp2_with fail);go_quiet (fail)
    (go_wp2_with fail);refine bodyPost_ret (results_none rfl _ _ _) rfl ?_;exact ⟨rfl, (H.out.drewN _).step, (Turn.drewN _ _ _).trans (Turn.set _ _ _ _)⟩
  ·have HX := qb (show qjr s.data.toList c (a, 0) = (a, misL s.size a) from by unfold qjr; rw [if_pos rfl, HL.out, qfc s a c hl]; rfl)
   generalize qjr s.data.toList c (a, 0) = X at *;obtain rfl : X = (a, misL s.size a) := HX.out;rw [qbj] at N1;go_enter Tryz.func113, Tryz.ntmps113
   (go_wp2_with fail);go_quiet (fail)
   (go_wp2_with fail);refine (N1.out _).mono ?_;rintro r w1 ⟨rfl, h1, t1⟩;(go_wp2_with fail);go_end0
   exact ⟨rfl, h1, (Turn.drewN _ _ _).trans t1⟩
 ·have hb : (e == 0) = false := by simpa using he
  have HX := qb (show qjr s.data.toList c (a, e) = (a, e) from by unfold qjr; rw [if_neg he])
  generalize qjr s.data.toList c (a, e) = X at *;obtain rfl : X = (a, e) := HX.out;rw [qwj _ he] at N1;clear he;go_enter Tryz.func113, Tryz.ntmps113
  (go_wp2_with fail);go_quiet (fail)
  (go_wp2_with fail);refine (N1.out _).mono ?_;rintro r w1 ⟨rfl, h1, t1⟩;(go_wp2_with fail);go_end0
  exact ⟨rfl, h1, (Turn.drewN _ _ _).trans t1⟩
theorem qbpk (k : Int) : ∀ m : QB, qz k (m.take (qz k m)) = qz k m
 | [] => rfl
 | c :: r => by
  by_cases hc : isC (c.toNat : Int) k = true
  ·have e : qz k (c :: r) = qz k r + 1 := by rw [qz, if_pos hc]
   rw [e, List.take_succ_cons, qz, if_pos hc, qbpk k r]
  ·have e : qz k (c :: r) = 0 := by rw [qz, if_neg hc]
   rw [e, List.take_zero]; rfl
theorem qblp (l : QB) (a d : Nat) : seg l a (a + d) = (l.drop a).take d := by
 unfold seg;rw [List.drop_take]
 congr 1
 omega
theorem qbtf (l : QB) (a : Nat) (h1 : 0 < qz 1 (l.drop a)) : qcq (seg l a (a + qz 1 (l.drop a))) = (decide (1 < qz 1 (l.drop a)) && (l[a]? == some 48)) := by
 have hle := qtz 1 (l.drop a);have hr := qbpk 1 (l.drop a);rw [qblp];have hlen : ((l.drop a).take (qz 1 (l.drop a))).length = qz 1 (l.drop a) := by rw [List.length_take]; omega
 have hd : digB ((l.drop a).take (qz 1 (l.drop a))) = true := by
  unfold digB;rw [hr, hlen];cases hx : (l.drop a).take (qz 1 (l.drop a)) with
  | nil => rw [hx] at hlen; simp at hlen; omega
  | cons _ _ => simp
 have hh : ((l.drop a).take (qz 1 (l.drop a))).head? = l[a]? := by
  rw [List.head?_take, if_neg (by omega), List.head?_drop]
 unfold qcq;rw [hd, hlen, hh, Bool.and_true]
theorem qcbt (l : QB) (a : Nat) (h : qz 1 (l.drop a) = 0) : numR l a = .error (misL l.length a, a) := by unfold numR; rw [if_pos h]
theorem qcdb (l : QB) (a : Nat) (h2 : 2 ≤ qz 1 (l.drop a)) (h0 : l[a]? = some 48) : numR l a = .error (14, a + 1) := by
 unfold numR;rw [if_neg (by omega), qbtf l a (by omega), if_pos (by simp [h0]; omega)]
theorem numR_ok (l : QB) (a : Nat) (h1 : 0 < qz 1 (l.drop a)) (h : 2 ≤ qz 1 (l.drop a) → ¬ l[a]? = some 48) : numR l a = .ok (a + qz 1 (l.drop a)) := by
 unfold numR;rw [if_neg (by omega), qbtf l a h1, if_neg]
 intro hc;simp only [Bool.and_eq_true, decide_eq_true_eq, beq_iff_eq] at hc;exact h hc.1 hc.2
theorem qcbb (s : QY) (a : Nat) (h : a < s.size) : (s.data.toList[a]? = some 48) ↔ (s[a].toNat : Int) = 48 := by
  have hg : s.data.toList[a]? = some s[a] := by rw [List.getElem?_eq_getElem (by rw [qh]; exact h)]; rfl
  rw [hg, Option.some.injEq]
  exact ⟨fun h => by rw [h]; rfl, fun h => UInt8.toNat_inj.1 (by have : s[a].toNat = 48 := by omega
                                                                 rw [this]; rfl)⟩
theorem qnx (l : QB) (a : Nat) : seg l a a = [] := by unfold seg; rw [List.drop_eq_nil_iff, List.length_take]; omega
def qblz (W : World) (B : Nat) : Nat := (intOf ((W.cell? ⟨B, 1, none⟩).getD (.int .i64 0))).toNat
theorem RdAt.rplace {W : World} {B : Nat} {s : QY} {a : Nat} {e : Int} (h : RdAt W B s a e) : qblz W B = a := by
 unfold YtpdlgiioahjhiaaGreat.qblz;rw [h.seen.2.1];simp [intOf]
theorem qbwr (B : Nat) (s : QY) (a : Nat) (w : World) (h : RdAt w B s a 0) (ha : a ≤ s.size) (hs : s.size ≤ 64) :
  Calls Tryz.prog 112 #[.pointer (some ⟨B, 0, none⟩)] w fun r w' => r = .returned (.string (qg (numT s.data.toList (a, 0)))) ∧ RdAt w' B s (numS s.data.toList (a, 0)).1 (numS s.data.toList (a, 0)).2 ∧ Turn B w w' := by
 obtain ⟨c0, c1, c2, f1, f2⟩ := h.seen;have H := qb h;clear h;have HS := qb (show numS s.data.toList (a, 0) = match numR s.data.toList a with | .ok a => (a, 0) | .error y => (y.2, y.1) from if_pos rfl);have HT := qb (show numT s.data.toList (a, 0) = match numR s.data.toList a with | .ok x => seg s.data.toList a x | .error _ => [] from if_pos rfl);generalize numS s.data.toList (a, 0) = S at *;generalize numT s.data.toList (a, 0) = T at *;go_enter Tryz.func112, Tryz.ntmps112
 (go_wp2_with fail);clear c0 c1 c2 f1 f2;go_loopw [44] (fun _ wr => ∃ k : Nat, a ≤ k ∧ k ≤ s.size ∧ RdAt wr B s k 0 ∧ Turn B w wr ∧ Hid (qz 1 (s.data.toList.drop a) + a = k + qz 1 (s.data.toList.drop k)) ∧ Hid (a + 2 ≤ k → ¬ s.data.toList[a]? = some 48)) (fun _ wr => s.size - qblz wr B)
 case atStart => exact ⟨a, by omega, by omega, H.out, Turn.refl _ _, by show _ = _; omega, by intro h; omega⟩
 case round =>
  obtain ⟨k, hak, hk, R, HTu, HR, HZ⟩ := hrel;obtain ⟨c0, c1, c2, f1, f2⟩ := R.seen;have HRd := qb R;have HM := qb (fun n => qfn B s k 0 (wr.drewN n) (R.drewN n));clear R;have hend : ∀ w3 : World, qz 1 (s.data.toList.drop k) = 0 → a < k → S = (k, 0) ∧ T = seg s.data.toList a k := by
   intro _ h0 hlt;have h1 := HR.out;have := numR_ok s.data.toList a (by omega) (fun h => HZ.out (by omega))
   rw [show a + qz 1 (s.data.toList.drop a) = k by omega] at this
   rw [HS.out, HT.out, this];exact ⟨rfl, rfl⟩
  have hnone : qz 1 (s.data.toList.drop k) = 0 → a = k → S = (a, misL s.size a) ∧ T = [] := by
   intro h0 hlt;subst hlt;have := qcbt s.data.toList a h0;rw [HS.out, HT.out, this, qh];exact ⟨rfl, rfl⟩
  by_cases hl : k < s.size
  ·rw [show (decide ((0 : Int) = 0) && decide (k < s.size)) = true by simp [hl]] at HM
   have HC := qb (fun n => qqg s[k] (wr.drewN n));cases hc : isC (s[k].toNat : Int) 1
   ·rw [hc] at HC;have h0 := qhl 1 s k hl hc
    by_cases hak' : a = k
    ·have hE := qb (hnone h0 hak');subst hak';clear hend hnone h0 hc;(go_wp2_with fail);go_quiet ((first | (go_at_call 116; exact Calls.quiet_of (HM.out _)) | (go_at_call 118; exact qcgr (HC.out _))))
     (go_wp2_with fail);refine (qjt B s a 0 _ (HRd.out.drewN _) ha).mono ?_;rintro r w1 ⟨rfl, h1, t1⟩;rw [qbj] at h1;have H1 := qb h1;clear c0 c1 c2 f1 f2;obtain ⟨c0, c1, c2, f1, f2⟩ := h1.seen;clear h1;(go_wp2_with fail);go_quiet (fail)
     (go_wp2_with fail);go_ret
     rw [hE.out.1, hE.out.2];refine ⟨?_, H1.out.drewN _, HTu.trans ((Turn.drewN _ _ _).trans (t1.trans (Turn.drewN _ _ _)))⟩;exact qhp rfl
    ·have hE := qb (hend wr h0 (by omega))
     clear hend hnone h0 hc;have hb : ((k : Int) == (a : Int)) = false := by simp; omega
     (go_wp2_with fail);go_quiet ((first | (go_at_call 116; exact Calls.quiet_of (HM.out _)) | (go_at_call 118; exact qcgr (HC.out _))))
     (go_wp2_with fail);go_quiet (fail)
     (go_wp2_with fail);go_ret
     rw [hE.out.1, hE.out.2];refine ⟨?_, (HRd.out.drewN _).drewN _, HTu.trans ((Turn.drewN _ _ _).trans (Turn.drewN _ _ _))⟩;exact qhp (by rw [qbx])
   ·rw [hc] at HC;have HH := qb (qjm 1 s k hl hc);clear hc hend hnone;have hal : a < s.size := by omega
    have H48 := qb (qcbb s a hal)
    by_cases hz : k = a + 1
    ·by_cases h48 : (s[a].toNat : Int) = 48
     ·have hE : Hid (S = (k, 14) ∧ T = []) := by
       have h1 := HR.out;have h2 := HH.out;have := qcdb s.data.toList a (by omega) (H48.out.2 h48)
       rw [HS.out, HT.out, this, hz];exact ⟨rfl, rfl⟩
      have hb : ((k : Int) == (a : Int) + 1) = true := by simp; omega
      have hb' : ((s[a].toNat : Int) == 48) = true := by simpa using h48
      clear hz h48;(go_wp2_with fail);go_quiet ((first | (go_at_call 116; exact Calls.quiet_of (HM.out _)) | (go_at_call 118; exact qcgr (HC.out _))))
      (go_wp2_with fail);refine (qfk B s k 0 14 _ (HRd.out.drewN _)).mono ?_;rintro r w1 ⟨rfl, h1, t1⟩;(go_wp2_with fail);go_ret
      rw [hE.out.1, hE.out.2];rw [qbj] at h1;exact ⟨rfl, h1, HTu.trans ((Turn.drewN _ _ _).trans t1)⟩
     ·have hb : ((k : Int) == (a : Int) + 1) = true := by simp; omega
      have hb' : ((s[a].toNat : Int) == 48) = false := by simpa using h48
      have HN := qb (fun h => h48 (H48.out.1 h));clear hz h48;(go_wp2_with fail);go_quiet ((first | (go_at_call 116; exact Calls.quiet_of (HM.out _)) | (go_at_call 118; exact qcgr (HC.out _))))
      (go_wp2_with fail);go_roundw
      case rel => exact ⟨k + 1, by omega, by omega, (HRd.out.drewN _).step, HTu.trans ((Turn.drewN _ _ _).trans (Turn.set _ _ _ _)), by show _ = _; have := HR.out; have := HH.out; omega, fun _ => HN.out⟩
      case measure => rw [(HRd.out.drewN _).step.rplace, HRd.out.rplace]; omega
    ·have hb : ((k : Int) == (a : Int) + 1) = false := by simp; omega
     have HN := qb (show a + 2 ≤ k + 1 → ¬ s.data.toList[a]? = some 48 from fun h => HZ.out (by omega))
     clear hz;(go_wp2_with fail);go_quiet ((first | (go_at_call 116; exact Calls.quiet_of (HM.out _)) | (go_at_call 118; exact qcgr (HC.out _))))
     (go_wp2_with fail);go_roundw
     case rel => exact ⟨k + 1, by omega, by omega, (HRd.out.drewN _).step, HTu.trans ((Turn.drewN _ _ _).trans (Turn.set _ _ _ _)), by show _ = _; have := HR.out; have := HH.out; omega, HN.out⟩
     case measure => rw [(HRd.out.drewN _).step.rplace, HRd.out.rplace]; omega
  ·rw [show (decide ((0 : Int) = 0) && decide (k < s.size)) = false by simp [hl]] at HM
   have h0 := qkj 1 s k (by omega)
   by_cases hak' : a = k
   ·have hE := qb (hnone h0 hak');subst hak';clear hend hnone h0;(go_wp2_with fail);go_quiet ((go_at_call 116; exact Calls.quiet_of (HM.out _)))
    (go_wp2_with fail);refine (qjt B s a 0 _ (HRd.out.drewN _) ha).mono ?_;rintro r w1 ⟨rfl, h1, t1⟩;rw [qbj] at h1;have H1 := qb h1;clear c0 c1 c2 f1 f2;obtain ⟨c0, c1, c2, f1, f2⟩ := h1.seen;clear h1;(go_wp2_with fail);go_quiet (fail)
    (go_wp2_with fail);go_ret
    rw [hE.out.1, hE.out.2];refine ⟨?_, H1.out.drewN _, HTu.trans ((Turn.drewN _ _ _).trans (t1.trans (Turn.drewN _ _ _)))⟩;exact qhp rfl
   ·have hE := qb (hend wr h0 (by omega))
    clear hend hnone h0;have hb : ((k : Int) == (a : Int)) = false := by simp; omega
    (go_wp2_with fail);go_quiet ((go_at_call 116; exact Calls.quiet_of (HM.out _)))
    (go_wp2_with fail);go_quiet (fail)
    (go_wp2_with fail);go_ret
    rw [hE.out.1, hE.out.2];refine ⟨?_, (HRd.out.drewN _).drewN _, HTu.trans ((Turn.drewN _ _ _).trans (Turn.drewN _ _ _))⟩;exact qhp (by rw [qbx])
theorem qrs (B : Nat) (s : QY) (a : Nat) (e : Int) (w : World) (h : RdAt w B s a e) (ha : a ≤ s.size) (hs : s.size ≤ 64) :
  Calls Tryz.prog 112 #[.pointer (some ⟨B, 0, none⟩)] w fun r w' => r = .returned (.string (qg (numT s.data.toList (a, e)))) ∧ RdAt w' B s (numS s.data.toList (a, e)).1 (numS s.data.toList (a, e)).2 ∧ Turn B w w' := by
 by_cases he : e = 0
 ·subst he;exact qbwr B s a w h ha hs
 ·have HS := qb (show numS s.data.toList (a, e) = (a, e) from if_neg he);have HT := qb (show numT s.data.toList (a, e) = [] from if_neg he);generalize numS s.data.toList (a, e) = S at *;generalize numT s.data.toList (a, e) = T at *;obtain ⟨c0, c1, c2, f1, f2⟩ := h.seen;have H := qb h;clear h;have hb : (e == 0) = false := by simpa using he
  have HM := qb (fun n => qfn B s a e (w.drewN n) (H.out.drewN n));rw [show (decide (e = 0) && decide (a < s.size)) = false by simp [he]] at HM
  clear he;go_enter Tryz.func112, Tryz.ntmps112
  (go_wp2_with fail);go_loopw [44] (fun _ wr => wr = w) (fun _ wr => 0)
  case atStart => rfl
  case round =>
   subst hrel;(go_wp2_with fail);go_quiet ((go_at_call 116; exact Calls.quiet_of (HM.out _)))
   (go_wp2_with fail);go_quiet (fail)
   (go_wp2_with fail);go_ret
   rw [HS.out, HT.out];refine ⟨?_, (H.out.drewN _).drewN _, ((Turn.drewN _ _ _).trans (Turn.drewN _ _ _))⟩;exact qhp rfl
end Go.Proofs.YtpdlgiioahjhiaaGreat

namespace Go.Proofs.YtpdlgiioahjhiaaGreat
open Go.RowKit Go.Shelf
set_option linter.unusedVariables false
theorem Turn.grown {B : Nat} {w w' : World} (h : Turn B w w') : w.grownBy w' (some B) := ⟨h.os, h.tape, h.output, h.size, fun k hk hn => h.block k hk (fun e => hn (by rw [e]))⟩
theorem ql {B : Nat} {w w' : World} {base : Nat} {e : TypeId} {size : Nat} {v : Value} {n : Nat} {xs : List Value} (h : w.ownsRow base e size v n xs) (ht : Turn B w w') (hB : B < base) : w'.ownsRow base e size v n xs := by
 refine h.kept ht.grown ?_;cases ho : v.ownBlock with
 | none => exact .inl rfl
 | some k => exact .inr (fun e => by have := (h.lt k ho).1; injection e with e; omega)
def qnd (s : QY) (p : Bool) (a B : Nat) (w : World) (r : Ending) (w' : World) : Prop :=
 match idsR p s.data.toList a with
 | .ok (xs, q) => ∃ v, r = .returned v ∧ w'.ownsRow w.heap.size 9 1 v xs.length (strs s xs) ∧ RdAt w' B s q 0 ∧ Turn B w w'
 | .error y => r = .returned (.slice none 0 0) ∧ RdAt w' B s y.2 y.1 ∧ Turn B w w'
theorem qgd {s : QY} {p : Bool} {a B : Nat} {w w' : World} {y : Int × Nat} (h : idsR p s.data.toList a = .error y) (h1 : RdAt w' B s y.2 y.1) (h2 : Turn B w w') : qnd s p a B w (.returned (.slice none 0 0)) w' := by
 unfold qnd; rw [h]; exact ⟨rfl, h1, h2⟩
theorem qpm {s : QY} {p : Bool} {a B : Nat} {w w' : World} {v : Value} {xs : List (Nat × Nat)} {q : Nat} (h : idsR p s.data.toList a = .ok (xs, q)) (h0 : w'.ownsRow w.heap.size 9 1 v xs.length (strs s xs)) (h1 : RdAt w' B s q 0) (h2 : Turn B w w') : qnd s p a B w (.returned v) w' := by
 unfold qnd; rw [h]; exact ⟨v, rfl, h0, h1, h2⟩
theorem qch (n a : Nat) : misL n a ≠ 0 := by unfold misL; split <;> decide
theorem qbz (l : QB) (a : Nat) (c : UInt8) : atB l a c = true ↔ l[a]? = some c := by unfold atB; simp
theorem qbtc (p : Bool) (l : QB) (a k : Nat) (done : List (Nat × Nat)) (hd : done ++ qp l k = qp l a) (hb : qcj p l done = none) (he : k + idL (l.drop k) = k) : idsR p l a = .error (misL l.length k, k) := by
 have hw : qbv p l (seg l (k, k).1 (k, k).2) (k, k).2 = misL l.length k := by
  unfold qbv; rw [if_pos (qnx l k)]
 have := qqx p l a done (k, k) hb (by rw [hw]; exact qch _ _) (by
  refine ⟨(qp l k).tail, ?_⟩;rw [← hd, List.append_assoc]
  congr 1
  by_cases h : l[k]? = some 46
  ·rw [qdk l k k he h]; rfl
  ·rw [qcs l k k he h]; rfl)
 rw [hw] at this;exact this
theorem qbzc (l : QB) (a k j : Nat) (done : List (Nat × Nat)) (hd : done ++ qp l k = qp l a) (hb : qcj true l done = none) (he : k + idL (l.drop k) = j) (hne : seg l k j ≠ []) (hz : qcq (seg l k j) = true) :
  idsR true l a = .error (if atB l j 46 || atB l j 43 then 14 else misL l.length j, j) := by
 have hw : qbv true l (seg l (k, j).1 (k, j).2) (k, j).2 = if atB l j 46 || atB l j 43 then 14 else misL l.length j := by
  unfold qbv;rw [if_neg hne, if_neg (by simp [hz])]
  simp only [Bool.or_eq_true, qbz]
 have := qqx true l a done (k, j) hb (by
  rw [hw];split
  ·decide
  ·exact qch _ _) (by
  refine ⟨(qp l k).tail, ?_⟩;rw [← hd, List.append_assoc]
  congr 1
  by_cases h : l[j]? = some 46
  ·rw [qdk l k j he h]; rfl
  ·rw [qcs l k j he h]; rfl)
 rw [hw] at this;exact this
theorem qqr (p : Bool) (l : QB) (k j : Nat) (hne : seg l k j ≠ []) (hz : (p && qcq (seg l k j)) = false) : qbv p l (seg l k j) j = 0 := by
 unfold qbv;rw [if_neg hne, if_pos];cases p <;> simp_all
theorem qpj (p : Bool) (l : QB) (k j : Nat) (done : List (Nat × Nat)) (hb : qcj p l done = none) (hw : qbv p l (seg l k j) j = 0) : qcj p l (done ++ [(k, j)]) = none := by
 rw [qsh p l done _ hb, qcj, if_pos hw]; rfl
theorem qtk (p : Bool) (l : QB) (a k j : Nat) (done : List (Nat × Nat)) (hd : done ++ qp l k = qp l a) (hb : qcj p l (done ++ [(k, j)]) = none) (he : k + idL (l.drop k) = j) (hn : atB l j 46 = false) : idsR p l a = .ok (done ++ [(k, j)], j) := by
 have hn' : ¬ l[j]? = some 46 := fun h => by rw [(qbz l j 46).2 h] at hn; cases hn
 rw [qcs l k j he hn'] at hd;rw [qzk p l a (by rw [← hd]; exact hb), ← hd, qbfk]
theorem qtd (l : QB) (a k j : Nat) (done : List (Nat × Nat)) (hd : done ++ qp l k = qp l a) (he : k + idL (l.drop k) = j) (hn : atB l j 46 = true) : (done ++ [(k, j)]) ++ qp l (j + 1) = qp l a := by
 rw [qdk l k j he ((qbz l j 46).1 hn)] at hd;rw [← hd]; simp
theorem qbmf (s : QY) (k j : Nat) (h : k < j) (hj : j ≤ s.size) : seg s.data.toList k j ≠ [] := by
 intro h0;have := qpw s.data.toList k j (by rw [qh]; exact hj)
 rw [h0] at this;simp at this;omega
end Go.Proofs.YtpdlgiioahjhiaaGreat
