/- Plain laws of orders: what compares parts in turn is an orde -/
import Derived.Test.YtpdlgiioahjhiaaGreatPJoin
import Derived.ProofKit
import Derived.OpenShut
import Derived.ShutString
import Derived.ChangeOld
import Derived.Below
import Derived.SizedLaws
import Derived.SliceStrings
import Derived.Deep.Fields
import Derived.Test.YtpdlgiioahjhiaaGreatPRb
import Derived.Test.YtpdlgiioahjhiaaGreatPRg
import Derived.Test.YtpdlgiioahjhiaaGreatPSc
namespace Go.Proofs.YtpdlgiioahjhiaaGreat
open List renaming drop_eq_nil_of_le → qcfl, getElem?_eq_some_iff → qcgn, length_take → qcfx
def qkx (ts : List QB) : QB := ts.flatMap fun t => 46 :: t
def qbt : List QB → QB
 | [] => []
 | t :: r => t ++ qkx r
theorem qbwm (t u : QB) (r : List QB) : qbt ((t :: r) ++ [u]) = qbt (t :: r) ++ (46 :: u) := by
 simp [qbt, qkx]
def qng (x : SemL) : QB := x.maj ++ [46] ++ x.min ++ [46] ++ x.pat ++ (if x.pre = [] then [] else 45 :: qbt x.pre) ++ (if x.bld = [] then [] else 43 :: qbt x.bld)
theorem qkd (l : QB) (a b c : Nat) (h1 : a ≤ b) (h2 : b ≤ c) : seg l a b ++ seg l b c = seg l a c := by
 unfold seg;have : l.take b = (l.take c).take b := by rw [List.take_take]; congr 1; omega
 rw [this]
 by_cases hb : b ≤ (l.take c).length
 ·have e : (l.take c).drop a = ((l.take c).take b ++ (l.take c).drop b).drop a := by rw [List.take_append_drop]
  rw [e, List.drop_append_of_le_length (by rw [qcfx]; omega)]
 ·rw [List.take_of_length_le (by omega), qcfl (by omega : (l.take c).length ≤ b), List.append_nil]
theorem qtm (l : QB) (a : Nat) (c : UInt8) (h : l[a]? = some c) : seg l a (a + 1) = [c] := by
 unfold seg;have hlt := (qcgn.1 h).1;have hx := (qcgn.1 h).2;rw [List.take_succ_eq_append_getElem hlt, List.drop_append_of_le_length (by rw [qcfx]; omega), qcfl (by rw [qcfx]; omega), hx]
 rfl
theorem seg_all (l : QB) : seg l 0 l.length = l := by simp [seg]
theorem qcdw (l : QB) : ∀ (n a : Nat), l.length - a = n → a ≤ l.length → qbt ((qp l a).map fun x => seg l x.1 x.2) = seg l a (qcm a (qp l a)) ∧ a ≤ qcm a (qp l a) := by
 intro n
 induction n using Nat.strongRecOn with
 | _ n ih =>
  intro a hn ha;have he := qrq (l.drop a);rw [List.length_drop] at he
  by_cases h : l[a + idL (l.drop a)]? = some 46
  ·have hlt := (qcgn.1 h).1;obtain ⟨i1, i2⟩ := ih (l.length - (a + idL (l.drop a) + 1)) (by omega) (a + idL (l.drop a) + 1) rfl (by omega)
   have hs := qdk l a _ rfl h;have hl : qcm a (qp l a) = qcm (a + idL (l.drop a) + 1) (qp l (a + idL (l.drop a) + 1)) := by
    rw [hs];unfold qcm;rw [List.getLast?_cons];cases hx : (qp l (a + idL (l.drop a) + 1)).getLast? with
    | none => exact absurd (List.getLast?_eq_none_iff.1 hx) (qcx _ _)
    | some x => simp
   rw [hl];refine ⟨?_, by omega⟩
   rw [hs, List.map_cons, qbt];simp only;have hne := qcx l (a + idL (l.drop a) + 1);cases hm : (qp l (a + idL (l.drop a) + 1)).map fun x => seg l x.1 x.2 with
   | nil => exact absurd (List.map_eq_nil_iff.1 hm) hne
   | cons t r =>
    rw [hm] at i1;have : qkx (t :: r) = 46 :: qbt (t :: r) := by simp [qkx, qbt]
    have e1 := qkd l a (a + idL (l.drop a)) _ (by omega) (Nat.le_trans (Nat.le_succ _) i2)
    have e2 := qkd l (a + idL (l.drop a)) (a + idL (l.drop a) + 1) _ (by omega) i2
    rw [qtm l _ 46 h] at e2;rw [this, i1, ← e1, ← e2]
    rfl
  ·have hs := qcs l a _ rfl h;rw [hs];simp [qbt, qcm, qkx]
theorem qbql {p : Bool} {l : QB} {a : Nat} {xs : List (Nat × Nat)} {q : Nat} (h : idsR p l a = .ok (xs, q)) (ha : a ≤ l.length) : qbt (xs.map fun x => seg l x.1 x.2) = seg l a q ∧ a ≤ q ∧ q ≤ l.length ∧ xs ≠ [] ∧ qcj p l xs = none := by
 unfold idsR at h;split at h
 ·cases h
 ·rename_i hb;cases h;have := qcdw l _ a rfl ha;exact ⟨this.1, this.2, (qhw l a ha).1, qcx l a, hb⟩
theorem qrz {l : QB} {a b : Nat} (h : numR l a = .ok b) : a ≤ b ∧ (a ≤ l.length → b ≤ l.length) ∧ numB (seg l a b) = true := by
 unfold numR at h;split at h
 ·cases h
 ·rename_i h1;split at h
  ·cases h
  ·rename_i h2;cases h;have hle := qtz 1 (l.drop a);rw [List.length_drop] at hle;refine ⟨by omega, by omega, ?_⟩
   have hd : digB (seg l a (a + qz 1 (l.drop a))) = true := by
    have e : seg l a (a + qz 1 (l.drop a)) = (l.drop a).take (qz 1 (l.drop a)) := by
     unfold seg; rw [List.drop_take]; congr 1; omega
    have hr : ∀ m : QB, qz 1 (m.take (qz 1 m)) = qz 1 m := by
     intro m
     induction m with
     | nil => rfl
     | cons c r ih =>
      by_cases hc : isC (c.toNat : Int) 1 = true
      ·have e : qz 1 (c :: r) = qz 1 r + 1 := by rw [qz, if_pos hc]
       rw [e, List.take_succ_cons, qz, if_pos hc, ih]
      ·have e : qz 1 (c :: r) = 0 := by rw [qz, if_neg hc]
       rw [e, List.take_zero]; rfl
    have hlen : ((l.drop a).take (qz 1 (l.drop a))).length = qz 1 (l.drop a) := by rw [qcfx, List.length_drop]; omega
    rw [e];unfold digB;rw [hr, hlen];cases hx : (l.drop a).take (qz 1 (l.drop a)) with
    | nil => rw [hx] at hlen; simp at hlen; omega
    | cons _ _ => simp
   unfold numB;rw [hd];simp only [Bool.not_eq_true] at h2;rw [h2]
   rfl
theorem qbxv {l : QB} {a b : Nat} (h : dotR l a = .ok b) : b = a + 1 ∧ l[a]? = some 46 := by
 unfold dotR at h;split at h
 ·rename_i h1; cases h; exact ⟨rfl, h1⟩
 ·cases h
theorem qbbv {l : QB} {p : Nat} {pre pr b : List (Nat × Nat)} (h : qcb l p pre = .ok (pr, b)) (hp : p ≤ l.length) :
  seg l p l.length = (if b.map (fun x => seg l x.1 x.2) = [] then [] else 43 :: qbt (b.map fun x => seg l x.1 x.2)) ∧ (b ≠ [] → qcj false l b = none) := by
 unfold qcb at h;split at h
 ·rename_i h43;have hlt := (qcgn.1 h43).1;cases hi : idsR false l (p + 1) with
  | error x => rw [hi] at h; cases h
  | ok y =>
   obtain ⟨xs, q⟩ := y;rw [hi] at h;simp only at h;split at h
   ·cases h
   ·cases h;obtain ⟨j1, j2, j3, j4, j5⟩ := qbql hi (by omega)
    obtain rfl : q = l.length := by omega
    refine ⟨?_, fun _ => j5⟩;rw [if_neg (by simpa using j4), j1, ← qkd l p (p + 1) _ (by omega) (by omega), qtm l p 43 h43]
    rfl
 ·split at h
  ·cases h
  ·cases h;obtain rfl : p = l.length := by omega
   refine ⟨?_, fun h => absurd rfl h⟩;simp [seg]
theorem qbjv {l : QB} {e : Nat} {pr b : List (Nat × Nat)} (h : qdg l e = .ok (pr, b)) (he : e ≤ l.length) :
  seg l e l.length = (if pr.map (fun x => seg l x.1 x.2) = [] then [] else 45 :: qbt (pr.map fun x => seg l x.1 x.2)) ++ (if b.map (fun x => seg l x.1 x.2) = [] then [] else 43 :: qbt (b.map fun x => seg l x.1 x.2)) ∧ (pr ≠ [] → qcj true l pr = none) ∧ (b ≠ [] → qcj false l b = none) := by
 unfold qdg at h;split at h
 ·rename_i h45;have hlt := (qcgn.1 h45).1;cases hi : idsR true l (e + 1) with
  | error x => rw [hi] at h; cases h
  | ok y =>
   obtain ⟨xs, q⟩ := y;rw [hi] at h;simp only at h;obtain ⟨j1, j2, j3, j4, j5⟩ := qbql hi (by omega)
   obtain ⟨k1, k2⟩ := qbbv h j3;obtain ⟨rfl, _⟩ := qnk h;refine ⟨?_, fun _ => j5, k2⟩;rw [← k1, if_neg (by simpa using j4), j1, ← qkd l e (e + 1) _ (by omega) (by omega), qtm l e 45 h45, ← qkd l (e + 1) q _ j2 j3]
   rfl
 ·obtain ⟨k1, k2⟩ := qbbv h he;obtain ⟨rfl, _⟩ := qnk h;exact ⟨by rw [k1]; rfl, fun h => absurd rfl h, k2⟩
theorem qbjk {l : QB} {a b c d e : Nat} (h : qdp l = .ok (a, b, c, d, e)) : seg l 0 a ++ [46] ++ seg l b c ++ [46] ++ seg l d e = seg l 0 e ∧ e ≤ l.length ∧ numB (seg l 0 a) = true ∧ numB (seg l b c) = true ∧ numB (seg l d e) = true := by
 unfold qdp at h;cases h1 : numR l 0 with
 | error y => rw [h1] at h; cases h
 | ok a' =>
  rw [h1] at h; simp only at h;cases h2 : dotR l a' with
  | error y => rw [h2] at h; cases h
  | ok b' =>
   rw [h2] at h; simp only at h;cases h3 : numR l b' with
   | error y => rw [h3] at h; cases h
   | ok c' =>
    rw [h3] at h; simp only at h;cases h4 : dotR l c' with
    | error y => rw [h4] at h; cases h
    | ok d' =>
     rw [h4] at h; simp only at h;cases h5 : numR l d' with
     | error y => rw [h5] at h; cases h
     | ok e' =>
      rw [h5] at h; simp only at h;cases h;have n1 := qrz h1;have n3 := qrz h3;have n5 := qrz h5;obtain ⟨rfl, g2⟩ := qbxv h2;obtain ⟨rfl, g4⟩ := qbxv h4;have l2 := (qcgn.1 g2).1;have l4 := (qcgn.1 g4).1;refine ⟨?_, n5.2.1 (by omega), n1.2.2, n3.2.2, n5.2.2⟩
      have e1 : seg l 0 a ++ [46] = seg l 0 (a + 1) := by rw [← qtm l a 46 g2, qkd l 0 a (a + 1) (by omega) (by omega)]
      have e2 : seg l 0 c ++ [46] = seg l 0 (c + 1) := by rw [← qtm l c 46 g4, qkd l 0 c (c + 1) (by omega) (by omega)]
      rw [e1, qkd l 0 (a + 1) c (by omega) (by omega), e2, qkd l 0 (c + 1) e (by omega) (by omega)]
theorem qbcv {l : QB} {c : Cuts} (h : qbf l = .ok c) : qng (qcf l c) = l := by
 unfold qbf at h;split at h
 ·cases h
 ·cases hn : qdp l with
  | error y => rw [hn] at h; cases h
  | ok y =>
   obtain ⟨a, b, c', d, e⟩ := y;rw [hn] at h;simp only at h;cases ht : qdg l e with
   | error y => rw [ht] at h; cases h
   | ok y =>
    obtain ⟨pr, bl⟩ := y;rw [ht] at h;simp only at h;cases h;obtain ⟨m1, m2, _⟩ := qbjk hn;obtain ⟨t1, _⟩ := qbjv ht m2;unfold qng qcf;simp only;rw [m1, List.append_assoc, ← t1, qkd l 0 e _ (by omega) m2, seg_all]
theorem qbzl (l : QB) (a : Nat) : idL (seg l a (a + idL (l.drop a))) = (seg l a (a + idL (l.drop a))).length := by
 have e : seg l a (a + idL (l.drop a)) = (l.drop a).take (idL (l.drop a)) := by
  unfold seg; rw [List.drop_take]; congr 1; omega
 have hr : ∀ m : QB, idL (m.take (idL m)) = (m.take (idL m)).length := by
  intro m
  induction m with
  | nil => rfl
  | cons c r ih =>
   by_cases hc : isId c = true
   ·have e : idL (c :: r) = idL r + 1 := by rw [idL, if_pos hc]
    rw [e, List.take_succ_cons, idL, if_pos hc, ih]; rfl
   ·have e : idL (c :: r) = 0 := by rw [idL, if_neg hc]
    rw [e, List.take_zero]; rfl
 rw [e];exact hr _
theorem segs_id (l : QB) : ∀ (n a : Nat), l.length - a = n → a ≤ l.length → ∀ x ∈ qp l a, idL (seg l x.1 x.2) = (seg l x.1 x.2).length := by
 intro n
 induction n using Nat.strongRecOn with
 | _ n ih =>
  intro a hn ha x hx
  by_cases h : l[a + idL (l.drop a)]? = some 46
  ·rw [qdk l a _ rfl h] at hx;have hlt := (qcgn.1 h).1;rcases List.mem_cons.1 hx with rfl | hx
   ·exact qbzl l a
   ·exact ih (l.length - (a + idL (l.drop a) + 1)) (by omega) (a + idL (l.drop a) + 1) rfl (by omega) x hx
  ·rw [qcs l a _ rfl h] at hx;obtain rfl : x = _ := List.mem_singleton.1 hx;exact qbzl l a
theorem qxs {l : QB} {c : Cuts} (h : qbf l = .ok c) : numB (qcf l c).maj = true ∧ numB (qcf l c).min = true ∧ numB (qcf l c).pat = true ∧ (∀ t ∈ (qcf l c).pre, preB t = true) ∧ (∀ t ∈ (qcf l c).bld, idB t = true) := by
 have hl := qqs h;unfold qbf at h;split at h
 ·cases h
 ·cases hn : qdp l with
  | error y => rw [hn] at h; cases h
  | ok y =>
   obtain ⟨a, b, c', d, e⟩ := y;rw [hn] at h;simp only at h;cases ht : qdg l e with
   | error y => rw [ht] at h; cases h
   | ok y =>
    obtain ⟨pr, bl⟩ := y;rw [ht] at h;simp only at h;cases h;obtain ⟨m1, m2, m3, m4, m5⟩ := qbjk hn;obtain ⟨t1, t2, t3⟩ := qbjv ht m2;have bad : ∀ (p : Bool) (xs : List (Nat × Nat)), qcj p l xs = none → ∀ x ∈ xs, qbv p l (seg l x.1 x.2) x.2 = 0 := by
     intro p xs
     induction xs with
     | nil => intro _ x hx; cases hx
     | cons y r ih =>
      intro hb x hx;unfold qcj at hb;split at hb
      ·rename_i h0;rcases List.mem_cons.1 hx with rfl | hx
       ·exact h0
       ·exact ih hb x hx
      ·cases hb
    have wr : ∀ (p : Bool) (x : Nat × Nat), qbv p l (seg l x.1 x.2) x.2 = 0 → seg l x.1 x.2 ≠ [] ∧ (p && qcq (seg l x.1 x.2)) = false := by
     intro p x h0;unfold qbv at h0;split at h0
     ·exfalso; unfold misL at h0; split at h0 <;> cases h0
     ·rename_i hne;refine ⟨hne, ?_⟩;split at h0
      ·rename_i hz; cases p <;> simp_all
      ·exfalso;split at h0
       ·cases h0
       ·unfold misL at h0; split at h0 <;> cases h0
    have ids : ∀ xs : List (Nat × Nat), (xs = [] ∨ ∃ a, xs = qp l a) → ∀ x ∈ xs, seg l x.1 x.2 ≠ [] → idB (seg l x.1 x.2) = true := by
     intro xs hxs x hx hne;rcases hxs with rfl | ⟨a, rfl⟩
     ·cases hx
     ·have hal : a ≤ l.length := by
       rcases Nat.lt_or_ge l.length a with h | h
       ·exfalso;have hd : l.drop a = [] := qcfl (by omega)
        have hi : a + idL (l.drop a) = a := by rw [hd]; rfl
        have hg : ¬ l[a]? = some 46 := by rw [List.getElem?_eq_none (by omega)]; simp
        rw [qcs l a a hi hg] at hx;obtain rfl : x = _ := List.mem_singleton.1 hx;apply hne;unfold seg;exact qcfl (by simp; omega)
       ·exact h
      unfold idB;rw [segs_id l _ a rfl hal x hx];cases hs : seg l x.1 x.2 with
      | nil => exact absurd hs hne
      | cons _ _ => simp
    refine ⟨m3, m4, m5, ?_, ?_⟩
    ·intro t htm;obtain ⟨x, hx, rfl⟩ := List.mem_map.1 htm;have hne : pr ≠ [] := fun e => by rw [e] at hx; cases hx
     have w0 := wr true x (bad true pr (t2 hne) x hx);unfold preB;rw [ids pr hl.1 x hx w0.1];simpa using w0.2
    ·intro t htm;obtain ⟨x, hx, rfl⟩ := List.mem_map.1 htm;have hne : bl ≠ [] := fun e => by rw [e] at hx; cases hx
     have w0 := wr false x (bad false bl (t3 hne) x hx);exact ids bl hl.2 x hx w0.1
end Go.Proofs.YtpdlgiioahjhiaaGreat

namespace Go.Proofs.YtpdlgiioahjhiaaGreat
open Go.ChangeShapes Go.WideShapes Go.ChangeAt Go.RowKit
set_option linter.unusedVariables false
theorem Tryz.cells9 : Tryz.prog.cellsOf 9 = 1 := by kernel_rfl
theorem cell_lt {W : World} {a : Addr} {v : Value} (h : W.cell? a = some v) : a.block < W.heap.size := by
 unfold World.cell? at h;cases hb : W.heap[a.block]? with
 | none => rw [hb] at h; simp at h
 | some o => exact (Array.getElem?_eq_some_iff.1 hb).1
theorem qnm : ∀ ts : List QB, ts.length ≤ lenI ts ∧ ∀ t ∈ ts, t.length ≤ lenI ts
 | [] => by simp [lenI]
 | t :: r => by
  have ih := qnm r;refine ⟨by simp only [List.length_cons, lenI]; omega, fun u hu => ?_⟩
  rcases List.mem_cons.1 hu with rfl | hu
  ·simp only [lenI]; omega
  ·have := ih.2 u hu; simp only [lenI]; omega
theorem qbfg (x : SemL) (h : lenS x ≤ 1048576) : qct x := by
 have h1 := qnm x.pre;have h2 := qnm x.bld;unfold lenS at h;exact ⟨by omega, by omega, by omega, ⟨by omega, fun t ht => by have := h1.2 t ht; omega⟩, ⟨by omega, fun t ht => by have := h2.2 t ht; omega⟩⟩
theorem qbqt (x : SemL) (h : lenS x ≤ 1048576) : wrap64 (lenS x : Int) = (lenS x : Int) := qbmt _ (by omega)
end Go.Proofs.YtpdlgiioahjhiaaGreat

namespace Go.Proofs.YtpdlgiioahjhiaaGreat
open Go.RowKit Go.Shelf
set_option linter.unusedVariables false
set_option maxHeartbeats 1000000
theorem qbkx (a b : QB) : qg a ++ qg b = qg (a ++ b) := by
 apply qmd;rw [qj];simp [qg]
theorem Txt.drewN {W : World} {v : Value} {ts : List QB} (h : Txt W v ts) (n : Nat) : Txt (W.drewN n) v ts := h.below (qbm _ _ _)
theorem qlq (ts : List QB) : (qbt ts).length ≤ lenI ts := by
 cases ts with
 | nil => simp [qbt, lenI]
 | cons t r =>
  have hd : ∀ us : List QB, (qkx us).length = lenI us := by
   intro us
   induction us with
   | nil => rfl
   | cons u v ih => simp only [qkx, List.flatMap_cons, List.length_append, List.length_cons, lenI] at ih ⊢; omega
  simp only [qbt, List.length_append, lenI, hd];omega
theorem qbkr (ts : List QB) : ∀ k, lenI (ts.take k) ≤ lenI ts := by
 induction ts with
 | nil => intro k; simp
 | cons t r ih =>
  intro k;cases k with
  | zero => simp [lenI]
  | succ k => simp only [List.take_succ_cons, lenI]; have := ih k; omega
theorem qxh (v : Value) (ts : List QB) (w : World) (hv : Txt w v ts) (hl : lenI ts ≤ 1048576) :
  Calls Tryz.prog 77 #[v] w fun e w' => e = .returned (.string (qg (qbt ts))) ∧ w' = w := by
 obtain ⟨a1, c1, rfl, _⟩ := id hv;have HA := qb hv;clear hv;have hlen := (qnm ts).1;go_enter Tryz.func77, Tryz.ntmps77
 (go_wp2_with fail);go_loop [3, 4] (fun x i => ∃ k : Nat, k ≤ ts.length ∧ i = .int .i64 k ∧ x = .string (qg (qbt (ts.take k)))) (fun _ i => ts.length - (intOf i).toNat)
 case atStart => exact ⟨0, by omega, rfl, rfl⟩
 case round =>
  obtain ⟨k, hk, rfl, rfl⟩ := hrel
  by_cases hlt : k < ts.length
  ·obtain ⟨b1, o1, rfl, h1⟩ := HA.out.some (by omega)
   have g1 := h1 k hlt;have hlt' : (k : Int) < (ts.length : Int) := by omega
   have hk0 : (0 : Int) ≤ (k : Int) := by omega
   have z1 := qlq (ts.take k);have z2 := qbkr ts (k + 1);have z3 := qwt ts k hlt;have hT : ts.take (k + 1) = ts.take k ++ [ts[k]] := by rw [List.take_succ_eq_append_getElem hlt]
   generalize ht : ts[k] = t at *;clear h1 ht;have sj := qx (qbt (ts.take k));have st := qx t;have hlz : (qbt (ts.take k)).length ≤ 1048576 := by omega
   have htz : t.length ≤ 1048576 := by omega
   by_cases hk1 : k = 0
   ·subst hk1;have HC : Hid (qg (qbt []) ++ qg t = qg (qbt (ts.take 1))) := by
     show _ = _;rw [show (1 : Nat) = 0 + 1 from rfl, hT, qbkx]; simp [qbt, qkx]
    have sj0 : (qg (qbt [])).size = 0 := rfl;rw [Nat.add_zero] at g1;clear hT z1 z2 z3 sj hlz;(go_wp2_with fail);go_round
    case rel => exact ⟨1, by omega, rfl, by rw [HC.out]⟩
    case measure => simp [intOf]; omega
   ·have hkp : (0 : Int) < (k : Int) := by omega
    have HC : Hid (qg (qbt (ts.take k) ++ [46]) ++ qg t = qg (qbt (ts.take (k + 1)))) := by
     show _ = _;rw [hT, qbkx];cases hx : ts.take k with
     | nil => exfalso; have := congrArg List.length hx; rw [List.length_take, List.length_nil] at this; omega
     | cons u r => rw [qbwm]; simp
    have hcat : qg (qbt (ts.take k)) ++ ⟨#[46]⟩ = qg (qbt (ts.take k) ++ [46]) := by rw [← qbkx]; rfl
    have sj2 : (qg (qbt (ts.take k) ++ [46])).size = (qbt (ts.take k)).length + 1 := by rw [qx]; simp
    clear hT z1 z2 z3;(go_wp2_with fail);go_round
    case rel => exact ⟨k + 1, by omega, by go_num, by rw [HC.out]⟩
    case measure => simp [intOf]; omega
  ·obtain rfl : k = ts.length := by omega
   rw [List.take_length];(go_wp2_with fail);go_ret
   exact ⟨rfl, rfl⟩
theorem qdb (a b : QY) : ∃ c : QY, a ++ b = c ∧ c.size = a.size + b.size ∧ c.data.toList = a.data.toList ++ b.data.toList :=
 ⟨_, rfl, by simp, by simp⟩
theorem qccb (v : Value) (x : SemL) (w : World) (hv : qfd w v x) (hl : lenS x ≤ 1048576) :
  Calls Tryz.prog 45 #[v] w fun e w' => e = .returned (.string (qg (qng x))) ∧ Below w.heap.size w w' := by
 obtain ⟨p1, q1, rfl, t1, u1⟩ := hv;unfold lenS at hl;have J1 := qb (fun W (hW : Below w.heap.size w W) => qxh p1 x.pre W (t1.below hW) (by omega))
 have J2 := qb (fun W (hW : Below w.heap.size w W) => qxh q1 x.bld W (u1.below hW) (by omega))
 obtain ⟨a1, c1, rfl, _⟩ := t1;obtain ⟨a2, c2, rfl, _⟩ := u1;have b0 := (Below.refl w.heap.size w).alloc (Nat.le_refl _) (.cells #[.string (qg x.maj), .string (qg x.min), .string (qg x.pat), .slice a1 x.pre.length c1, .slice a2 x.bld.length c2] 33);have l1 := qlq x.pre;have l2 := qlq x.bld;have s1 := qx x.maj;have s2 := qx x.min;have s3 := qx x.pat;have s4 := qx (qbt x.pre);have s5 := qx (qbt x.bld);have D := qb (show (qg x.maj).data.toList = x.maj ∧ (qg x.min).data.toList = x.min ∧ (qg x.pat).data.toList = x.pat ∧ (qg (qbt x.pre)).data.toList = qbt x.pre ∧ (qg (qbt x.bld)).data.toList = qbt x.bld from ⟨qj _, qj _, qj _, qj _, qj _⟩);have HT : Hid (qng x = x.maj ++ [46] ++ x.min ++ [46] ++ x.pat ++ (if x.pre = [] then [] else 45 :: qbt x.pre) ++ (if x.bld = [] then [] else 43 :: qbt x.bld)) := rfl;generalize qng x = T at *;generalize qg x.maj = M1 at *;generalize qg x.min = M2 at *;generalize qg x.pat = M3 at *;generalize qg (qbt x.pre) = JP at *;generalize qg (qbt x.bld) = JB at *;obtain ⟨B1, e1, k1, d1⟩ := qdb M1 ⟨#[46]⟩;obtain ⟨B2, e2, k2, d2⟩ := qdb B1 M2;obtain ⟨B3, e3, k3, d3⟩ := qdb B2 ⟨#[46]⟩;obtain ⟨B4, e4, k4, d4⟩ := qdb B3 M3;obtain ⟨B5, e5, k5, d5⟩ := qdb B4 ⟨#[45]⟩;obtain ⟨B6, e6, k6, d6⟩ := qdb B5 JP;obtain ⟨B7, e7, k7, d7⟩ := qdb B6 ⟨#[43]⟩;obtain ⟨B8, e8, k8, d8⟩ := qdb B7 JB
 obtain ⟨C7, f7, g7, h7⟩ := qdb B4 ⟨#[43]⟩;obtain ⟨C8, f8, g8, h8⟩ := qdb C7 JB;have z46 : (⟨#[46]⟩ : QY).size = 1 := rfl;have z45 : (⟨#[45]⟩ : QY).size = 1 := rfl;have z43 : (⟨#[43]⟩ : QY).size = 1 := rfl;rw [z46] at k1 k3;rw [z45] at k5;rw [z43] at k7 g7;clear z46 z45 z43;have H4 : Hid (B4.data.toList = x.maj ++ [46] ++ x.min ++ [46] ++ x.pat) := by show _ = _; rw [d4, d3, d2, d1, D.out.1, D.out.2.1, D.out.2.2.1]
 have H6 : Hid (B6.data.toList = B4.data.toList ++ 45 :: qbt x.pre) := by show _ = _; rw [d6, d5, D.out.2.2.2.1]; simp
 have H8 : Hid (B8.data.toList = B6.data.toList ++ 43 :: qbt x.bld) := by show _ = _; rw [d8, d7, D.out.2.2.2.2]; simp
 have I8 : Hid (C8.data.toList = B4.data.toList ++ 43 :: qbt x.bld) := by show _ = _; rw [h8, h7, D.out.2.2.2.2]; simp
 clear d1 d2 d3 d4 d5 d6 d7 d8 h7 h8 D;have l3 : JP.size ≤ 1048576 := by omega
 have l4 : JB.size ≤ 1048576 := by omega
 by_cases hp : x.pre = [] <;> by_cases hq : x.bld = []
 ·have hp0 : x.pre.length ≤ 0 := by rw [hp]; exact Nat.le_refl _
  have hq0 : x.bld.length ≤ 0 := by rw [hq]; exact Nat.le_refl _
  have HX : Hid (B4 = qg T) := by show _ = _; apply qmd; rw [qj, HT.out, H4.out, if_pos hp, if_pos hq]; simp
  clear hp hq HT;go_enter Tryz.func45, Tryz.ntmps45
  (go_wp2_with fail);go_ret
  exact ⟨qhp HX.out, b0⟩
 ·have hp0 : x.pre.length ≤ 0 := by rw [hp]; exact Nat.le_refl _
  have hq0 : 0 < x.bld.length := List.length_pos_iff.2 hq;have HX : Hid (C8 = qg T) := by show _ = _; apply qmd; rw [qj, HT.out, I8.out, H4.out, if_pos hp, if_neg hq]; simp
  clear hp hq HT;go_enter Tryz.func45, Tryz.ntmps45
  (go_wp2_with fail);refine (J2.out _ b0).mono ?_;rintro e w1 ⟨rfl, hw⟩;rw [hw];clear hw w1;(go_wp2_with fail);go_ret
  exact ⟨qhp HX.out, b0⟩
 ·have hp0 : 0 < x.pre.length := List.length_pos_iff.2 hp;have hq0 : x.bld.length ≤ 0 := by rw [hq]; exact Nat.le_refl _
  have HX : Hid (B6 = qg T) := by show _ = _; apply qmd; rw [qj, HT.out, H6.out, H4.out, if_neg hp, if_pos hq]; simp
  clear hp hq HT;go_enter Tryz.func45, Tryz.ntmps45
  (go_wp2_with fail);refine (J1.out _ b0).mono ?_;rintro e w1 ⟨rfl, hw⟩;rw [hw];clear hw w1;(go_wp2_with fail);go_ret
  exact ⟨qhp HX.out, b0⟩
 ·have hp0 : 0 < x.pre.length := List.length_pos_iff.2 hp;have hq0 : 0 < x.bld.length := List.length_pos_iff.2 hq;have HX : Hid (B8 = qg T) := by show _ = _; apply qmd; rw [qj, HT.out, H8.out, H6.out, H4.out, if_neg hp, if_neg hq]
  clear hp hq HT;go_enter Tryz.func45, Tryz.ntmps45
  (go_wp2_with fail);refine (J1.out _ b0).mono ?_;rintro e w1 ⟨rfl, hw⟩;rw [hw];clear hw w1;(go_wp2_with fail);refine (J2.out _ b0).mono ?_;rintro e w1 ⟨rfl, hw⟩;rw [hw];clear hw w1;(go_wp2_with fail);go_ret
  exact ⟨qhp HX.out, b0⟩
end Go.Proofs.YtpdlgiioahjhiaaGreat

namespace Go.Proofs.YtpdlgiioahjhiaaGreat
open Go.RowKit Go.Shelf
open _root_.Array renaming getElem?_eq_some_iff → qcgg
open World renaming size_alloc → qcgp
set_option linter.unusedVariables false
set_option maxHeartbeats 1000000
def Cap (v : Value) : Prop := ∀ a n c, v = .slice a n c → n ≤ c
def CapS (v : Value) : Prop := ∀ a b c p q, v = .agg #[a, b, c, p, q] → Cap p ∧ Cap q
theorem join_lib (ts : List QB) : Lib.join ts [46] = qbt ts := by
 unfold Lib.join;cases ts with
 | nil => rfl
 | cons t r =>
  induction r generalizing t with
  | nil => simp [qbt, qkx, List.intercalate]
  | cons u v ih =>
   have := ih u;simp only [List.intercalate] at this ⊢;rw [List.intersperse_cons_cons, List.flatten_cons, List.flatten_cons, this];simp [qbt, qkx]
theorem qbpw (v : Value) (ts : List QB) (w : World) (hv : Txt w v ts) (hc : Cap v) (hl : lenI ts ≤ 1048576) :
  Calls Tryz.prog 33 #[v, .string ⟨#[46]⟩] w fun e w' => e = .returned (.string (qg (qbt ts))) ∧ Below w.heap.size w w' := by
 obtain ⟨a, cap, rfl, h⟩ := id hv;have hcap := hc _ _ _ rfl;have hlen := (qnm ts).1
 by_cases hn : ts = []
 ·subst hn;refine (Tryz.strings_Join_none a cap ⟨#[46]⟩ w).mono ?_;rintro e w' ⟨rfl, rfl⟩;exact ⟨rfl, Below.refl _ _⟩
 ·rcases h with h | ⟨b, off, rfl, hlt, hcell⟩
  ·exact absurd h hn
  ·have hm : (ts.map qg).map (·.data.toList) = ts := by
    rw [List.map_map]
    conv => rhs; rw [← List.map_id ts]
    refine List.map_congr_left fun t _ => ?_;simp [qg]
   have hj : (Lib.join ((ts.map qg).map (·.data.toList)) (⟨#[46]⟩ : QY).data.toList) = qbt ts := by rw [hm]; exact join_lib ts
   have := Tryz.strings_Join b off cap (ts.map qg) ⟨#[46]⟩ w (by
    intro j x hj;rw [List.getElem?_map] at hj;cases hg : ts[j]? with
    | none => rw [hg] at hj; cases hj
    | some t =>
     rw [hg] at hj;obtain ⟨hj1, hj2⟩ := List.getElem?_eq_some_iff.1 hg;cases hj;rw [hcell j hj1, hj2]) hlt (by rw [List.length_map]; omega) (by rw [List.length_map]; exact hcap) (by rw [hj]; have := qlq ts; omega)
   rw [List.length_map, hj] at this;exact this
def fmtL (x : SemL) : QB := if fitW x then qng x else []
theorem qbwb (v : Value) (x : SemL) (w : World) (hv : qfd w v x) (hc : CapS v) (hl : lenS x ≤ 1048576) :
  Calls Tryz.prog 62 #[v] w fun e w' => e = .returned (.string (qg (fmtL x))) ∧ Below w.heap.size w w' := by
 have F1 := qb (fun W (hW : Below w.heap.size w W) => qlc v x W (hv.below hW) (qbfg x hl));obtain ⟨p1, q1, rfl, t1, u1⟩ := hv;obtain ⟨cp, cq⟩ := hc _ _ _ _ _ rfl;unfold lenS at hl;have J1 := qb (fun W (hW : Below w.heap.size w W) => qbpw p1 x.pre W (t1.below hW) cp (by omega))
 have J2 := qb (fun W (hW : Below w.heap.size w W) => qbpw q1 x.bld W (u1.below hW) cq (by omega))
 obtain ⟨a1, c1, rfl, _⟩ := t1;obtain ⟨a2, c2, rfl, _⟩ := u1;clear hc cp cq;have b0 := (Below.refl w.heap.size w).alloc (Nat.le_refl _) (.cells #[.string (qg x.maj), .string (qg x.min), .string (qg x.pat), .slice a1 x.pre.length c1, .slice a2 x.bld.length c2] 33);have kk := qb (World.alloc_heap_new w (.cells #[.string (qg x.maj), .string (qg x.min), .string (qg x.pat), .slice a1 x.pre.length c1, .slice a2 x.bld.length c2] 33));unfold fmtL;cases hf : fitW x
 ·rw [hf] at F1;rw [if_neg (by simp)]
  clear hf;go_enter Tryz.func62, Tryz.ntmps62
  (go_wp2_with fail);refine (F1.out _ b0).mono ?_;rintro e w1 ⟨rfl, b1⟩;(go_wp2_with fail);go_ret
  exact ⟨rfl, b0.trans (b1.mono b0.size)⟩
 ·rw [hf] at F1;rw [if_pos rfl];clear hf;have l1 := qlq x.pre;have l2 := qlq x.bld;have s1 := qx x.maj;have s2 := qx x.min;have s3 := qx x.pat;have s4 := qx (qbt x.pre);have s5 := qx (qbt x.bld);have D := qb (show (qg x.maj).data.toList = x.maj ∧ (qg x.min).data.toList = x.min ∧ (qg x.pat).data.toList = x.pat ∧ (qg (qbt x.pre)).data.toList = qbt x.pre ∧ (qg (qbt x.bld)).data.toList = qbt x.bld from ⟨qj _, qj _, qj _, qj _, qj _⟩);have HT : Hid (qng x = x.maj ++ [46] ++ x.min ++ [46] ++ x.pat ++ (if x.pre = [] then [] else 45 :: qbt x.pre) ++ (if x.bld = [] then [] else 43 :: qbt x.bld)) := rfl;generalize qng x = T at *;generalize qg x.maj = M1 at *;generalize qg x.min = M2 at *;generalize qg x.pat = M3 at *;generalize qg (qbt x.pre) = JP at *;generalize qg (qbt x.bld) = JB at *;obtain ⟨B1, e1, k1, d1⟩ := qdb M1 ⟨#[46]⟩;obtain ⟨B2, e2, k2, d2⟩ := qdb B1 M2;obtain ⟨B3, e3, k3, d3⟩ := qdb B2 ⟨#[46]⟩;obtain ⟨B4, e4, k4, d4⟩ := qdb B3 M3;obtain ⟨P5, e5, k5, d5⟩ := qdb ⟨#[45]⟩ JP;obtain ⟨B6, e6, k6, d6⟩ := qdb B4 P5;obtain ⟨P7, e7, k7, d7⟩ := qdb ⟨#[43]⟩ JB;obtain ⟨B8, e8, k8, d8⟩ := qdb B6 P7;obtain ⟨C8, f8, g8, h8⟩ := qdb B4 P7;have z46 : (⟨#[46]⟩ : QY).size = 1 := rfl;have z45 : (⟨#[45]⟩ : QY).size = 1 := rfl;have z43 : (⟨#[43]⟩ : QY).size = 1 := rfl;rw [z46] at k1 k3;rw [z45] at k5;rw [z43] at k7
  have H4 : Hid (B4.data.toList = x.maj ++ [46] ++ x.min ++ [46] ++ x.pat) := by show _ = _; rw [d4, d3, d2, d1, D.out.1, D.out.2.1, D.out.2.2.1]
  have H6 : Hid (B6.data.toList = B4.data.toList ++ 45 :: qbt x.pre) := by show _ = _; rw [d6, d5, D.out.2.2.2.1]; simp
  have H8 : Hid (B8.data.toList = B6.data.toList ++ 43 :: qbt x.bld) := by show _ = _; rw [d8, d7, D.out.2.2.2.2]; simp
  have I8 : Hid (C8.data.toList = B4.data.toList ++ 43 :: qbt x.bld) := by show _ = _; rw [h8, d7, D.out.2.2.2.2]; simp
  clear d1 d2 d3 d4 d5 d6 d7 d8 h8 D;have l3 : JP.size ≤ 1048576 := by omega
  have l4 : JB.size ≤ 1048576 := by omega
  by_cases hp : x.pre = [] <;> by_cases hq : x.bld = []
  ·have hp0 : x.pre.length ≤ 0 := by rw [hp]; exact Nat.le_refl _
   have hq0 : x.bld.length ≤ 0 := by rw [hq]; exact Nat.le_refl _
   have HX : Hid (B4 = qg T) := by show _ = _; apply qmd; rw [qj, HT.out, H4.out, if_pos hp, if_pos hq]; simp
   clear hp hq HT z46 z45 z43;go_enter Tryz.func62, Tryz.ntmps62
   (go_wp2_with fail);refine (F1.out _ b0).mono ?_;rintro e w1 ⟨rfl, b1⟩;simp only [qcgp] at b1;have B1' := b0.trans (b1.mono (by omega))
   have k9 := (b1.block w.heap.size (by omega)).trans kk.out
   obtain ⟨m0, m1, m2, m3, m4⟩ := qcd k9;have hz9 := (qcgg.1 k9).1;have K9 := qb k9;clear k9;(go_wp2_with fail);go_ret
   exact ⟨qhp HX.out, B1'⟩
  ·have hp0 : x.pre.length ≤ 0 := by rw [hp]; exact Nat.le_refl _
   have hq0 : 0 < x.bld.length := List.length_pos_iff.2 hq;have HX : Hid (C8 = qg T) := by show _ = _; apply qmd; rw [qj, HT.out, I8.out, H4.out, if_pos hp, if_neg hq]; simp
   clear hp hq HT z46 z45 z43;go_enter Tryz.func62, Tryz.ntmps62
   (go_wp2_with fail);refine (F1.out _ b0).mono ?_;rintro e w1 ⟨rfl, b1⟩;simp only [qcgp] at b1;have B1' := b0.trans (b1.mono (by omega))
   have k9 := (b1.block w.heap.size (by omega)).trans kk.out
   obtain ⟨m0, m1, m2, m3, m4⟩ := qcd k9;have hz9 := (qcgg.1 k9).1;have K9 := qb k9;clear k9;(go_wp2_with fail);refine (J2.out _ B1').mono ?_;rintro e w2 ⟨rfl, b2⟩;(go_wp2_with fail);go_ret
   exact ⟨qhp HX.out, B1'.trans (b2.mono B1'.size)⟩
  ·have hp0 : 0 < x.pre.length := List.length_pos_iff.2 hp;have hq0 : x.bld.length ≤ 0 := by rw [hq]; exact Nat.le_refl _
   have HX : Hid (B6 = qg T) := by show _ = _; apply qmd; rw [qj, HT.out, H6.out, H4.out, if_neg hp, if_pos hq]; simp
   clear hp hq HT z46 z45 z43;go_enter Tryz.func62, Tryz.ntmps62
   (go_wp2_with fail);refine (F1.out _ b0).mono ?_;rintro e w1 ⟨rfl, b1⟩;simp only [qcgp] at b1;have B1' := b0.trans (b1.mono (by omega))
   have k9 := (b1.block w.heap.size (by omega)).trans kk.out
   obtain ⟨m0, m1, m2, m3, m4⟩ := qcd k9;have hz9 := (qcgg.1 k9).1;have K9 := qb k9;clear k9;(go_wp2_with fail);refine (J1.out _ B1').mono ?_;rintro e w2 ⟨rfl, b2⟩;have k10 := (b2.block w.heap.size hz9).trans K9.out;clear m0 m1 m2 m3 m4;obtain ⟨m0, m1, m2, m3, m4⟩ := qcd k10;clear k10;(go_wp2_with fail);go_ret
   exact ⟨qhp HX.out, B1'.trans (b2.mono B1'.size)⟩
  ·have hp0 : 0 < x.pre.length := List.length_pos_iff.2 hp;have hq0 : 0 < x.bld.length := List.length_pos_iff.2 hq;have HX : Hid (B8 = qg T) := by show _ = _; apply qmd; rw [qj, HT.out, H8.out, H6.out, H4.out, if_neg hp, if_neg hq]
   clear hp hq HT z46 z45 z43;go_enter Tryz.func62, Tryz.ntmps62
   (go_wp2_with fail);refine (F1.out _ b0).mono ?_;rintro e w1 ⟨rfl, b1⟩;simp only [qcgp] at b1;have B1' := b0.trans (b1.mono (by omega))
   have k9 := (b1.block w.heap.size (by omega)).trans kk.out
   obtain ⟨m0, m1, m2, m3, m4⟩ := qcd k9;have hz9 := (qcgg.1 k9).1;have K9 := qb k9;clear k9;(go_wp2_with fail);refine (J1.out _ B1').mono ?_;rintro e w2 ⟨rfl, b2⟩;have k10 := (b2.block w.heap.size hz9).trans K9.out;clear m0 m1 m2 m3 m4;obtain ⟨m0, m1, m2, m3, m4⟩ := qcd k10;clear k10;have B2' := B1'.trans (b2.mono B1'.size);(go_wp2_with fail);refine (J2.out _ B2').mono ?_;rintro e w3 ⟨rfl, b3⟩;(go_wp2_with fail);go_ret
   exact ⟨qhp HX.out, B2'.trans (b3.mono B2'.size)⟩
end Go.Proofs.YtpdlgiioahjhiaaGreat

namespace Go.Proofs.YtpdlgiioahjhiaaGreat
set_option linter.unusedVariables false
structure Cmp3 {α : Type} (f : α → α → Int) : Prop where
 rng : ∀ a b, f a b = -1 ∨ f a b = 0 ∨ f a b = 1
 anti : ∀ a b, f b a = - f a b
 trans : ∀ a b c, f a b ≤ 0 → f b c ≤ 0 → f a c ≤ 0
 eqv : ∀ a b c, f a b = 0 → f a c = f b c
namespace Cmp3
variable {α β : Type} {f g : α → α → Int}
theorem sum (hf : Cmp3 f) (hg : Cmp3 g) (t : α → Bool) : Cmp3 (fun x y => if t x then (if t y then f x y else -1) else if t y then 1 else g x y) := by
 refine ⟨fun a b => ?_, fun a b => ?_, fun a b c h1 h2 => ?_, fun a b c h => ?_⟩
 ·have := hf.rng a b;have := hg.rng a b;cases t a <;> cases t b <;> simp <;> assumption
 ·have := hf.anti a b;have := hg.anti a b;cases t a <;> cases t b <;> simp <;> assumption
 ·have := hf.trans a b c;have := hg.trans a b c;cases ha : t a <;> cases hb : t b <;> cases hc : t c <;> simp [ha, hb, hc] at h1 h2 ⊢
  ·exact hg.trans a b c h1 h2
  ·exact hf.trans a b c h1 h2
 ·skip
  cases ha : t a <;> cases hb : t b <;> cases hc : t c <;> simp [ha, hb] at h ⊢
  ·exact hg.eqv a b c h
  ·exact hf.eqv a b c h
end Cmp3
end Go.Proofs.YtpdlgiioahjhiaaGreat
