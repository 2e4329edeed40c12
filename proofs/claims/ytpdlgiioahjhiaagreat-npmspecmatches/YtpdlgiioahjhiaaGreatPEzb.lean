/- Rows of comparators in memory; what a set says of a version. -/
import Derived.Test.YtpdlgiioahjhiaaGreatPEu
import Derived.Test.YtpdlgiioahjhiaaGreatPPlainT
import Derived.Laws.AppendOwnNone
import Derived.Maps.AppendAt
import Derived.Laws.OwnMore
import Derived.Test.YtpdlgiioahjhiaaGreatPFc
namespace Go.Proofs.YtpdlgiioahjhiaaGreat
open Go.RowKit Go.Shelf
set_option linter.unusedVariables false
set_option maxHeartbeats 2000000
set_option maxRecDepth 100000
theorem row_any (s : QY) (z : Int) (w : World) :
  Calls Tryz.prog 53 #[.string s, .int .i64 z] w fun e w' => e = .returned (.func (.func 89) #[] #[.pointer (some ⟨w.heap.size + 1, 0, none⟩), .pointer (some ⟨w.heap.size, 0, none⟩)]) ∧ w' = (w.alloc (.cells #[.string s] 9)).alloc (.cells #[.int .i64 z] 3) := by
 go_enter Tryz.func53, Tryz.ntmps53
 (go_wp2_with fail);go_ret
 exact ⟨rfl, rfl⟩
theorem qbxc (s x y t : QY) (a : Option Addr) (n c : Nat) (k z : Int) (w : World) :
  Calls Tryz.prog 52 #[.string s, .agg #[.string x, .string y, .string t, .slice a n c, .slice none 0 0, .int .i64 k], .int .i64 z] w fun e w' => e = .returned (.func (.func 84) #[] #[.pointer (some ⟨w.heap.size + 1, 0, none⟩), .pointer (some ⟨w.heap.size + 1 + 1, 0, none⟩), .pointer (some ⟨w.heap.size, 0, none⟩)]) ∧
   w' = ((w.alloc (.cells #[.string s] 9)).alloc (.cells #[.string x, .string y, .string t, .slice a n c, .slice none 0 0, .int .i64 k] 54)).alloc (.cells #[.int .i64 z] 3) := by
 go_enter Tryz.func52, Tryz.ntmps52
 (go_wp2_with fail);go_ret
 exact ⟨rfl, rfl⟩
theorem qbzh (w : World) (o1 o2 o3 : Obj) : (((w.alloc o1).alloc o2).alloc o3).heap[w.heap.size]? = some o1 :=
 (((qbb.cons (World.alloc_heap_new w o1) (qbb.nil _)).alloc o2).alloc o3).head
theorem qgm (w : World) (o1 o2 : Obj) : ((w.alloc o1).alloc o2).heap[w.heap.size]? = some o1 :=
 ((qbb.cons (World.alloc_heap_new w o1) (qbb.nil _)).alloc o2).head
def qhd (l : QB) (a : Nat) : PartL × Int × Int := rpL l (blk l a)
def qfw (l : QB) (a : Nat) : List Item := if qgw l (qhd l a) = true then ftL l (qhd l a).1 (qhd l a).2.1.toNat else rowL l (blk l a)
def qbvg (l : QB) (s : QY) (a : Nat) (w : World) (e : Ending) (w' : World) : Prop :=
  Below w.heap.size w w' ∧
    ((qgw l (qhd l a) = true ∧ ∃ Bp Be Bs av nv cv, e = .returned (.func (.func 84) #[] #[.pointer (some ⟨Bp, 0, none⟩), .pointer (some ⟨Be, 0, none⟩), .pointer (some ⟨Bs, 0, none⟩)]) ∧ w.heap.size ≤ Bp ∧ w.heap.size ≤ Be ∧ w.heap.size ≤ Bs ∧
      w'.heap[Bp]? = some (.cells #[.string (qg (qhd l a).1.maj), .string (qg (qhd l a).1.min), .string (qg (qhd l a).1.pat), .slice av nv cv, .slice none 0 0, .int .i64 ((qhd l a).1.told : Int)] 54 (0, 0)) ∧ Boxed w' Be 3 (.int .i64 (qhd l a).2.1) ∧ Boxed w' Bs 9 (.string s) ∧ Txt w' (.slice av nv cv) (qhd l a).1.pre ∧ Cap (.slice av nv cv) ∧ qhm w.heap.size (.slice av nv cv)) ∨
     (qgw l (qhd l a) = false ∧ ∃ Ba Bs, e = .returned (.func (.func 89) #[] #[.pointer (some ⟨Ba, 0, none⟩), .pointer (some ⟨Bs, 0, none⟩)]) ∧ w.heap.size ≤ Ba ∧ w.heap.size ≤ Bs ∧ Boxed w' Ba 3 (.int .i64 (blk l a : Int)) ∧ Boxed w' Bs 9 (.string s)))
theorem qcbs (s : QY) (a : Nat) (w : World) (hs : s.size ≤ 256) (ha : a ≤ s.size) :
  Calls Tryz.prog 27 #[.string s, .int .i64 (a : Int)] w (qbvg s.data.toList s a w) := by
 have R6 := qb (Run6 s a hs ha (a : Int) rfl);have hle := qdh (l := s.data.toList) (a := a) (by rw [qh]; exact ha)
 rw [qh] at hle;have RF := qb (fun W => qbkb s (blk s.data.toList a) W hs hle)
 change Hid (∀ W, Calls Tryz.prog 51 #[.string s, .int .i64 (blk s.data.toList a : Int)] W (FromP W (qhd s.data.toList a) (qgw s.data.toList (qhd s.data.toList a)))) at RF
 unfold qbvg;generalize qhd s.data.toList a = X at *;generalize qgw s.data.toList X = g at *;generalize blk s.data.toList a = b at *;obtain ⟨p, z, r⟩ := X;cases g
 ·go_enter Tryz.func27, Tryz.ntmps27
  (go_wp2_with fail);refine (R6.out _).mono ?_;rintro e w0 ⟨rfl, rfl⟩;(go_wp2_with fail);refine (RF.out _).mono ?_;rintro e w1 ⟨hb1, v, rfl, t1, fr, cp, av, nv, cv, rfl⟩;unfold qjj
  try dsimp only
  have hA := qb (hb1.alloc hb1.size (.cells #[.string (qg p.maj), .string (qg p.min), .string (qg p.pat), .slice av nv cv, .slice none 0 0, .int .i64 (p.told : Int)] 54));clear hb1 t1 fr cp;(go_wp2_with fail);generalize w1.alloc _ = V at *;refine (row_any _ _ _).mono ?_;rintro e w2 ⟨rfl, rfl⟩
  try dsimp only
  (go_wp2_with fail);go_ret
  refine ⟨hA.out.trans ((qdr V _ _).mono hA.out.size), .inr ⟨trivial, V.heap.size + 1, V.heap.size, rfl, by have := hA.out.size; omega, hA.out.size, qkb V _ _, qgm V _ _⟩⟩
 ·go_enter Tryz.func27, Tryz.ntmps27
  (go_wp2_with fail);refine (R6.out _).mono ?_;rintro e w0 ⟨rfl, rfl⟩;(go_wp2_with fail);refine (RF.out _).mono ?_;rintro e w1 ⟨hb1, v, rfl, t1, fr, cp, av, nv, cv, rfl⟩;unfold qjj
  try dsimp only
  have hA := qb (hb1.alloc hb1.size (.cells #[.string (qg p.maj), .string (qg p.min), .string (qg p.pat), .slice av nv cv, .slice none 0 0, .int .i64 (p.told : Int)] 54));have T1 := qb (t1.below ((Below.refl _ w1).alloc (Nat.le_refl _) (.cells #[.string (qg p.maj), .string (qg p.min), .string (qg p.pat), .slice av nv cv, .slice none 0 0, .int .i64 (p.told : Int)] 54)));have CP := qb cp;have FR := qb fr;clear hb1 t1 fr cp;(go_wp2_with fail);generalize w1.alloc _ = V at *;refine (qbxc _ _ _ _ _ _ _ _ _ _).mono ?_;rintro e w2 ⟨rfl, rfl⟩
  try dsimp only
  (go_wp2_with fail);go_ret
  refine ⟨hA.out.trans ((qth V _ _ _).mono hA.out.size), .inl ⟨trivial, V.heap.size + 1, V.heap.size + 1 + 1, V.heap.size, av, nv, cv, rfl, by have := hA.out.size; omega, by have := hA.out.size; omega, hA.out.size, qzq V _ _ _, qzj V _ _ _, qbzh V _ _ _, T1.out.below (qwp V _ _ _), CP.out, FR.out⟩⟩
end Go.Proofs.YtpdlgiioahjhiaaGreat

namespace Go.Proofs.YtpdlgiioahjhiaaGreat
open Go.RowKit Go.Shelf
set_option linter.unusedVariables false
variable {A : Nat → Prop}
def fns : List Nat := [160, 161, 87, 162, 85, 163, 164]
def qr (f : Nat) (p : PartL) : List Comp :=
 if f = 160 then qhq p else if f = 161 then qqj p else if f = 87 then qqk p else if f = 162 then qqm p else if f = 85 then qns p else if f = 163 then qls p else qgl p
theorem mean_any (f : Nat) (hf : f ∈ fns) (v : Value) (p : PartL) (w : World) (hA : ∀ b, w.heap.size ≤ b → A b) (hv : qnz A w v p) (hp : PShort p) : Calls Tryz.prog f #[v] w (qfq A w (qr f p)) := by
 simp only [fns, List.mem_cons, List.not_mem_nil, or_false] at hf;rcases hf with rfl | rfl | rfl | rfl | rfl | rfl | rfl
 ·exact qcdq v p w hA hv hp
 ·exact less_any v p w hA hv hp
 ·exact upTo_any v p w hA hv hp
 ·exact more_any v p w hA hv hp
 ·exact from_any v p w hA hv hp
 ·exact qccq v p w hA hv hp
 ·exact qcbz v p w hA hv hp
theorem op_fns (l : QB) : ∀ k, k ≤ 9 → 0 < k → (opGo l k).2 ∈ fns
 | 0, _, h => absurd h (by decide)
 | 1, _, _ => by
  rw [qjz l 0 (by decide)]
  unfold qhb;rw [if_pos ⟨by show hasP l [] = true; simp [hasP], Nat.le_of_ble_eq_true rfl⟩]
  exact List.mem_cons_self
 | k + 2, h, _ => by
  rw [qjz l (k + 1) h];unfold qhb;split
  ·have : ∀ x ∈ ops9, x.2 ∈ fns := by decide
   exact this _ (List.getElem_mem h)
  ·exact op_fns l (k + 1) (by omega) (by omega)
theorem qcdp (t : QB) : (semP t).pre.length ≤ 64 ∧ ∀ u ∈ (semP t).pre, u.length ≤ 64 := by
 unfold semP;split
 ·rename_i c h;have h1 := (qvs h).2;have h2 := qnm (qcf t c).pre;unfold lenS at h1;exact ⟨by omega, fun u hu => by have := h2.2 u hu; omega⟩
 ·exact ⟨by simp [semN], by simp [semN]⟩
theorem qcdc (l : QB) (a : Nat) : (preR l a).1.length ≤ 64 ∧ ∀ u ∈ (preR l a).1, u.length ≤ 64 := by
 unfold preR;split
 ·split
  ·exact qcdp _
  ·split
   ·exact ⟨by simp, by simp⟩
   ·split <;> exact ⟨by simp, by simp⟩
 ·exact ⟨by simp, by simp⟩
theorem qjx {l : QB} (hl : l.length ≤ 256) (sg : List (Nat × Nat)) (i : Nat) : (segT l sg i).length ≤ 1024 := by
 unfold segT;split
 ·unfold seg; simp; omega
 ·simp
theorem qwm {l : QB} {a : Nat} {p : PartL} {z r : Int} (hp : PShort p) : PShort (endP l a p z r).1 := by
 have h0 : PShort qcz := ⟨by simp [qcz], by simp [qcz], by simp [qcz], ⟨by simp [qcz], by simp [qcz]⟩, by simp [qcz]⟩
 unfold endP;split
 ·exact h0
 ·split
  ·exact h0
  ·exact hp
theorem qbcw {l : QB} {a : Nat} (ha : a ≤ l.length) (hl : l.length ≤ 256) : PShort (rpL l a).1 := by
 unfold rpL;cases hg : rnGo l 2 0 (vL l a) [] with
 | error x => exact qwm ⟨by simp [qcz], by simp [qcz], by simp [qcz], ⟨by simp [qcz], by simp [qcz]⟩, by simp [qcz]⟩
 | ok x =>
  have hx := ((qbfj 2 0 _ [] (vL_le ha).1 (Nat.zero_le _)).2 x hg).2;have hp := qcdc l x.2;dsimp only;split
  ·exact qwm ⟨qjx hl _ _, qjx hl _ _, qjx hl _ _, ⟨by simp only; omega, fun u hu => by have := hp.2 u hu; omega⟩, by simp⟩
  ·exact qwm ⟨qjx hl _ _, qjx hl _ _, qjx hl _ _, ⟨by simp, by simp⟩, by simp only; omega⟩
theorem qbwz {l : QB} {a : Nat} (ha : a ≤ l.length) (hl : l.length ≤ 256) : PShort (qgh l a).1 := by
 unfold qgh;split
 ·exact ⟨by simp [qcz], by simp [qcz], by simp [qcz], ⟨by simp [qcz], by simp [qcz]⟩, by simp [qcz]⟩
 ·exact qbcw (qdh ha) hl
structure GoodI (l : QB) (x : Item) : Prop where
 fn : x.f ∈ fns
 short : PShort x.p
 place : ∃ e : Nat, x.pos = (e : Int) ∧ e ≤ l.length
theorem qbqx {l : QB} (hl : l.length ≤ 256) : ∀ (n k a : Nat), a ≤ l.length → ∀ x ∈ rowG l n k a, x.err = 0 → GoodI l x
 | 0, _, _, _, x, h, _ => by cases h
 | n + 1, k, a, ha, x, h, he => by
  have hE : opE l a ≤ l.length := qdh (qbzj ha);have hI : (qgf l a).err = 0 → GoodI l (qgf l a) := fun h0 => by
   obtain ⟨e, h1, _, h2⟩ := qbbg hE h0;exact ⟨op_fns _ 9 (by omega) (by omega), qbcw hE hl, e, h1, h2⟩
  unfold rowG at h;split at h
  ·cases h
  ·split at h
   ·simp at h; subst h; cases he
   ·split at h
    ·simp at h; subst h; exact hI he
    ·rename_i h0;have h0 : (qgf l a).err = 0 := by simpa using h0
     rcases List.mem_cons.1 h with rfl | h
     ·exact hI he
     ·obtain ⟨e, h1, h2⟩ := (hI h0).place;rw [h1, Int.toNat_natCast] at h;exact qbqx hl n (k + 1) (blk l e) (qdh h2) x h he
theorem ft_good {l : QB} (hl : l.length ≤ 256) {p : PartL} {e : Nat} (hp : PShort p) (he : e ≤ l.length) (hd : blk l e + 1 ≤ l.length) : ∀ x ∈ ftL l p e, x.err = 0 → GoodI l x := by
 intro x h h0;unfold ftL at h;rcases List.mem_cons.1 h with rfl | h
 ·exact ⟨by show 85 ∈ fns; decide, hp, e, rfl, he⟩
 rcases List.mem_cons.1 h with rfl | h
 ·obtain ⟨e2, h1, h2⟩ := qbzb hd h0;exact ⟨by show 87 ∈ fns; decide, qbwz hd hl, e2, h1, h2⟩
 ·split at h
  ·simp at h; subst h; cases h0
  ·cases h
theorem qsv {l : QB} (hl : l.length ≤ 256) {a : Nat} (ha : a ≤ l.length) : ∀ x ∈ qfw l a, x.err = 0 → GoodI l x := by
 unfold qfw;split
 ·rename_i hf;unfold qgw at hf;rw [Bool.and_eq_true] at hf;have hr : (qhd l a).2.2 = 0 := by simpa using hf.1
  obtain ⟨e, h1, _, h2⟩ := qbbg (qdh ha) hr;have h1' : (qhd l a).2.1 = (e : Int) := h1;have h45 := hf.2;rw [h1', Int.toNat_natCast] at h45 ⊢;have h45 : l[blk l e]? = some 45 := by simpa using h45
  exact ft_good hl (qbcw (qdh ha) hl) h2 (List.getElem?_eq_some_iff.1 h45).1
 ·exact qbqx hl 33 0 _ (qdh ha)
end Go.Proofs.YtpdlgiioahjhiaaGreat

namespace Go.Proofs.YtpdlgiioahjhiaaGreat
open Go.RowKit Go.Shelf
set_option linter.unusedVariables false
variable {A : Nat → Prop}
theorem one6 {W : World} : ∀ {cs : List Comp} {xs : List Value}, qbw A W cs xs → ∀ u ∈ xs, u.oneCell' = true
 | [], xs, h, u, hu => by cases h; cases hu
 | c :: cs, xs, h, u, hu => by
  obtain ⟨ys, zs, rfl, ⟨vp, vb, rfl, t1, t2, _⟩, h3⟩ := h;obtain ⟨a1, k1, rfl, _⟩ := t1;obtain ⟨a2, k2, rfl, _⟩ := t2;rcases List.mem_append.1 hu with hu | hu
  ·simp only [List.mem_cons, List.not_mem_nil, or_false] at hu;rcases hu with rfl | rfl | rfl | rfl | rfl | rfl <;> rfl
  ·exact one6 h3 u hu
theorem infoC : (Tryz.prog.info? 35).map (fun i => (i.zero, i.size, i.bytes)) = some (some (.agg #[.int .i64 0, .string ⟨#[]⟩, .string ⟨#[]⟩, .string ⟨#[]⟩, .slice none 0 0, .slice none 0 0]), 6, 104) := by kernel_rfl
theorem qvg {w : World} {b j : Nat} {u : Value} (h : w.cell? ⟨b, j, none⟩ = some u) : w.cell? ((⟨b, 0, none⟩ : Addr).add j) = some u := by
 unfold Addr.add;split
 ·rename_i hj; subst hj; exact h
 ·simpa using h
theorem qjc {w0 w : World} {base : Nat} {v : Value} {cs ds : List Comp} {xs : List Value} {e : Ending} (hown : w.ownsRow base 35 6 v cs.length xs) (hc : qbw A w cs xs)
  (hd : qfq A w0 ds e w) (hb : base ≤ w.heap.size) (hn : cs.length + ds.length ≤ 1048576) :
  ∃ u, e = .returned u ∧ ∃ v' w' ys, (Builtin.append_ #[39, 39] 39 #[v, u]).run Tryz.prog w = .ok v' w' ∧ w'.ownsRow base 35 6 v' (cs ++ ds).length ys ∧ qbw A w (cs ++ ds) ys ∧ w.grownBy w' v.ownBlock ∧ (v'.ownBlock = v.ownBlock ∨ v'.ownBlock = some w.heap.size) := by
 obtain ⟨i0, hi, hz0, hz1, hz2⟩ := info_parts infoC;obtain ⟨_, ⟨rfl, rfl⟩ | ⟨b, ys, rfl, _, hy, hyc⟩⟩ := hd
 ·refine ⟨_, rfl, v, w, xs, run_append_owned_none w base 39 39 35 i0 6 Tryz.underlying39 hi v _ xs hown, ?_, ?_, ⟨rfl, rfl, rfl, Nat.le_refl _, fun _ _ _ => rfl⟩, .inl rfl⟩
  ·rw [List.append_nil]; exact hown
  ·rw [List.append_nil]; exact hc
 ·obtain ⟨v', w', h1, h2, h3, _, h4⟩ := run_append_own_at (P := Tryz.prog) (w := w) base 39 39 35 i0 _ 6 104 Tryz.underlying39 hi hz0 hz1 hz2 rfl (by decide) v cs.length xs hown ⟨b, 0, none⟩ ds.length ds.length ys hyc.len
   (fun j u hu => qvg (qd j hy (by rw [List.getElem?_toArray]; exact hu))) (one6 hyc) (by unfold maxLen; omega) (by omega) hb
  exact ⟨_, rfl, v', w', xs ++ ys, h1, by rw [List.length_append]; exact h2, hc.app hyc, h3, h4⟩
end Go.Proofs.YtpdlgiioahjhiaaGreat

namespace Go.Proofs.YtpdlgiioahjhiaaGreat
open Go.RowKit Go.Shelf
set_option linter.unusedVariables false
set_option maxHeartbeats 4000000
set_option maxRecDepth 100000
def cmpO (op n : Int) : Bool := if op = 1 then decide (n < 0) else if op = 2 then decide (n ≤ 0) else if op = 3 then decide (0 < n) else if op = 4 then decide (0 ≤ n) else if op = 5 then (n == 0) else false
def qgv (c : Comp) (y : SemL) : Bool := fitW c.2 && fitW y && cmpO c.1 (ordW y c.2)
structure HB (w W : World) (op : Int) (x y : SemL) (a1 a2 a3 a4 : Option Addr) (k1 k2 k3 k4 : Nat) : Prop where
 c : W.heap[w.heap.size]? = some (.cells #[.int .i64 op, .string (qg x.maj), .string (qg x.min), .string (qg x.pat), .slice a1 x.pre.length k1, .slice a2 x.bld.length k2] 35 (0, 0))
 v : W.heap[w.heap.size + 1]? = some (.cells #[.string (qg y.maj), .string (qg y.min), .string (qg y.pat), .slice a3 y.pre.length k3, .slice a4 y.bld.length k4] 33 (0, 0))
theorem HB.below {w W : World} {op : Int} {x y : SemL} {a1 a2 a3 a4 : Option Addr} {k1 k2 k3 k4 : Nat} {W' : World} (h : HB w W op x y a1 a2 a3 a4 k1 k2 k3 k4) (hb : Below W.heap.size W W') : HB w W' op x y a1 a2 a3 a4 k1 k2 k3 k4 :=
 ⟨(hb.block _ (Array.getElem?_eq_some_iff.1 h.c).1).trans h.c, (hb.block _ (Array.getElem?_eq_some_iff.1 h.v).1).trans h.v⟩
theorem HB.seen {w W : World} {op : Int} {x y : SemL} {a1 a2 a3 a4 : Option Addr} {k1 k2 k3 k4 : Nat} (h : HB w W op x y a1 a2 a3 a4 k1 k2 k3 k4) : W.cell? ⟨w.heap.size, 0, none⟩ = some (.int .i64 op) ∧ W.cell? ⟨w.heap.size, 1, none⟩ = some (.string (qg x.maj)) ∧ W.cell? ⟨w.heap.size, 2, none⟩ = some (.string (qg x.min)) ∧ W.cell? ⟨w.heap.size, 3, none⟩ = some (.string (qg x.pat)) ∧ W.cell? ⟨w.heap.size, 4, none⟩ = some (.slice a1 x.pre.length k1) ∧ W.cell? ⟨w.heap.size, 5, none⟩ = some (.slice a2 x.bld.length k2) ∧ W.cell? ⟨w.heap.size + 1, 0, none⟩ = some (.string (qg y.maj)) ∧ W.cell? ⟨w.heap.size + 1, 1, none⟩ = some (.string (qg y.min)) ∧ W.cell? ⟨w.heap.size + 1, 2, none⟩ = some (.string (qg y.pat)) ∧ W.cell? ⟨w.heap.size + 1, 3, none⟩ = some (.slice a3 y.pre.length k3) ∧ W.cell? ⟨w.heap.size + 1, 4, none⟩ = some (.slice a4 y.bld.length k4) :=
 ⟨qd 0 h.c rfl, qd 1 h.c rfl, qd 2 h.c rfl, qd 3 h.c rfl, qd 4 h.c rfl, qd 5 h.c rfl, qd 0 h.v rfl, qd 1 h.v rfl, qd 2 h.v rfl, qd 3 h.v rfl, qd 4 h.v rfl⟩
theorem qccw (op : Int) (x y : SemL) (vp vb : Value) (u : Value) (w : World) (t1 : Txt w vp x.pre) (t2 : Txt w vb x.bld) (hu : qfd w u y) (sx : qct x) (sy : qct y) :
  Calls Tryz.prog 15 #[.agg #[.int .i64 op, .string (qg x.maj), .string (qg x.min), .string (qg x.pat), vp, vb], u] w fun e w' => e = .returned (.bool (qgv (op, x) y)) ∧ Below w.heap.size w w' := by
 obtain ⟨a1, k1, rfl, _⟩ := id t1;obtain ⟨a2, k2, rfl, _⟩ := id t2;obtain ⟨vq, vc, rfl, t3, t4⟩ := hu;obtain ⟨a3, k3, rfl, _⟩ := id t3;obtain ⟨a4, k4, rfl, _⟩ := id t4;have FX := qb (fun W (hW : Below w.heap.size w W) => qlc (.agg #[.string (qg x.maj), .string (qg x.min), .string (qg x.pat), .slice a1 x.pre.length k1, .slice a2 x.bld.length k2]) x W ⟨_, _, rfl, t1.below hW, t2.below hW⟩ sx);have FY := qb (fun W (hW : Below w.heap.size w W) => qlc (.agg #[.string (qg y.maj), .string (qg y.min), .string (qg y.pat), .slice a3 y.pre.length k3, .slice a4 y.bld.length k4]) y W ⟨_, _, rfl, t3.below hW, t4.below hW⟩ sy);have OO := qb (fun W (hW : Below w.heap.size w W) => qccg (.agg #[.string (qg y.maj), .string (qg y.min), .string (qg y.pat), .slice a3 y.pre.length k3, .slice a4 y.bld.length k4]) (.agg #[.string (qg x.maj), .string (qg x.min), .string (qg x.pat), .slice a1 x.pre.length k1, .slice a2 x.bld.length k2]) y x W ⟨_, _, rfl, t3.below hW, t4.below hW⟩ ⟨_, _, rfl, t1.below hW, t2.below hW⟩ sy sx);have hH : qgv (op, x) y = (fitW x && fitW y && cmpO op (ordW y x)) := rfl;generalize qgv (op, x) y = R at *;generalize fitW x = fx at *;generalize fitW y = fy at *;generalize ordW y x = n at *;generalize hc : cmpO op n = cc at *;have HC := qb hc;clear hc
 have B0 : HB w ((w.alloc (.cells #[.int .i64 op, .string (qg x.maj), .string (qg x.min), .string (qg x.pat), .slice a1 x.pre.length k1, .slice a2 x.bld.length k2] 35)).alloc (.cells #[.string (qg y.maj), .string (qg y.min), .string (qg y.pat), .slice a3 y.pre.length k3, .slice a4 y.bld.length k4] 33)) op x y a1 a2 a3 a4 k1 k2 k3 k4 := ⟨qgm w _ _, qkb w _ _⟩;have b0 := qdr w (.cells #[.int .i64 op, .string (qg x.maj), .string (qg x.min), .string (qg x.pat), .slice a1 x.pre.length k1, .slice a2 x.bld.length k2] 35) (.cells #[.string (qg y.maj), .string (qg y.min), .string (qg y.pat), .slice a3 y.pre.length k3, .slice a4 y.bld.length k4] 33);clear t1 t2 t3 t4 sx sy;subst hH;go_enter Tryz.func15, Tryz.ntmps15
 (go_wp2_with fail);generalize (w.alloc _).alloc _ = W0 at *;refine (FX.out _ b0).mono ?_;rintro e w1 ⟨rfl, h1⟩;have B1 := B0.below h1;have hb1 := b0.trans (h1.mono b0.size);clear B0 b0 h1;cases fx
 ·(go_wp2_with fail);go_ret
  exact ⟨rfl, hb1⟩
 obtain ⟨g0, g1, g2, g3, g4, g5, g6, g7, g8, g9, g10⟩ := B1.seen
 try dsimp only
 (go_wp2_with fail);refine (FY.out _ hb1).mono ?_;rintro e w2 ⟨rfl, h2⟩;have B2 := B1.below h2;have hb2 := hb1.trans (h2.mono hb1.size);clear B1 hb1 h2 g0 g1 g2 g3 g4 g5 g6 g7 g8 g9 g10;cases fy
 ·(go_wp2_with fail);go_ret
  exact ⟨rfl, hb2⟩
 obtain ⟨g0, g1, g2, g3, g4, g5, g6, g7, g8, g9, g10⟩ := B2.seen
 try dsimp only
 (go_wp2_with fail);refine (OO.out _ hb2).mono ?_;rintro e w3 ⟨rfl, h3⟩;have B3 := B2.below h3;have hb3 := hb2.trans (h3.mono hb2.size);clear B2 hb2 h3 g0 g1 g2 g3 g4 g5 g6 g7 g8 g9 g10;obtain ⟨g0, g1, g2, g3, g4, g5, g6, g7, g8, g9, g10⟩ := B3.seen;clear B3
 try dsimp only
 by_cases o1 : op = 1
 ·have HO : cmpO op n = decide (n < 0) := if_pos o1;have HP := HC.out.symm.trans HO;clear HC HO;subst HP;subst o1;(go_wp2_with fail);go_ret
  refine ⟨?_, hb3⟩;generalize decide (n < 0) = q;simp only [Bool.true_and];exact rfl
 have p1 : (op == 1) = false := by simpa using o1
 by_cases o2 : op = 2
 ·have HO : cmpO op n = decide (n ≤ 0) := (if_neg o1).trans (if_pos o2);have HP := HC.out.symm.trans HO;clear HC HO;subst HP;subst o2;(go_wp2_with fail);go_ret
  refine ⟨?_, hb3⟩;generalize decide (n ≤ 0) = q;simp only [Bool.true_and];exact rfl
 have p2 : (op == 2) = false := by simpa using o2
 by_cases o3 : op = 3
 ·have HO : cmpO op n = decide (0 < n) := (if_neg o1).trans ((if_neg o2).trans (if_pos o3));have HP := HC.out.symm.trans HO;clear HC HO;subst HP;subst o3;(go_wp2_with fail);go_ret
  refine ⟨?_, hb3⟩;generalize decide (0 < n) = q;simp only [Bool.true_and];exact rfl
 have p3 : (op == 3) = false := by simpa using o3
 by_cases o4 : op = 4
 ·have HO : cmpO op n = decide (0 ≤ n) := (if_neg o1).trans ((if_neg o2).trans ((if_neg o3).trans (if_pos o4)));have HP := HC.out.symm.trans HO;clear HC HO;subst HP;subst o4;(go_wp2_with fail);go_ret
  refine ⟨?_, hb3⟩;generalize decide (0 ≤ n) = q;simp only [Bool.true_and];exact rfl
 have p4 : (op == 4) = false := by simpa using o4
 by_cases o5 : op = 5
 ·have HO : cmpO op n = (n == 0) := (if_neg o1).trans ((if_neg o2).trans ((if_neg o3).trans ((if_neg o4).trans (if_pos o5))));have HP := HC.out.symm.trans HO;clear HC HO;subst HP;subst o5;(go_wp2_with fail);go_ret
  refine ⟨?_, hb3⟩;generalize (n == 0) = q;simp only [Bool.true_and];exact rfl
 have p5 : (op == 5) = false := by simpa using o5
 have HO : cmpO op n = false := (if_neg o1).trans ((if_neg o2).trans ((if_neg o3).trans ((if_neg o4).trans (if_neg o5))));have HP := HC.out.symm.trans HO;clear HC HO;subst HP;clear o1 o2 o3 o4 o5;(go_wp2_with fail);go_ret
 exact ⟨rfl, hb3⟩
end Go.Proofs.YtpdlgiioahjhiaaGreat

namespace Go.Proofs.YtpdlgiioahjhiaaGreat
open Go.RowKit Go.Shelf
set_option linter.unusedVariables false
set_option maxHeartbeats 4000000
set_option maxRecDepth 100000
def qnl (x y : SemL) : Bool := x.maj == y.maj && x.min == y.min && x.pat == y.pat
theorem qkc (l : QB) : (qg l).toList = l := by rw [toL, qj]
theorem same_t {x y : SemL} {q : Bool} (h : (qg x.maj).toList = (qg y.maj).toList) (g : (qg x.min).toList = (qg y.min).toList) (hq : ((qg x.pat).toList == (qg y.pat).toList) = q) : qnl x y = q := by
 rw [qkc, qkc] at h g;rw [qkc, qkc] at hq;unfold qnl;rw [h, g, hq, beq_self_eq_true, beq_self_eq_true]
 rfl
theorem same_f {x y : SemL} (g : ¬ (qg x.min).toList = (qg y.min).toList) : qnl x y = false := by
 rw [qkc, qkc] at g;unfold qnl;rw [beq_eq_false_iff_ne.2 g, Bool.and_false]
 rfl
theorem same_e {x y : SemL} (g : ¬ (qg x.maj).toList = (qg y.maj).toList) : qnl x y = false := by
 rw [qkc, qkc] at g;unfold qnl;rw [beq_eq_false_iff_ne.2 g]
 rfl
theorem qzb (x y : SemL) (u v : Value) (w : World) (hu : qfd w u x) (hv : qfd w v y) :
  Calls Tryz.prog 37 #[u, v] w fun e w' => e = .returned (.bool (qnl x y)) ∧ Below w.heap.size w w' := by
 obtain ⟨vp, vb, rfl, t1, t2⟩ := hu;obtain ⟨a1, k1, rfl, _⟩ := id t1;obtain ⟨a2, k2, rfl, _⟩ := id t2;obtain ⟨vq, vc, rfl, t3, t4⟩ := hv;obtain ⟨a3, k3, rfl, _⟩ := id t3;obtain ⟨a4, k4, rfl, _⟩ := id t4;clear t1 t2 t3 t4;have b0 := qdr w (.cells #[.string (qg x.maj), .string (qg x.min), .string (qg x.pat), .slice a1 x.pre.length k1, .slice a2 x.bld.length k2] 33) (.cells #[.string (qg y.maj), .string (qg y.min), .string (qg y.pat), .slice a3 y.pre.length k3, .slice a4 y.bld.length k4] 33);go_enter Tryz.func37, Tryz.ntmps37
 go_wp2_with fail
 ·rename_i h g;generalize hq : ((qg x.pat).toList == (qg y.pat).toList) = q at *;rw [same_t h g hq];go_ret
  exact ⟨rfl, b0⟩
 ·rename_i h g;rw [same_f g];go_ret
  exact ⟨rfl, b0⟩
 ·rename_i g;rw [same_e g];go_ret
  exact ⟨rfl, b0⟩
end Go.Proofs.YtpdlgiioahjhiaaGreat

namespace Go.Proofs.YtpdlgiioahjhiaaGreat
open Go.RowKit Go.Shelf
set_option linter.unusedVariables false
set_option maxHeartbeats 4000000
set_option maxRecDepth 100000
def qkl (op : Int) : QY × Bool := if op = 1 then (qg [60], true) else if op = 2 then (qg [60, 61], true) else if op = 3 then (qg [62], true) else if op = 4 then (qg [62, 61], true) else if op = 5 then (qg [], true) else (qg [], false)
theorem sign_any (op : Int) (w : World) :
  Calls Tryz.prog 61 #[.int .i64 op] w fun e w' => e = .returned (.tuple #[.string (qkl op).1, .bool (qkl op).2]) ∧ w' = w := by
 by_cases o1 : op = 1
 ·have HO : qkl op = (qg [60], true) := if_pos o1;rw [HO];subst o1;clear HO;go_enter Tryz.func61, Tryz.ntmps61
  (go_wp2_with fail);go_ret2
  exact ⟨rfl, rfl⟩
 have p1 : (op == 1) = false := by simpa using o1
 by_cases o2 : op = 2
 ·have HO : qkl op = (qg [60, 61], true) := (if_neg o1).trans (if_pos o2);rw [HO];subst o2;clear HO;go_enter Tryz.func61, Tryz.ntmps61
  (go_wp2_with fail);go_ret2
  exact ⟨rfl, rfl⟩
 have p2 : (op == 2) = false := by simpa using o2
 by_cases o3 : op = 3
 ·have HO : qkl op = (qg [62], true) := (if_neg o1).trans ((if_neg o2).trans (if_pos o3));rw [HO];subst o3;clear HO;go_enter Tryz.func61, Tryz.ntmps61
  (go_wp2_with fail);go_ret2
  exact ⟨rfl, rfl⟩
 have p3 : (op == 3) = false := by simpa using o3
 by_cases o4 : op = 4
 ·have HO : qkl op = (qg [62, 61], true) := (if_neg o1).trans ((if_neg o2).trans ((if_neg o3).trans (if_pos o4)));rw [HO];subst o4;clear HO;go_enter Tryz.func61, Tryz.ntmps61
  (go_wp2_with fail);go_ret2
  exact ⟨rfl, rfl⟩
 have p4 : (op == 4) = false := by simpa using o4
 by_cases o5 : op = 5
 ·have HO : qkl op = (qg [], true) := (if_neg o1).trans ((if_neg o2).trans ((if_neg o3).trans ((if_neg o4).trans (if_pos o5))));rw [HO];subst o5;clear HO;go_enter Tryz.func61, Tryz.ntmps61
  (go_wp2_with fail);go_ret2
  exact ⟨rfl, rfl⟩
 have p5 : (op == 5) = false := by simpa using o5
 have HO : qkl op = (qg [], false) := (if_neg o1).trans ((if_neg o2).trans ((if_neg o3).trans ((if_neg o4).trans (if_neg o5))));rw [HO];clear HO o1 o2 o3 o4 o5;go_enter Tryz.func61, Tryz.ntmps61
 (go_wp2_with fail);go_ret2
 exact ⟨rfl, rfl⟩
end Go.Proofs.YtpdlgiioahjhiaaGreat

namespace Go.Proofs.YtpdlgiioahjhiaaGreat
open Go.RowKit Go.Shelf
set_option linter.unusedVariables false
def qbbz (W : World) (b o : Nat) (c : Comp) : Prop :=
 ∃ vp vb, W.cell? ⟨b, o, none⟩ = some (.int .i64 c.1) ∧ W.cell? ⟨b, o + 1, none⟩ = some (.string (qg c.2.maj)) ∧ W.cell? ⟨b, o + 2, none⟩ = some (.string (qg c.2.min)) ∧ W.cell? ⟨b, o + 3, none⟩ = some (.string (qg c.2.pat)) ∧ W.cell? ⟨b, o + 4, none⟩ = some (vp) ∧ W.cell? ⟨b, o + 5, none⟩ = some (vb) ∧ Txt W vp c.2.pre ∧ Txt W vb c.2.bld ∧ Cap vp ∧ Cap vb
theorem qbbz.below {W W' : World} {b o : Nat} {c : Comp} (hl : b < W.heap.size) (h : qbbz W b o c) (hb : Below W.heap.size W W') : qbbz W' b o c := by
 obtain ⟨vp, vb, h0, h1, h2, h3, h4, h5, t1, t2, cp⟩ := h;exact ⟨vp, vb, (hb.cell hl).trans h0, (hb.cell hl).trans h1, (hb.cell hl).trans h2, (hb.cell hl).trans h3, (hb.cell hl).trans h4, (hb.cell hl).trans h5, t1.below hb, t2.below hb, cp⟩
def qnf (W : World) (v : Value) (cs : List Comp) : Prop :=
 ∃ a k, v = .slice a cs.length k ∧ (cs = [] ∨ ∃ b o, a = some ⟨b, o, none⟩ ∧ b < W.heap.size ∧ ∀ i (h : i < cs.length), qbbz W b (o + i * 6) cs[i])
theorem qnf.below {W W' : World} {v : Value} {cs : List Comp} (h : qnf W v cs) (hb : Below W.heap.size W W') : qnf W' v cs := by
 obtain ⟨a, k, rfl, h | ⟨b, o, rfl, hl, h⟩⟩ := h
 ·exact ⟨a, k, rfl, .inl h⟩
 ·exact ⟨_, k, rfl, .inr ⟨b, o, rfl, Nat.lt_of_lt_of_le hl hb.size, fun i hi => (h i hi).below hl hb⟩⟩
def setL (cs : List Comp) (y : SemL) : Bool :=
 fitW y && cs.all (fun c => qgv c y) && (y.pre.isEmpty || cs.any (fun c => !c.2.pre.isEmpty && qnl c.2 y))
def qnp (W : World) (v : Value) (l : List (List Comp)) : Prop :=
 ∃ a k, v = .slice a l.length k ∧ (l = [] ∨ ∃ b o, a = some ⟨b, o, none⟩ ∧ b < W.heap.size ∧ ∀ i (h : i < l.length), ∃ u, W.cell? ⟨b, o + i, none⟩ = some u ∧ qnf W u l[i])
theorem qnp.below {W W' : World} {v : Value} {l : List (List Comp)} (h : qnp W v l) (hb : Below W.heap.size W W') : qnp W' v l := by
 obtain ⟨a, k, rfl, h | ⟨b, o, rfl, hl, h⟩⟩ := h
 ·exact ⟨a, k, rfl, .inl h⟩
 ·refine ⟨_, k, rfl, .inr ⟨b, o, rfl, Nat.lt_of_lt_of_le hl hb.size, fun i hi => ?_⟩⟩;obtain ⟨u, h1, h2⟩ := h i hi;exact ⟨u, (hb.cell hl).trans h1, h2.below hb⟩
end Go.Proofs.YtpdlgiioahjhiaaGreat
