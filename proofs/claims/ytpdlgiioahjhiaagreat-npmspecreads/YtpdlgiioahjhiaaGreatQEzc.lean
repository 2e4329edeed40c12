/-
  Walks: the parts of a set, as an iterator. · What is known of the parts that are handed out; what they mean. · append of comparators onto a set of the call's own. · Walks: does a version hold to a comparator? · Walks: have two versions the same numbers? · Walks: how an Op is written. · Rows of comparators in memory; what a set says of a version. · Sets of comparators that a call has made, in memory: they stay as they are while nothing turns their blocks. · Walks: is a version in a set?
-/
import Derived.Test.YtpdlgiioahjhiaaGreatQEu
import Derived.Test.YtpdlgiioahjhiaaGreatQRh
import Derived.Laws.AppendOwnNone
import Derived.Maps.AppendAt
import Derived.Laws.OwnMore
import Derived.Test.YtpdlgiioahjhiaaGreatQFc
namespace Go.Proofs.YtpdlgiioahjhiaaGreat
open Go.RowKit Go.Shelf
set_option linter.unusedVariables false

theorem row_any (s : ByteArray) (z : Int) (w : World) :
    Calls Tryz.prog 53 #[.string s, .int .i64 z] w fun e w' => e = .returned (.func (.func 89) #[] #[.pointer (some ⟨w.heap.size + 1, 0, none⟩), .pointer (some ⟨w.heap.size, 0, none⟩)]) ∧ w' = (w.alloc (.cells #[.string s] 9)).alloc (.cells #[.int .i64 z] 3) := by
  go_enter Tryz.func53, Tryz.ntmps53
  go_wp2_with fail
  go_ret
  exact ⟨rfl, rfl⟩
theorem fromTo_any (s x y t : ByteArray) (a : Option Addr) (n c : Nat) (k z : Int) (w : World) :
    Calls Tryz.prog 52 #[.string s, .agg #[.string x, .string y, .string t, .slice a n c, .slice none 0 0, .int .i64 k], .int .i64 z] w fun e w' => e = .returned (.func (.func 84) #[] #[.pointer (some ⟨w.heap.size + 1, 0, none⟩), .pointer (some ⟨w.heap.size + 1 + 1, 0, none⟩), .pointer (some ⟨w.heap.size, 0, none⟩)]) ∧
      w' = ((w.alloc (.cells #[.string s] 9)).alloc (.cells #[.string x, .string y, .string t, .slice a n c, .slice none 0 0, .int .i64 k] 54)).alloc (.cells #[.int .i64 z] 3) := by
  go_enter Tryz.func52, Tryz.ntmps52
  go_wp2_with fail
  go_ret
  exact ⟨rfl, rfl⟩
theorem heap_a0 (w : World) (o1 o2 o3 : Obj) : (((w.alloc o1).alloc o2).alloc o3).heap[w.heap.size]? = some o1 :=
  (((Lies.cons (World.alloc_heap_new w o1) (Lies.nil _)).alloc o2).alloc o3).head
theorem heap_b0 (w : World) (o1 o2 : Obj) : ((w.alloc o1).alloc o2).heap[w.heap.size]? = some o1 :=
  ((Lies.cons (World.alloc_heap_new w o1) (Lies.nil _)).alloc o2).head

def headL (l : List UInt8) (a : Nat) : PartL × Int × Int := rpL l (blk l a)
def partsL (l : List UInt8) (a : Nat) : List Item := if isFrom l (headL l a) = true then ftL l (headL l a).1 (headL l a).2.1.toNat else rowL l (blk l a)
def PartsP (l : List UInt8) (s : ByteArray) (a : Nat) (w : World) (e : Ending) (w' : World) : Prop :=
  Below w.heap.size w w' ∧
    ((isFrom l (headL l a) = true ∧ ∃ Bp Be Bs av nv cv, e = .returned (.func (.func 84) #[] #[.pointer (some ⟨Bp, 0, none⟩), .pointer (some ⟨Be, 0, none⟩), .pointer (some ⟨Bs, 0, none⟩)]) ∧ w.heap.size ≤ Bp ∧ w.heap.size ≤ Be ∧ w.heap.size ≤ Bs ∧
      w'.heap[Bp]? = some (.cells #[.string (ofL (headL l a).1.maj), .string (ofL (headL l a).1.min), .string (ofL (headL l a).1.pat), .slice av nv cv, .slice none 0 0, .int .i64 ((headL l a).1.told : Int)] 54 (0, 0)) ∧ Boxed w' Be 3 (.int .i64 (headL l a).2.1) ∧ Boxed w' Bs 9 (.string s) ∧ Txt w' (.slice av nv cv) (headL l a).1.pre ∧ Cap (.slice av nv cv) ∧ Fresh w.heap.size (.slice av nv cv)) ∨
     (isFrom l (headL l a) = false ∧ ∃ Ba Bs, e = .returned (.func (.func 89) #[] #[.pointer (some ⟨Ba, 0, none⟩), .pointer (some ⟨Bs, 0, none⟩)]) ∧ w.heap.size ≤ Ba ∧ w.heap.size ≤ Bs ∧ Boxed w' Ba 3 (.int .i64 (blk l a : Int)) ∧ Boxed w' Bs 9 (.string s)))

set_option maxRecDepth 100000 in
set_option maxHeartbeats 2000000 in
theorem parts_any (s : ByteArray) (a : Nat) (w : World) (hs : s.size ≤ 256) (ha : a ≤ s.size) :
    Calls Tryz.prog 27 #[.string s, .int .i64 (a : Int)] w (PartsP s.data.toList s a w) := by
  have R6 := hide (Run6 s a hs ha (a : Int) rfl)
  have hle := blk_le (l := s.data.toList) (a := a) (by rw [len_data]; exact ha)
  rw [len_data] at hle
  have RF := hide (fun W => readFrom_any s (blk s.data.toList a) W hs hle)
  change Hid (∀ W, Calls Tryz.prog 51 #[.string s, .int .i64 (blk s.data.toList a : Int)] W (FromP W (headL s.data.toList a) (isFrom s.data.toList (headL s.data.toList a)))) at RF
  unfold PartsP
  generalize headL s.data.toList a = X at *
  generalize isFrom s.data.toList X = g at *
  generalize blk s.data.toList a = b at *
  obtain ⟨p, z, r⟩ := X
  cases g
  · go_enter Tryz.func27, Tryz.ntmps27
    go_wp2_with fail
    refine (R6.out _).mono ?_
    rintro e w0 ⟨rfl, rfl⟩
    go_wp2_with fail
    refine (RF.out _).mono ?_
    rintro e w1 ⟨hb1, v, rfl, t1, fr, cp, av, nv, cv, rfl⟩
    unfold partW
    try dsimp only
    have hA := hide (hb1.alloc hb1.size (.cells #[.string (ofL p.maj), .string (ofL p.min), .string (ofL p.pat), .slice av nv cv, .slice none 0 0, .int .i64 (p.told : Int)] 54))
    clear hb1 t1 fr cp
    go_wp2_with fail
    generalize w1.alloc _ = V at *
    refine (row_any _ _ _).mono ?_
    rintro e w2 ⟨rfl, rfl⟩
    try dsimp only
    go_wp2_with fail
    go_ret
    refine ⟨hA.out.trans ((below_a2 V _ _).mono hA.out.size), .inr ⟨trivial, V.heap.size + 1, V.heap.size, rfl, by have := hA.out.size; omega, hA.out.size, heap_b1 V _ _, heap_b0 V _ _⟩⟩
  · go_enter Tryz.func27, Tryz.ntmps27
    go_wp2_with fail
    refine (R6.out _).mono ?_
    rintro e w0 ⟨rfl, rfl⟩
    go_wp2_with fail
    refine (RF.out _).mono ?_
    rintro e w1 ⟨hb1, v, rfl, t1, fr, cp, av, nv, cv, rfl⟩
    unfold partW
    try dsimp only
    have hA := hide (hb1.alloc hb1.size (.cells #[.string (ofL p.maj), .string (ofL p.min), .string (ofL p.pat), .slice av nv cv, .slice none 0 0, .int .i64 (p.told : Int)] 54))
    have T1 := hide (t1.below ((Below.refl _ w1).alloc (Nat.le_refl _) (.cells #[.string (ofL p.maj), .string (ofL p.min), .string (ofL p.pat), .slice av nv cv, .slice none 0 0, .int .i64 (p.told : Int)] 54)))
    have CP := hide cp
    have FR := hide fr
    clear hb1 t1 fr cp
    go_wp2_with fail
    generalize w1.alloc _ = V at *
    refine (fromTo_any _ _ _ _ _ _ _ _ _ _).mono ?_
    rintro e w2 ⟨rfl, rfl⟩
    try dsimp only
    go_wp2_with fail
    go_ret
    refine ⟨hA.out.trans ((below_a3 V _ _ _).mono hA.out.size), .inl ⟨trivial, V.heap.size + 1, V.heap.size + 1 + 1, V.heap.size, av, nv, cv, rfl, by have := hA.out.size; omega, by have := hA.out.size; omega, hA.out.size, heap_a1 V _ _ _, heap_a2 V _ _ _, heap_a0 V _ _ _, T1.out.below (below_a3' V _ _ _), CP.out, FR.out⟩⟩

end Go.Proofs.YtpdlgiioahjhiaaGreat

namespace Go.Proofs.YtpdlgiioahjhiaaGreat
open Go.RowKit Go.Shelf
set_option linter.unusedVariables false
variable {A : Nat → Prop}

def fns : List Nat := [160, 161, 87, 162, 85, 163, 164]
def meanL (f : Nat) (p : PartL) : List Comp :=
  if f = 160 then equalL p else if f = 161 then lessL p else if f = 87 then upToL p else if f = 162 then moreL p else if f = 85 then fromL p else if f = 163 then tildeL p else caretL p
theorem mean_any (f : Nat) (hf : f ∈ fns) (v : Value) (p : PartL) (w : World) (hA : ∀ b, w.heap.size ≤ b → A b) (hv : PartV A w v p) (hp : PShort p) : Calls Tryz.prog f #[v] w (CompsP A w (meanL f p)) := by
  simp only [fns, List.mem_cons, List.not_mem_nil, or_false] at hf
  rcases hf with rfl | rfl | rfl | rfl | rfl | rfl | rfl
  · exact equal_any v p w hA hv hp
  · exact less_any v p w hA hv hp
  · exact upTo_any v p w hA hv hp
  · exact more_any v p w hA hv hp
  · exact from_any v p w hA hv hp
  · exact tilde_any v p w hA hv hp
  · exact caret_any v p w hA hv hp

theorem op_fns (l : List UInt8) : ∀ k, k ≤ 9 → 0 < k → (opGo l k).2 ∈ fns
  | 0, _, h => absurd h (by decide)
  | 1, _, _ => by
    rw [opGo_succ l 0 (by decide)]
    unfold opStep
    rw [if_pos ⟨by show hasP l [] = true; simp [hasP], Nat.le_of_ble_eq_true rfl⟩]
    exact List.mem_cons_self
  | k + 2, h, _ => by
    rw [opGo_succ l (k + 1) h]
    unfold opStep
    split
    · have : ∀ x ∈ ops9, x.2 ∈ fns := by decide
      exact this _ (List.getElem_mem h)
    · exact op_fns l (k + 1) (by omega) (by omega)
theorem sem_short (t : List UInt8) : (semP t).pre.length ≤ 64 ∧ ∀ u ∈ (semP t).pre, u.length ≤ 64 := by
  unfold semP
  split
  · rename_i c h
    have h1 := (parse_fit h).2
    have h2 := lenI_ge (semOf t c).pre
    unfold lenS at h1
    exact ⟨by omega, fun u hu => by have := h2.2 u hu; omega⟩
  · exact ⟨by simp [semN], by simp [semN]⟩
theorem pre_short (l : List UInt8) (a : Nat) : (preR l a).1.length ≤ 64 ∧ ∀ u ∈ (preR l a).1, u.length ≤ 64 := by
  unfold preR
  split
  · split
    · exact sem_short _
    · split
      · exact ⟨by simp, by simp⟩
      · split <;> exact ⟨by simp, by simp⟩
  · exact ⟨by simp, by simp⟩
theorem segT_short {l : List UInt8} (hl : l.length ≤ 256) (sg : List (Nat × Nat)) (i : Nat) : (segT l sg i).length ≤ 1024 := by
  unfold segT
  split
  · unfold seg; simp; omega
  · simp
theorem short_end {l : List UInt8} {a : Nat} {p : PartL} {z r : Int} (hp : PShort p) : PShort (endP l a p z r).1 := by
  have h0 : PShort partN := ⟨by simp [partN], by simp [partN], by simp [partN], ⟨by simp [partN], by simp [partN]⟩, by simp [partN]⟩
  unfold endP
  split
  · exact h0
  · split
    · exact h0
    · exact hp
theorem rp_short {l : List UInt8} {a : Nat} (ha : a ≤ l.length) (hl : l.length ≤ 256) : PShort (rpL l a).1 := by
  unfold rpL
  cases hg : rnGo l 2 0 (vL l a) [] with
  | error x => exact short_end ⟨by simp [partN], by simp [partN], by simp [partN], ⟨by simp [partN], by simp [partN]⟩, by simp [partN]⟩
  | ok x =>
    have hx := ((rn_le 2 0 _ [] (vL_le ha).1 (Nat.zero_le _)).2 x hg).2
    have hp := pre_short l x.2
    dsimp only
    split
    · exact short_end ⟨segT_short hl _ _, segT_short hl _ _, segT_short hl _ _, ⟨by simp only; omega, fun u hu => by have := hp.2 u hu; omega⟩, by simp⟩
    · exact short_end ⟨segT_short hl _ _, segT_short hl _ _, segT_short hl _ _, ⟨by simp, by simp⟩, by simp only; omega⟩
theorem dash_short {l : List UInt8} {a : Nat} (ha : a ≤ l.length) (hl : l.length ≤ 256) : PShort (dashL l a).1 := by
  unfold dashL
  split
  · exact ⟨by simp [partN], by simp [partN], by simp [partN], ⟨by simp [partN], by simp [partN]⟩, by simp [partN]⟩
  · exact rp_short (blk_le ha) hl
structure GoodI (l : List UInt8) (x : Item) : Prop where
  fn : x.f ∈ fns
  short : PShort x.p
  place : ∃ e : Nat, x.pos = (e : Int) ∧ e ≤ l.length
theorem row_good {l : List UInt8} (hl : l.length ≤ 256) : ∀ (n k a : Nat), a ≤ l.length → ∀ x ∈ rowG l n k a, x.err = 0 → GoodI l x
  | 0, _, _, _, x, h, _ => by cases h
  | n + 1, k, a, ha, x, h, he => by
    have hE : opE l a ≤ l.length := blk_le (op_in ha)
    have hI : (itemL l a).err = 0 → GoodI l (itemL l a) := fun h0 => by
      obtain ⟨e, h1, _, h2⟩ := rp_ok hE h0
      exact ⟨op_fns _ 9 (by omega) (by omega), rp_short hE hl, e, h1, h2⟩
    unfold rowG at h
    split at h
    · cases h
    · split at h
      · simp at h; subst h; cases he
      · split at h
        · simp at h; subst h; exact hI he
        · rename_i h0
          have h0 : (itemL l a).err = 0 := by simpa using h0
          rcases List.mem_cons.1 h with rfl | h
          · exact hI he
          · obtain ⟨e, h1, h2⟩ := (hI h0).place
            rw [h1, Int.toNat_natCast] at h
            exact row_good hl n (k + 1) (blk l e) (blk_le h2) x h he
theorem ft_good {l : List UInt8} (hl : l.length ≤ 256) {p : PartL} {e : Nat} (hp : PShort p) (he : e ≤ l.length) (hd : blk l e + 1 ≤ l.length) : ∀ x ∈ ftL l p e, x.err = 0 → GoodI l x := by
  intro x h h0
  unfold ftL at h
  rcases List.mem_cons.1 h with rfl | h
  · exact ⟨by show 85 ∈ fns; decide, hp, e, rfl, he⟩
  rcases List.mem_cons.1 h with rfl | h
  · obtain ⟨e2, h1, h2⟩ := dash_ok hd h0
    exact ⟨by show 87 ∈ fns; decide, dash_short hd hl, e2, h1, h2⟩
  · split at h
    · simp at h; subst h; cases h0
    · cases h
theorem parts_good {l : List UInt8} (hl : l.length ≤ 256) {a : Nat} (ha : a ≤ l.length) : ∀ x ∈ partsL l a, x.err = 0 → GoodI l x := by
  unfold partsL
  split
  · rename_i hf
    unfold isFrom at hf
    rw [Bool.and_eq_true] at hf
    have hr : (headL l a).2.2 = 0 := by simpa using hf.1
    obtain ⟨e, h1, _, h2⟩ := rp_ok (blk_le ha) hr
    have h1' : (headL l a).2.1 = (e : Int) := h1
    have h45 := hf.2
    rw [h1', Int.toNat_natCast] at h45 ⊢
    have h45 : l[blk l e]? = some 45 := by simpa using h45
    exact ft_good hl (rp_short (blk_le ha) hl) h2 (List.getElem?_eq_some_iff.1 h45).1
  · exact row_good hl 33 0 _ (blk_le ha)

end Go.Proofs.YtpdlgiioahjhiaaGreat

namespace Go.Proofs.YtpdlgiioahjhiaaGreat
open Go.RowKit Go.Shelf
set_option linter.unusedVariables false
variable {A : Nat → Prop}

theorem one6 {W : World} : ∀ {cs : List Comp} {xs : List Value}, CompsC A W cs xs → ∀ u ∈ xs, u.oneCell' = true
  | [], xs, h, u, hu => by cases h; cases hu
  | c :: cs, xs, h, u, hu => by
    obtain ⟨ys, zs, rfl, ⟨vp, vb, rfl, t1, t2, _⟩, h3⟩ := h
    obtain ⟨a1, k1, rfl, _⟩ := t1
    obtain ⟨a2, k2, rfl, _⟩ := t2
    rcases List.mem_append.1 hu with hu | hu
    · simp only [List.mem_cons, List.not_mem_nil, or_false] at hu
      rcases hu with rfl | rfl | rfl | rfl | rfl | rfl <;> rfl
    · exact one6 h3 u hu
theorem infoC : (Tryz.prog.info? 35).map (fun i => (i.zero, i.size, i.bytes)) = some (some (.agg #[.int .i64 0, .string ⟨#[]⟩, .string ⟨#[]⟩, .string ⟨#[]⟩, .slice none 0 0, .slice none 0 0]), 6, 104) := by kernel_rfl
theorem cell_add {w : World} {b j : Nat} {u : Value} (h : w.cell? ⟨b, j, none⟩ = some u) : w.cell? ((⟨b, 0, none⟩ : Addr).add j) = some u := by
  unfold Addr.add
  split
  · rename_i hj; subst hj; exact h
  · simpa using h
theorem app_comps {w0 w : World} {base : Nat} {v : Value} {cs ds : List Comp} {xs : List Value} {e : Ending} (hown : w.ownsRow base 35 6 v cs.length xs) (hc : CompsC A w cs xs)
    (hd : CompsP A w0 ds e w) (hb : base ≤ w.heap.size) (hn : cs.length + ds.length ≤ 1048576) :
    ∃ u, e = .returned u ∧ ∃ v' w' ys, (Builtin.append_ #[39, 39] 39 #[v, u]).run Tryz.prog w = .ok v' w' ∧ w'.ownsRow base 35 6 v' (cs ++ ds).length ys ∧ CompsC A w (cs ++ ds) ys ∧ w.grownBy w' v.ownBlock ∧ (v'.ownBlock = v.ownBlock ∨ v'.ownBlock = some w.heap.size) := by
  obtain ⟨i0, hi, hz0, hz1, hz2⟩ := info_parts infoC
  obtain ⟨_, ⟨rfl, rfl⟩ | ⟨b, ys, rfl, _, hy, hyc⟩⟩ := hd
  · refine ⟨_, rfl, v, w, xs, run_append_owned_none w base 39 39 35 i0 6 Tryz.underlying39 hi v _ xs hown, ?_, ?_, ⟨rfl, rfl, rfl, Nat.le_refl _, fun _ _ _ => rfl⟩, .inl rfl⟩
    · rw [List.append_nil]; exact hown
    · rw [List.append_nil]; exact hc
  · obtain ⟨v', w', h1, h2, h3, _, h4⟩ := run_append_own_at (P := Tryz.prog) (w := w) base 39 39 35 i0 _ 6 104 Tryz.underlying39 hi hz0 hz1 hz2 rfl (by decide) v cs.length xs hown ⟨b, 0, none⟩ ds.length ds.length ys hyc.len
      (fun j u hu => cell_add (cell_at j hy (by rw [List.getElem?_toArray]; exact hu))) (one6 hyc) (by unfold maxLen; omega) (by omega) hb
    exact ⟨_, rfl, v', w', xs ++ ys, h1, by rw [List.length_append]; exact h2, hc.app hyc, h3, h4⟩

end Go.Proofs.YtpdlgiioahjhiaaGreat

namespace Go.Proofs.YtpdlgiioahjhiaaGreat
open Go.RowKit Go.Shelf
set_option linter.unusedVariables false

def cmpO (op n : Int) : Bool := if op = 1 then decide (n < 0) else if op = 2 then decide (n ≤ 0) else if op = 3 then decide (0 < n) else if op = 4 then decide (0 ≤ n) else if op = 5 then (n == 0) else false
def holdsL (c : Comp) (y : SemL) : Bool := fitW c.2 && fitW y && cmpO c.1 (ordW y c.2)
structure HB (w W : World) (op : Int) (x y : SemL) (a1 a2 a3 a4 : Option Addr) (k1 k2 k3 k4 : Nat) : Prop where
  c : W.heap[w.heap.size]? = some (.cells #[.int .i64 op, .string (ofL x.maj), .string (ofL x.min), .string (ofL x.pat), .slice a1 x.pre.length k1, .slice a2 x.bld.length k2] 35 (0, 0))
  v : W.heap[w.heap.size + 1]? = some (.cells #[.string (ofL y.maj), .string (ofL y.min), .string (ofL y.pat), .slice a3 y.pre.length k3, .slice a4 y.bld.length k4] 33 (0, 0))
theorem HB.below {w W : World} {op : Int} {x y : SemL} {a1 a2 a3 a4 : Option Addr} {k1 k2 k3 k4 : Nat} {W' : World} (h : HB w W op x y a1 a2 a3 a4 k1 k2 k3 k4) (hb : Below W.heap.size W W') : HB w W' op x y a1 a2 a3 a4 k1 k2 k3 k4 :=
  ⟨(hb.block _ (Array.getElem?_eq_some_iff.1 h.c).1).trans h.c, (hb.block _ (Array.getElem?_eq_some_iff.1 h.v).1).trans h.v⟩
theorem HB.seen {w W : World} {op : Int} {x y : SemL} {a1 a2 a3 a4 : Option Addr} {k1 k2 k3 k4 : Nat} (h : HB w W op x y a1 a2 a3 a4 k1 k2 k3 k4) : W.cell? ⟨w.heap.size, 0, none⟩ = some (.int .i64 op) ∧ W.cell? ⟨w.heap.size, 1, none⟩ = some (.string (ofL x.maj)) ∧ W.cell? ⟨w.heap.size, 2, none⟩ = some (.string (ofL x.min)) ∧ W.cell? ⟨w.heap.size, 3, none⟩ = some (.string (ofL x.pat)) ∧ W.cell? ⟨w.heap.size, 4, none⟩ = some (.slice a1 x.pre.length k1) ∧ W.cell? ⟨w.heap.size, 5, none⟩ = some (.slice a2 x.bld.length k2) ∧ W.cell? ⟨w.heap.size + 1, 0, none⟩ = some (.string (ofL y.maj)) ∧ W.cell? ⟨w.heap.size + 1, 1, none⟩ = some (.string (ofL y.min)) ∧ W.cell? ⟨w.heap.size + 1, 2, none⟩ = some (.string (ofL y.pat)) ∧ W.cell? ⟨w.heap.size + 1, 3, none⟩ = some (.slice a3 y.pre.length k3) ∧ W.cell? ⟨w.heap.size + 1, 4, none⟩ = some (.slice a4 y.bld.length k4) :=
  ⟨cell_at 0 h.c rfl, cell_at 1 h.c rfl, cell_at 2 h.c rfl, cell_at 3 h.c rfl, cell_at 4 h.c rfl, cell_at 5 h.c rfl, cell_at 0 h.v rfl, cell_at 1 h.v rfl, cell_at 2 h.v rfl, cell_at 3 h.v rfl, cell_at 4 h.v rfl⟩

set_option maxRecDepth 100000 in
set_option maxHeartbeats 4000000 in
theorem Holds_any (op : Int) (x y : SemL) (vp vb : Value) (u : Value) (w : World) (t1 : Txt w vp x.pre) (t2 : Txt w vb x.bld) (hu : SemAt w u y) (sx : ShortS x) (sy : ShortS y) :
    Calls Tryz.prog 15 #[.agg #[.int .i64 op, .string (ofL x.maj), .string (ofL x.min), .string (ofL x.pat), vp, vb], u] w fun e w' => e = .returned (.bool (holdsL (op, x) y)) ∧ Below w.heap.size w w' := by
  obtain ⟨a1, k1, rfl, _⟩ := id t1
  obtain ⟨a2, k2, rfl, _⟩ := id t2
  obtain ⟨vq, vc, rfl, t3, t4⟩ := hu
  obtain ⟨a3, k3, rfl, _⟩ := id t3
  obtain ⟨a4, k4, rfl, _⟩ := id t4
  have FX := hide (fun W (hW : Below w.heap.size w W) => Fit_any (.agg #[.string (ofL x.maj), .string (ofL x.min), .string (ofL x.pat), .slice a1 x.pre.length k1, .slice a2 x.bld.length k2]) x W ⟨_, _, rfl, t1.below hW, t2.below hW⟩ sx)
  have FY := hide (fun W (hW : Below w.heap.size w W) => Fit_any (.agg #[.string (ofL y.maj), .string (ofL y.min), .string (ofL y.pat), .slice a3 y.pre.length k3, .slice a4 y.bld.length k4]) y W ⟨_, _, rfl, t3.below hW, t4.below hW⟩ sy)
  have OO := hide (fun W (hW : Below w.heap.size w W) => Order_any (.agg #[.string (ofL y.maj), .string (ofL y.min), .string (ofL y.pat), .slice a3 y.pre.length k3, .slice a4 y.bld.length k4]) (.agg #[.string (ofL x.maj), .string (ofL x.min), .string (ofL x.pat), .slice a1 x.pre.length k1, .slice a2 x.bld.length k2]) y x W ⟨_, _, rfl, t3.below hW, t4.below hW⟩ ⟨_, _, rfl, t1.below hW, t2.below hW⟩ sy sx)
  have hH : holdsL (op, x) y = (fitW x && fitW y && cmpO op (ordW y x)) := rfl
  generalize holdsL (op, x) y = R at *
  generalize fitW x = fx at *
  generalize fitW y = fy at *
  generalize ordW y x = n at *
  generalize hc : cmpO op n = cc at *
  have HC := hide hc
  clear hc
  have B0 : HB w ((w.alloc (.cells #[.int .i64 op, .string (ofL x.maj), .string (ofL x.min), .string (ofL x.pat), .slice a1 x.pre.length k1, .slice a2 x.bld.length k2] 35)).alloc (.cells #[.string (ofL y.maj), .string (ofL y.min), .string (ofL y.pat), .slice a3 y.pre.length k3, .slice a4 y.bld.length k4] 33)) op x y a1 a2 a3 a4 k1 k2 k3 k4 := ⟨heap_b0 w _ _, heap_b1 w _ _⟩
  have b0 := below_a2 w (.cells #[.int .i64 op, .string (ofL x.maj), .string (ofL x.min), .string (ofL x.pat), .slice a1 x.pre.length k1, .slice a2 x.bld.length k2] 35) (.cells #[.string (ofL y.maj), .string (ofL y.min), .string (ofL y.pat), .slice a3 y.pre.length k3, .slice a4 y.bld.length k4] 33)
  clear t1 t2 t3 t4 sx sy
  subst hH
  go_enter Tryz.func15, Tryz.ntmps15
  go_wp2_with fail
  generalize (w.alloc _).alloc _ = W0 at *
  refine (FX.out _ b0).mono ?_
  rintro e w1 ⟨rfl, h1⟩
  have B1 := B0.below h1
  have hb1 := b0.trans (h1.mono b0.size)
  clear B0 b0 h1
  cases fx
  · go_wp2_with fail
    go_ret
    exact ⟨rfl, hb1⟩
  obtain ⟨g0, g1, g2, g3, g4, g5, g6, g7, g8, g9, g10⟩ := B1.seen
  try dsimp only
  go_wp2_with fail
  refine (FY.out _ hb1).mono ?_
  rintro e w2 ⟨rfl, h2⟩
  have B2 := B1.below h2
  have hb2 := hb1.trans (h2.mono hb1.size)
  clear B1 hb1 h2 g0 g1 g2 g3 g4 g5 g6 g7 g8 g9 g10
  cases fy
  · go_wp2_with fail
    go_ret
    exact ⟨rfl, hb2⟩
  obtain ⟨g0, g1, g2, g3, g4, g5, g6, g7, g8, g9, g10⟩ := B2.seen
  try dsimp only
  go_wp2_with fail
  refine (OO.out _ hb2).mono ?_
  rintro e w3 ⟨rfl, h3⟩
  have B3 := B2.below h3
  have hb3 := hb2.trans (h3.mono hb2.size)
  clear B2 hb2 h3 g0 g1 g2 g3 g4 g5 g6 g7 g8 g9 g10
  obtain ⟨g0, g1, g2, g3, g4, g5, g6, g7, g8, g9, g10⟩ := B3.seen
  clear B3
  try dsimp only
  by_cases o1 : op = 1
  · have HO : cmpO op n = decide (n < 0) := if_pos o1
    have HP := HC.out.symm.trans HO
    clear HC HO
    subst HP
    subst o1
    go_wp2_with fail
    go_ret
    refine ⟨?_, hb3⟩
    generalize decide (n < 0) = q
    simp only [Bool.true_and]
    exact rfl
  have p1 : (op == 1) = false := by simpa using o1
  by_cases o2 : op = 2
  · have HO : cmpO op n = decide (n ≤ 0) := (if_neg o1).trans (if_pos o2)
    have HP := HC.out.symm.trans HO
    clear HC HO
    subst HP
    subst o2
    go_wp2_with fail
    go_ret
    refine ⟨?_, hb3⟩
    generalize decide (n ≤ 0) = q
    simp only [Bool.true_and]
    exact rfl
  have p2 : (op == 2) = false := by simpa using o2
  by_cases o3 : op = 3
  · have HO : cmpO op n = decide (0 < n) := (if_neg o1).trans ((if_neg o2).trans (if_pos o3))
    have HP := HC.out.symm.trans HO
    clear HC HO
    subst HP
    subst o3
    go_wp2_with fail
    go_ret
    refine ⟨?_, hb3⟩
    generalize decide (0 < n) = q
    simp only [Bool.true_and]
    exact rfl
  have p3 : (op == 3) = false := by simpa using o3
  by_cases o4 : op = 4
  · have HO : cmpO op n = decide (0 ≤ n) := (if_neg o1).trans ((if_neg o2).trans ((if_neg o3).trans (if_pos o4)))
    have HP := HC.out.symm.trans HO
    clear HC HO
    subst HP
    subst o4
    go_wp2_with fail
    go_ret
    refine ⟨?_, hb3⟩
    generalize decide (0 ≤ n) = q
    simp only [Bool.true_and]
    exact rfl
  have p4 : (op == 4) = false := by simpa using o4
  by_cases o5 : op = 5
  · have HO : cmpO op n = (n == 0) := (if_neg o1).trans ((if_neg o2).trans ((if_neg o3).trans ((if_neg o4).trans (if_pos o5))))
    have HP := HC.out.symm.trans HO
    clear HC HO
    subst HP
    subst o5
    go_wp2_with fail
    go_ret
    refine ⟨?_, hb3⟩
    generalize (n == 0) = q
    simp only [Bool.true_and]
    exact rfl
  have p5 : (op == 5) = false := by simpa using o5
  have HO : cmpO op n = false := (if_neg o1).trans ((if_neg o2).trans ((if_neg o3).trans ((if_neg o4).trans (if_neg o5))))
  have HP := HC.out.symm.trans HO
  clear HC HO
  subst HP
  clear o1 o2 o3 o4 o5
  go_wp2_with fail
  go_ret
  exact ⟨rfl, hb3⟩

end Go.Proofs.YtpdlgiioahjhiaaGreat

namespace Go.Proofs.YtpdlgiioahjhiaaGreat
open Go.RowKit Go.Shelf
set_option linter.unusedVariables false

def sameL (x y : SemL) : Bool := x.maj == y.maj && x.min == y.min && x.pat == y.pat
theorem ofL_toL (l : List UInt8) : (ofL l).toList = l := by rw [toL, ofL_data]
theorem same_t {x y : SemL} {q : Bool} (h : (ofL x.maj).toList = (ofL y.maj).toList) (g : (ofL x.min).toList = (ofL y.min).toList) (hq : ((ofL x.pat).toList == (ofL y.pat).toList) = q) : sameL x y = q := by
  rw [ofL_toL, ofL_toL] at h g
  rw [ofL_toL, ofL_toL] at hq
  unfold sameL
  rw [h, g, hq, beq_self_eq_true, beq_self_eq_true]
  rfl
theorem same_f {x y : SemL} (g : ¬ (ofL x.min).toList = (ofL y.min).toList) : sameL x y = false := by
  rw [ofL_toL, ofL_toL] at g
  unfold sameL
  rw [beq_eq_false_iff_ne.2 g, Bool.and_false]
  rfl
theorem same_e {x y : SemL} (g : ¬ (ofL x.maj).toList = (ofL y.maj).toList) : sameL x y = false := by
  rw [ofL_toL, ofL_toL] at g
  unfold sameL
  rw [beq_eq_false_iff_ne.2 g]
  rfl

set_option maxRecDepth 100000 in
set_option maxHeartbeats 4000000 in
theorem sameNumbers_any (x y : SemL) (u v : Value) (w : World) (hu : SemAt w u x) (hv : SemAt w v y) :
    Calls Tryz.prog 37 #[u, v] w fun e w' => e = .returned (.bool (sameL x y)) ∧ Below w.heap.size w w' := by
  obtain ⟨vp, vb, rfl, t1, t2⟩ := hu
  obtain ⟨a1, k1, rfl, _⟩ := id t1
  obtain ⟨a2, k2, rfl, _⟩ := id t2
  obtain ⟨vq, vc, rfl, t3, t4⟩ := hv
  obtain ⟨a3, k3, rfl, _⟩ := id t3
  obtain ⟨a4, k4, rfl, _⟩ := id t4
  clear t1 t2 t3 t4
  have b0 := below_a2 w (.cells #[.string (ofL x.maj), .string (ofL x.min), .string (ofL x.pat), .slice a1 x.pre.length k1, .slice a2 x.bld.length k2] 33) (.cells #[.string (ofL y.maj), .string (ofL y.min), .string (ofL y.pat), .slice a3 y.pre.length k3, .slice a4 y.bld.length k4] 33)
  go_enter Tryz.func37, Tryz.ntmps37
  go_wp2_with fail
  · rename_i h g
    generalize hq : ((ofL x.pat).toList == (ofL y.pat).toList) = q at *
    rw [same_t h g hq]
    go_ret
    exact ⟨rfl, b0⟩
  · rename_i h g
    rw [same_f g]
    go_ret
    exact ⟨rfl, b0⟩
  · rename_i g
    rw [same_e g]
    go_ret
    exact ⟨rfl, b0⟩

end Go.Proofs.YtpdlgiioahjhiaaGreat

namespace Go.Proofs.YtpdlgiioahjhiaaGreat
open Go.RowKit Go.Shelf
set_option linter.unusedVariables false

def signL (op : Int) : ByteArray × Bool := if op = 1 then (ofL [60], true) else if op = 2 then (ofL [60, 61], true) else if op = 3 then (ofL [62], true) else if op = 4 then (ofL [62, 61], true) else if op = 5 then (ofL [], true) else (ofL [], false)

set_option maxRecDepth 100000 in
set_option maxHeartbeats 4000000 in
theorem sign_any (op : Int) (w : World) :
    Calls Tryz.prog 61 #[.int .i64 op] w fun e w' => e = .returned (.tuple #[.string (signL op).1, .bool (signL op).2]) ∧ w' = w := by
  by_cases o1 : op = 1
  · have HO : signL op = (ofL [60], true) := if_pos o1
    rw [HO]
    subst o1
    clear HO
    go_enter Tryz.func61, Tryz.ntmps61
    go_wp2_with fail
    go_ret2
    exact ⟨rfl, rfl⟩
  have p1 : (op == 1) = false := by simpa using o1
  by_cases o2 : op = 2
  · have HO : signL op = (ofL [60, 61], true) := (if_neg o1).trans (if_pos o2)
    rw [HO]
    subst o2
    clear HO
    go_enter Tryz.func61, Tryz.ntmps61
    go_wp2_with fail
    go_ret2
    exact ⟨rfl, rfl⟩
  have p2 : (op == 2) = false := by simpa using o2
  by_cases o3 : op = 3
  · have HO : signL op = (ofL [62], true) := (if_neg o1).trans ((if_neg o2).trans (if_pos o3))
    rw [HO]
    subst o3
    clear HO
    go_enter Tryz.func61, Tryz.ntmps61
    go_wp2_with fail
    go_ret2
    exact ⟨rfl, rfl⟩
  have p3 : (op == 3) = false := by simpa using o3
  by_cases o4 : op = 4
  · have HO : signL op = (ofL [62, 61], true) := (if_neg o1).trans ((if_neg o2).trans ((if_neg o3).trans (if_pos o4)))
    rw [HO]
    subst o4
    clear HO
    go_enter Tryz.func61, Tryz.ntmps61
    go_wp2_with fail
    go_ret2
    exact ⟨rfl, rfl⟩
  have p4 : (op == 4) = false := by simpa using o4
  by_cases o5 : op = 5
  · have HO : signL op = (ofL [], true) := (if_neg o1).trans ((if_neg o2).trans ((if_neg o3).trans ((if_neg o4).trans (if_pos o5))))
    rw [HO]
    subst o5
    clear HO
    go_enter Tryz.func61, Tryz.ntmps61
    go_wp2_with fail
    go_ret2
    exact ⟨rfl, rfl⟩
  have p5 : (op == 5) = false := by simpa using o5
  have HO : signL op = (ofL [], false) := (if_neg o1).trans ((if_neg o2).trans ((if_neg o3).trans ((if_neg o4).trans (if_neg o5))))
  rw [HO]
  clear HO o1 o2 o3 o4 o5
  go_enter Tryz.func61, Tryz.ntmps61
  go_wp2_with fail
  go_ret2
  exact ⟨rfl, rfl⟩

end Go.Proofs.YtpdlgiioahjhiaaGreat

namespace Go.Proofs.YtpdlgiioahjhiaaGreat
open Go.RowKit Go.Shelf
set_option linter.unusedVariables false

def CompAt (W : World) (b o : Nat) (c : Comp) : Prop :=
  ∃ vp vb, W.cell? ⟨b, o, none⟩ = some (.int .i64 c.1) ∧ W.cell? ⟨b, o + 1, none⟩ = some (.string (ofL c.2.maj)) ∧ W.cell? ⟨b, o + 2, none⟩ = some (.string (ofL c.2.min)) ∧ W.cell? ⟨b, o + 3, none⟩ = some (.string (ofL c.2.pat)) ∧ W.cell? ⟨b, o + 4, none⟩ = some (vp) ∧ W.cell? ⟨b, o + 5, none⟩ = some (vb) ∧ Txt W vp c.2.pre ∧ Txt W vb c.2.bld ∧ Cap vp ∧ Cap vb
theorem CompAt.below {W W' : World} {b o : Nat} {c : Comp} (hl : b < W.heap.size) (h : CompAt W b o c) (hb : Below W.heap.size W W') : CompAt W' b o c := by
  obtain ⟨vp, vb, h0, h1, h2, h3, h4, h5, t1, t2, cp⟩ := h
  exact ⟨vp, vb, (hb.cell hl).trans h0, (hb.cell hl).trans h1, (hb.cell hl).trans h2, (hb.cell hl).trans h3, (hb.cell hl).trans h4, (hb.cell hl).trans h5, t1.below hb, t2.below hb, cp⟩
def CompsAt (W : World) (v : Value) (cs : List Comp) : Prop :=
  ∃ a k, v = .slice a cs.length k ∧ (cs = [] ∨ ∃ b o, a = some ⟨b, o, none⟩ ∧ b < W.heap.size ∧ ∀ i (h : i < cs.length), CompAt W b (o + i * 6) cs[i])
theorem CompsAt.below {W W' : World} {v : Value} {cs : List Comp} (h : CompsAt W v cs) (hb : Below W.heap.size W W') : CompsAt W' v cs := by
  obtain ⟨a, k, rfl, h | ⟨b, o, rfl, hl, h⟩⟩ := h
  · exact ⟨a, k, rfl, .inl h⟩
  · exact ⟨_, k, rfl, .inr ⟨b, o, rfl, Nat.lt_of_lt_of_le hl hb.size, fun i hi => (h i hi).below hl hb⟩⟩
def setL (cs : List Comp) (y : SemL) : Bool :=
  fitW y && cs.all (fun c => holdsL c y) && (y.pre.isEmpty || cs.any (fun c => !c.2.pre.isEmpty && sameL c.2 y))

def SetsAt (W : World) (v : Value) (l : List (List Comp)) : Prop :=
  ∃ a k, v = .slice a l.length k ∧ (l = [] ∨ ∃ b o, a = some ⟨b, o, none⟩ ∧ b < W.heap.size ∧ ∀ i (h : i < l.length), ∃ u, W.cell? ⟨b, o + i, none⟩ = some u ∧ CompsAt W u l[i])
theorem SetsAt.below {W W' : World} {v : Value} {l : List (List Comp)} (h : SetsAt W v l) (hb : Below W.heap.size W W') : SetsAt W' v l := by
  obtain ⟨a, k, rfl, h | ⟨b, o, rfl, hl, h⟩⟩ := h
  · exact ⟨a, k, rfl, .inl h⟩
  · refine ⟨_, k, rfl, .inr ⟨b, o, rfl, Nat.lt_of_lt_of_le hl hb.size, fun i hi => ?_⟩⟩
    obtain ⟨u, h1, h2⟩ := h i hi
    exact ⟨u, (hb.cell hl).trans h1, h2.below hb⟩

end Go.Proofs.YtpdlgiioahjhiaaGreat

namespace Go.Proofs.YtpdlgiioahjhiaaGreat
open Go.RowKit Go.Shelf
set_option linter.unusedVariables false
variable {A A' : Nat → Prop}

def Keep (A : Nat → Prop) (W W' : World) : Prop :=
  W.heap.size ≤ W'.heap.size ∧ ∀ (b : Nat) (cs : Array Value) (t : TypeId) (m : Nat × Nat), A b → W.heap[b]? = some (.cells cs t m) → W'.heap[b]? = some (.cells cs t m)
theorem cell_keep {W W' : World} {b o : Nat} {u : Value} (h : W.cell? ⟨b, o, none⟩ = some u) (hk : Keep A W W') (hA : A b) : W'.cell? ⟨b, o, none⟩ = some u := by
  unfold World.cell? at h ⊢
  cases hb : W.heap[b]? with
  | none => simp only [hb] at h; cases h
  | some ob =>
    cases ob with
    | cells cs t m =>
      simp only [hb] at h
      simp only [hk.2 b cs t m hA hb]
      exact h
    | _ => simp only [hb] at h; cases h
theorem cap_block {W : World} {v : Value} {ts : List (List UInt8)} (h : Txt W v ts) (hc : CapA A v) : ts = [] ∨ ∃ cap b off, v = .slice (some ⟨b, off, none⟩) ts.length cap ∧ b < W.heap.size ∧ A b ∧ ∀ i (h : i < ts.length), W.cell? ⟨b, off + i, none⟩ = some (.string (ofL ts[i])) := by
  obtain ⟨a, cap, hv, h0 | ⟨b, off, ha, hlt, hcl⟩⟩ := h
  · exact .inl h0
  · rcases hc.2 _ _ _ (by rw [hv, ha]) with h | h
    · exact .inl (List.length_eq_zero_iff.1 h)
    · exact .inr ⟨cap, b, off, by rw [hv, ha], hlt, h, hcl⟩
theorem txt_keep {W W' : World} {v : Value} {ts : List (List UInt8)} (h : Txt W v ts) (hc : CapA A v) (hk : Keep A W W') : Txt W' v ts := by
  rcases cap_block h hc with rfl | ⟨cap, b, off, rfl, hlt, hA, hcl⟩
  · exact txt_nil' h
  · exact ⟨_, cap, rfl, .inr ⟨b, off, rfl, Nat.lt_of_lt_of_le hlt hk.1, fun i hi => cell_keep (hcl i hi) hk hA⟩⟩
theorem cap_to {W : World} {v : Value} {ts : List (List UInt8)} (h : Txt W v ts) (hc : CapA A v) (hA : ∀ b, A b → b < W.heap.size → A' b) : CapA A' v := by
  rcases cap_block h hc with rfl | ⟨cap, b, off, rfl, hlt, hb, hcl⟩
  · exact capZ h
  · exact ⟨hc.1, fun p n c e => by cases e; exact .inr (hA b hb hlt)⟩
theorem CompsC.keep {W W' : World} (hk : Keep A W W') (hA : ∀ b, A b → b < W.heap.size → A' b) : ∀ {cs : List Comp} {xs : List Value}, CompsC A W cs xs → CompsC A' W' cs xs
  | [], _, h => h
  | c :: cs, xs, h => by
    obtain ⟨ys, zs, h1, ⟨vp, vb, h2, t1, t2, c1, c2⟩, h3⟩ := h
    exact ⟨ys, zs, h1, ⟨vp, vb, h2, txt_keep t1 c1 hk, txt_keep t2 c2 hk, cap_to t1 c1 hA, cap_to t2 c2 hA⟩, CompsC.keep hk hA h3⟩
theorem CompsC.at_ {W : World} {g : Nat} : ∀ {cs : List Comp} {xs : List Value} (o : Nat), CompsC A W cs xs → (∀ j u, xs[j]? = some u → W.cell? ⟨g, o + j, none⟩ = some u) → ∀ i (h : i < cs.length), CompAt W g (o + i * 6) cs[i]
  | [], _, _, _, _, i, h => by cases h
  | c :: cs, xs, o, h, hx, i, hi => by
    obtain ⟨ys, zs, rfl, ⟨vp, vb, rfl, t1, t2, c1, c2⟩, h3⟩ := h
    match i with
    | 0 =>
      refine ⟨vp, vb, ?_, ?_, ?_, ?_, ?_, ?_, t1, t2, c1.1, c2.1⟩
      · exact hx 0 _ rfl
      · exact hx 1 _ rfl
      · exact hx 2 _ rfl
      · exact hx 3 _ rfl
      · exact hx 4 _ rfl
      · exact hx 5 _ rfl
    | i + 1 =>
      have := CompsC.at_ (o + 6) h3 (fun j u hj => by
        have := hx (6 + j) u (by rw [List.getElem?_append_right (by simp)]; simpa using hj)
        rwa [← Nat.add_assoc] at this) i (by simpa using hi)
      rw [show o + (i + 1) * 6 = o + 6 + i * 6 by omega]
      exact this

def SetO (A : Nat → Prop) (W : World) (u : Value) (cs : List Comp) : Prop := ∃ xs, W.ownsRow 0 35 6 u cs.length xs ∧ (∀ g, u.ownBlock = some g → A g) ∧ CompsC A W cs xs
theorem own_keep {W W' : World} {base : Nat} {e : TypeId} {size : Nat} {v : Value} {n : Nat} {xs : List Value} (h : W.ownsRow base e size v n xs) (hk : Keep A W W') (hA : ∀ g, v.ownBlock = some g → A g) : W'.ownsRow base e size v n xs := by
  refine ⟨h.1, ?_⟩
  rcases h.2 with h2 | ⟨g, cap, cur, hv, hg, hh, r⟩
  · exact .inl h2
  · exact .inr ⟨g, cap, cur, hv, hg, hk.2 g _ _ _ (hA g (by rw [hv]; rfl)) hh, r⟩
theorem own_lt {W : World} {base : Nat} {e : TypeId} {size : Nat} {v : Value} {n : Nat} {xs : List Value} (h : W.ownsRow base e size v n xs) : ∀ g, v.ownBlock = some g → base ≤ g ∧ g < W.heap.size := by
  intro g hg
  rcases h.2 with ⟨rfl, _⟩ | ⟨g', cap, cur, rfl, hb, hh, r⟩
  · cases hg
  · simp only [Value.ownBlock, Option.some.injEq] at hg
    subst hg
    exact ⟨hb, (Array.getElem?_eq_some_iff.1 hh).1⟩
theorem own_cells {W : World} {base : Nat} {e : TypeId} {size : Nat} {v : Value} {n : Nat} {xs : List Value} (h : W.ownsRow base e size v n xs) :
    ∃ a c, v = .slice a n c ∧ (n = 0 ∨ ∃ g, a = some ⟨g, 0, none⟩ ∧ g < W.heap.size ∧ ∀ j u, xs[j]? = some u → W.cell? ⟨g, 0 + j, none⟩ = some u) := by
  rcases h.2 with ⟨rfl, h0⟩ | ⟨g, cap, cur, rfl, hb, hh, _, _, _, ht⟩
  · exact ⟨none, 0, by rw [h0], .inl h0⟩
  · refine ⟨_, cap, rfl, .inr ⟨g, rfl, (Array.getElem?_eq_some_iff.1 hh).1, fun j u hj => ?_⟩⟩
    rw [← ht] at hj
    rw [List.getElem?_take] at hj
    split at hj
    · exact cell_at (0 + j) hh (by rw [Nat.zero_add]; simpa using hj)
    · cases hj
theorem SetO.keep {W W' : World} {u : Value} {cs : List Comp} (h : SetO A W u cs) (hk : Keep A W W') (hA : ∀ b, A b → b < W.heap.size → A' b) : SetO A' W' u cs := by
  obtain ⟨xs, h1, h2, h3⟩ := h
  exact ⟨xs, own_keep h1 hk h2, fun g hg => hA g (h2 g hg) (own_lt h1 g hg).2, h3.keep hk hA⟩
theorem SetO.at_ {W : World} {u : Value} {cs : List Comp} (h : SetO A W u cs) : CompsAt W u cs := by
  obtain ⟨xs, h1, _, h3⟩ := h
  obtain ⟨a, c, rfl, h0 | ⟨g, rfl, hg, hc⟩⟩ := own_cells h1
  · exact ⟨a, c, rfl, .inl (List.length_eq_zero_iff.1 h0)⟩
  · exact ⟨_, c, rfl, .inr ⟨g, 0, rfl, hg, h3.at_ 0 hc⟩⟩
def SetsO (lo : Nat) (W : World) (v : Value) (l : List (List Comp)) : Prop :=
  ∃ us, W.ownsRow lo 39 1 v l.length us ∧ ∀ i (h : i < l.length), ∃ u, us[i]? = some u ∧ SetO (fun b => lo ≤ b ∧ v.ownBlock ≠ some b) W u l[i]
theorem SetsO.keep {lo : Nat} {W W' : World} {v : Value} {l : List (List Comp)} (h : SetsO lo W v l) (hk : Keep (fun b => lo ≤ b) W W') : SetsO lo W' v l := by
  obtain ⟨us, h1, h2⟩ := h
  refine ⟨us, own_keep h1 hk (fun g hg => (own_lt h1 g hg).1), fun i hi => ?_⟩
  obtain ⟨u, h3, h4⟩ := h2 i hi
  exact ⟨u, h3, h4.keep ⟨hk.1, fun b cs t m hb => hk.2 b cs t m hb.1⟩ (fun b hb _ => hb)⟩
theorem SetsO.at_ {lo : Nat} {W : World} {v : Value} {l : List (List Comp)} (h : SetsO lo W v l) : SetsAt W v l := by
  obtain ⟨us, h1, h2⟩ := h
  obtain ⟨a, c, rfl, h0 | ⟨g, rfl, hg, hc⟩⟩ := own_cells h1
  · exact ⟨a, c, rfl, .inl (List.length_eq_zero_iff.1 h0)⟩
  · refine ⟨_, c, rfl, .inr ⟨g, 0, rfl, hg, fun i hi => ?_⟩⟩
    obtain ⟨u, h3, h4⟩ := h2 i hi
    exact ⟨u, hc i u h3, h4.at_⟩
theorem SetsO.snoc {lo : Nat} {W W' : World} {v v' u : Value} {l : List (List Comp)} {cs : List Comp} {us : List Value} (h1 : W.ownsRow lo 39 1 v l.length us)
    (h2 : ∀ i (h : i < l.length), ∃ u, us[i]? = some u ∧ SetO (fun b => lo ≤ b ∧ v.ownBlock ≠ some b) W u l[i]) (hu : SetO (fun b => lo ≤ b ∧ v.ownBlock ≠ some b) W u cs)
    (h3 : W'.ownsRow lo 39 1 v' (l.length + 1) (us ++ [u])) (hg : W.grownBy W' v.ownBlock) (hp : v'.ownBlock = v.ownBlock ∨ v'.ownBlock = some W.heap.size) : SetsO lo W' v' (l ++ [cs]) := by
  have hk : Keep (fun b => lo ≤ b ∧ v.ownBlock ≠ some b) W W' := ⟨hg.size, fun b cs t m hb hh => (hg.block b (Array.getElem?_eq_some_iff.1 hh).1 hb.2.symm).trans hh⟩
  have hA : ∀ b, (lo ≤ b ∧ v.ownBlock ≠ some b) → b < W.heap.size → (lo ≤ b ∧ v'.ownBlock ≠ some b) := by
    rintro b ⟨hb1, hb2⟩ hb3
    refine ⟨hb1, ?_⟩
    rcases hp with hp | hp
    · rw [hp]; exact hb2
    · rw [hp]; intro e; simp only [Option.some.injEq] at e; omega
  have hul : us.length = l.length := by have := h1.1; omega
  refine ⟨us ++ [u], by rw [List.length_append]; exact h3, fun i hi => ?_⟩
  by_cases hil : i < l.length
  · obtain ⟨x, h4, h5⟩ := h2 i hil
    refine ⟨x, by rw [List.getElem?_append_left (by omega)]; exact h4, ?_⟩
    rw [List.getElem_append_left hil]
    exact h5.keep hk hA
  · have hi' : i = l.length := by simp at hi; omega
    subst hi'
    refine ⟨u, by rw [List.getElem?_append_right (by omega), hul, Nat.sub_self]; rfl, ?_⟩
    rw [List.getElem_append_right (Nat.le_refl _)]
    simp only [Nat.sub_self, List.getElem_cons_zero]
    exact hu.keep hk hA

section
variable {F : Fence} {n : Nat} {P : Program} {ops : Array Oper} {Q : Exit → Act → World → Prop}
theorem stepIn_append_run {o : Oper} {a : Act} {w w' : World} {K : Act → World → Prop} {E : Prop} (hg : o.guard = none) (s x : Operand) (t : TypeId)
    (hop : o.op = Op.call { callee := Callee.builtin Builtin.append, args := #[s, x], argTypes := #[t, t] }) (v u v' : Value) (hs : a.eval s = v) (hx : a.eval x = u)
    (hrun : (Builtin.append_ #[t, t] o.type #[v, u]).run P w = .ok v' w') (hK : K (a.put o.dst v') w') :
    if Region.wanted o (yielded ops a.tmps) = true then Oper.wpIn F n P o a w K Q else E := by
  have hw : Region.wanted o (yielded ops a.tmps) = true := by simp [Region.wanted, hg]
  rw [if_pos hw]
  unfold Oper.wpIn
  refine ⟨?_, ?_⟩
  · simp [Oper.about, hop, resolve, Target.leads, Sem.run_pure]
  · rw [Oper.semAt_plain F _ _ (by rw [hop]; intro c hc'; cases hc')]
    simp [execOp, hop, resolve, invoke, builtin, hs, hx, hrun, Result.andThen]
    exact hK
end

theorem mean_len (f : Nat) (p : PartL) : (meanL f p).length ≤ 2 := by
  unfold meanL equalL lessL upToL moreL fromL tildeL caretL withL noneL
  repeat' split
  all_goals simp
theorem row_len (l : List UInt8) : ∀ (n k a : Nat), (rowG l n k a).length ≤ n
  | 0, _, _ => Nat.le_refl _
  | n + 1, k, a => by
    unfold rowG
    split
    · simp
    · split
      · simp
      · split
        · simp
        · have := row_len l n (k + 1) (blk l (itemL l a).pos.toNat)
          simp; omega
theorem parts_len (l : List UInt8) (a : Nat) : (partsL l a).length ≤ 33 := by
  unfold partsL
  split
  · unfold ftL
    split <;> simp
  · exact row_len l 33 0 _

end Go.Proofs.YtpdlgiioahjhiaaGreat

namespace Go.Proofs.YtpdlgiioahjhiaaGreat
open Go.RowKit Go.Shelf
set_option linter.unusedVariables false

def semO (y : SemL) (a3 a4 : Option Addr) (n3 n4 k3 k4 : Nat) : Obj := .cells #[.string (ofL y.maj), .string (ofL y.min), .string (ofL y.pat), .slice a3 n3 k3, .slice a4 n4 k4] 33 (0, 0)
def compO (op : Int) (x : SemL) (a1 a2 : Option Addr) (n1 n2 k1 k2 : Nat) : Obj := .cells #[.int .i64 op, .string (ofL x.maj), .string (ofL x.min), .string (ofL x.pat), .slice a1 n1 k1, .slice a2 n2 k2] 35 (0, 0)
structure Vb (w : World) (y : SemL) (a3 a4 : Option Addr) (n3 n4 k3 k4 : Nat) (W : World) : Prop where
  bel : Below w.heap.size w W
  box : W.heap[w.heap.size]? = some (semO y a3 a4 n3 n4 k3 k4)
  t3 : Txt W (.slice a3 n3 k3) y.pre
  t4 : Txt W (.slice a4 n4 k4) y.bld
theorem Vb.next {w W W' : World} {y : SemL} {a3 a4 : Option Addr} {n3 n4 k3 k4 : Nat} (h : Vb w y a3 a4 n3 n4 k3 k4 W) (hb : Below W.heap.size W W') : Vb w y a3 a4 n3 n4 k3 k4 W' :=
  ⟨h.bel.trans (hb.mono h.bel.size), (hb.block _ (Array.getElem?_eq_some_iff.1 h.box).1).trans h.box, h.t3.below hb, h.t4.below hb⟩
theorem Vb.sem {w W : World} {y : SemL} {a3 a4 : Option Addr} {n3 n4 k3 k4 : Nat} (h : Vb w y a3 a4 n3 n4 k3 k4 W) : SemAt W (.agg #[.string (ofL y.maj), .string (ofL y.min), .string (ofL y.pat), .slice a3 n3 k3, .slice a4 n4 k4]) y := ⟨_, _, rfl, h.t3, h.t4⟩
theorem Vb.seen {w W : World} {y : SemL} {a3 a4 : Option Addr} {n3 n4 k3 k4 : Nat} (h : Vb w y a3 a4 n3 n4 k3 k4 W) : W.cell? ⟨w.heap.size, 0, none⟩ = some (.string (ofL y.maj)) ∧ W.cell? ⟨w.heap.size, 1, none⟩ = some (.string (ofL y.min)) ∧ W.cell? ⟨w.heap.size, 2, none⟩ = some (.string (ofL y.pat)) ∧ W.cell? ⟨w.heap.size, 3, none⟩ = some (.slice a3 n3 k3) ∧ W.cell? ⟨w.heap.size, 4, none⟩ = some (.slice a4 n4 k4) :=
  ⟨cell_at 0 h.box rfl, cell_at 1 h.box rfl, cell_at 2 h.box rfl, cell_at 3 h.box rfl, cell_at 4 h.box rfl⟩
theorem Vb.start {w : World} {y : SemL} {a3 a4 : Option Addr} {n3 n4 k3 k4 : Nat} (t3 : Txt w (.slice a3 n3 k3) y.pre) (t4 : Txt w (.slice a4 n4 k4) y.bld) : Vb w y a3 a4 n3 n4 k3 k4 (w.alloc (.cells #[.string (ofL y.maj), .string (ofL y.min), .string (ofL y.pat), .slice a3 n3 k3, .slice a4 n4 k4] 33)) := by
  have hb := (Below.refl _ w).alloc (Nat.le_refl _) (.cells #[.string (ofL y.maj), .string (ofL y.min), .string (ofL y.pat), .slice a3 n3 k3, .slice a4 n4 k4] 33)
  exact ⟨hb, World.alloc_heap_new w _, t3.below hb, t4.below hb⟩
structure Cb (K : Nat) (op : Int) (x : SemL) (a1 a2 : Option Addr) (n1 n2 k1 k2 : Nat) (W : World) : Prop where
  box : W.heap[K]? = some (compO op x a1 a2 n1 n2 k1 k2)
  t1 : Txt W (.slice a1 n1 k1) x.pre
  t2 : Txt W (.slice a2 n2 k2) x.bld
theorem Cb.next {W W' : World} {K : Nat} {op : Int} {x : SemL} {a1 a2 : Option Addr} {n1 n2 k1 k2 : Nat} (h : Cb K op x a1 a2 n1 n2 k1 k2 W) (hb : Below W.heap.size W W') : Cb K op x a1 a2 n1 n2 k1 k2 W' :=
  ⟨(hb.block _ (Array.getElem?_eq_some_iff.1 h.box).1).trans h.box, h.t1.below hb, h.t2.below hb⟩
theorem Cb.sem {W : World} {K : Nat} {op : Int} {x : SemL} {a1 a2 : Option Addr} {n1 n2 k1 k2 : Nat} (h : Cb K op x a1 a2 n1 n2 k1 k2 W) : SemAt W (.agg #[.string (ofL x.maj), .string (ofL x.min), .string (ofL x.pat), .slice a1 n1 k1, .slice a2 n2 k2]) x := ⟨_, _, rfl, h.t1, h.t2⟩
theorem Cb.seen {W : World} {K : Nat} {op : Int} {x : SemL} {a1 a2 : Option Addr} {n1 n2 k1 k2 : Nat} (h : Cb K op x a1 a2 n1 n2 k1 k2 W) : W.cell? ⟨K, 0, none⟩ = some (.int .i64 op) ∧ W.cell? ⟨K, 1, none⟩ = some (.string (ofL x.maj)) ∧ W.cell? ⟨K, 2, none⟩ = some (.string (ofL x.min)) ∧ W.cell? ⟨K, 3, none⟩ = some (.string (ofL x.pat)) ∧ W.cell? ⟨K, 4, none⟩ = some (.slice a1 n1 k1) ∧ W.cell? ⟨K, 5, none⟩ = some (.slice a2 n2 k2) :=
  ⟨cell_at 0 h.box rfl, cell_at 1 h.box rfl, cell_at 2 h.box rfl, cell_at 3 h.box rfl, cell_at 4 h.box rfl, cell_at 5 h.box rfl⟩
theorem Txt.len {W : World} {a : Option Addr} {n k : Nat} {ts : List (List UInt8)} (h : Txt W (.slice a n k) ts) : ts.length = n := by
  obtain ⟨a', k', hv, _⟩ := h
  cases hv
  rfl
def readyL (y : SemL) (c : Comp) : Bool := !c.2.pre.isEmpty && sameL c.2 y
theorem set_eq (cs : List Comp) (y : SemL) : setL cs y = (fitW y && cs.all (fun c => holdsL c y) && (y.pre.isEmpty || cs.any (readyL y))) := rfl
theorem len_empty {α : Type} {ts : List α} {n : Nat} (h : ts.length = n) : ts.isEmpty = decide (n = 0) := by
  subst h
  cases ts <;> simp
theorem all_takeE {α : Type} {f : α → Bool} (cs : List α) (i : Nat) (h : i < cs.length) (hA : (cs.take i).all f = true) : (cs.take (i + 1)).all f = f cs[i] := by
  rw [List.take_succ_eq_append_getElem h, List.all_append, hA]
  simp
theorem any_take {α : Type} {f : α → Bool} (cs : List α) (i : Nat) (h : i < cs.length) : (cs.take (i + 1)).any f = ((cs.take i).any f || f cs[i]) := by
  rw [List.take_succ_eq_append_getElem h, List.any_append]
  simp

set_option maxRecDepth 100000 in
set_option maxHeartbeats 8000000 in
theorem Set_any (cs : List Comp) (y : SemL) (v u : Value) (w : World) (hv : CompsAt w v cs) (hu : SemAt w u y) (hs : ∀ c ∈ cs, ShortS c.2) (sy : ShortS y) (hcn : cs.length ≤ 9000000000000000000) :
    Calls Tryz.prog 17 #[v, u] w fun e w' => e = .returned (.bool (setL cs y)) ∧ Below w.heap.size w w' := by
  obtain ⟨a, k, rfl, hc0⟩ := id hv
  obtain ⟨vq, vc, rfl, t3, t4⟩ := hu
  obtain ⟨a3, k3, rfl, _⟩ := id t3
  obtain ⟨a4, k4, rfl, _⟩ := id t4
  obtain ⟨n, hn⟩ : ∃ n, cs.length = n := ⟨_, rfl⟩
  obtain ⟨n3, hn3⟩ : ∃ n3, y.pre.length = n3 := ⟨_, rfl⟩
  obtain ⟨n4, hn4⟩ : ∃ n4, y.bld.length = n4 := ⟨_, rfl⟩
  rw [hn3] at t3 ⊢
  rw [hn4] at t4 ⊢
  rw [hn] at hv hcn ⊢
  have HN := hide hn
  have HN3 := hide hn3
  have HV := hide hv
  have HSC := hide hs
  have Q0 := hide (Vb.start t3 t4)
  have hX := set_eq cs y
  rw [len_empty hn3] at hX
  have FY := hide (fun W (q : Vb w y a3 a4 n3 n4 k3 k4 W) => Fit_any _ y W q.sem sy)
  clear hn hn3 hn4 t3 t4 hv hc0 hs
  generalize setL cs y = X at *
  generalize hfy : fitW y = fy at *
  clear hfy
  have HX := hide hX
  clear hX
  obtain ⟨s0, s1, s2, s3, s4⟩ := Q0.out.seen
  go_enter Tryz.func17, Tryz.ntmps17
  go_wp2_with fail
  generalize w.alloc (.cells #[.string (ofL y.maj), .string (ofL y.min), .string (ofL y.pat), .slice a3 n3 k3, .slice a4 n4 k4] 33) = W0 at *
  refine (FY.out _ Q0.out).mono ?_
  rintro e W1 ⟨rfl, b1⟩
  have Q1 := hide (Q0.out.next b1)
  clear b1 Q0 s0 s1 s2 s3 s4 FY
  obtain ⟨s0, s1, s2, s3, s4⟩ := Q1.out.seen
  cases fy with
  | false =>
    go_wp2_with fail
    go_ret
    exact ⟨by rw [HX.out]; rfl, Q1.out.bel⟩
  | true =>
    obtain ⟨E, hE⟩ : ∃ E, decide (n3 = 0) = E := ⟨_, rfl⟩
    have hEb : ((n3 : Int) == 0) = E := by rw [← hE, Bool.eq_iff_iff]; simp
    rw [hE] at HX
    clear hE
    go_wp2_with fail
    go_loopw [5, 17] (fun z j wr => ∃ (i : Nat) (R : Bool), i ≤ n ∧ z = .bool R ∧ j = .int .i64 i ∧ Hid (Vb w y a3 a4 n3 n4 k3 k4 wr) ∧ Hid (R = (E || (cs.take i).any (readyL y))) ∧ Hid ((cs.take i).all (fun c => holdsL c y) = true)) (fun _ j _ => n - (intOf j).toNat)
    case atStart => exact ⟨0, E, by omega, by first | rfl | (rw [hEb]), rfl, Q1, by show E = (E || false); simp, rfl⟩
    case round =>
      clear Q1 s0 s1 s2 s3 s4
      obtain ⟨i, R, hin, rfl, rfl, Q, HR, HA⟩ := hrel
      obtain ⟨s0, s1, s2, s3, s4⟩ := Q.out.seen
      by_cases hlt : i < n
      · have hlt' : (i : Int) < (n : Int) := by omega
        have i1 : i < cs.length := by rw [HN.out]; exact hlt
        obtain ⟨a', k', hv', h0 | ⟨b, o, rfl, hbl, hrow⟩⟩ := HV.out.below Q.out.bel
        · exfalso
          rw [h0] at i1
          simp at i1
        · cases hv'
          obtain ⟨vp, vb, d0, d1, d2, d3, d4, d5, t1, t2, _⟩ := hrow i i1
          have sc := HSC.out cs[i] (List.getElem_mem i1)
          have h1 := all_takeE cs i i1 HA.out
          have h2 := any_take (f := readyL y) cs i i1
          have h3 : cs.all (fun c => holdsL c y) = true → (fun c => holdsL c y) cs[i] = true := fun h => List.all_eq_true.1 h _ (List.getElem_mem i1)
          obtain ⟨a1, k1, rfl, _⟩ := id t1
          obtain ⟨a2, k2, rfl, _⟩ := id t2
          obtain ⟨m1, hm1⟩ : ∃ m1, cs[i].2.pre.length = m1 := ⟨_, rfl⟩
          obtain ⟨m2, hm2⟩ : ∃ m2, cs[i].2.bld.length = m2 := ⟨_, rfl⟩
          have hrd : readyL y cs[i] = (!decide (m1 = 0) && sameL cs[i].2 y) := by unfold readyL; rw [len_empty hm1]
          rw [hm1] at t1 d4
          rw [hm2] at t2 d5
          rw [hrd] at h2
          have H1 := hide h1
          have H2 := hide h2
          have H3 := hide h3
          clear hrd h1 h2 h3 hrow hm1 hm2
          generalize cs[i] = c at *
          clear i1
          obtain ⟨op, x⟩ := c
          dsimp only at *
          have bb := (Below.refl _ wr).alloc (Nat.le_refl _) (.cells #[.int .i64 op, .string (ofL x.maj), .string (ofL x.min), .string (ofL x.pat), .slice a1 m1 k1, .slice a2 m2 k2] 35)
          have C0 : Hid (Cb wr.heap.size op x a1 a2 m1 m2 k1 k2 (wr.alloc (.cells #[.int .i64 op, .string (ofL x.maj), .string (ofL x.min), .string (ofL x.pat), .slice a1 m1 k1, .slice a2 m2 k2] 35))) := ⟨World.alloc_heap_new wr _, t1.below bb, t2.below bb⟩
          have V0 := hide (Q.out.next bb)
          have HO := hide (fun W (c : Cb wr.heap.size op x a1 a2 m1 m2 k1 k2 W) (q : Vb w y a3 a4 n3 n4 k3 k4 W) => Holds_any op x y _ _ _ W c.t1 c.t2 q.sem sc sy)
          have SN := hide (fun W (c : Cb wr.heap.size op x a1 a2 m1 m2 k1 k2 W) (q : Vb w y a3 a4 n3 n4 k3 k4 W) => sameNumbers_any x y _ _ W c.sem q.sem)
          clear t1 t2 bb Q s0 s1 s2 s3 s4
          obtain ⟨s0, s1, s2, s3, s4⟩ := V0.out.seen
          obtain ⟨g0, g1, g2, g3, g4, g5⟩ := C0.out.seen
          generalize hH : holdsL (op, x) y = Hv at *
          generalize hS : sameL x y = Sv at *
          clear hH hS
          go_wp2_with fail
          generalize wr.alloc (.cells #[.int .i64 op, .string (ofL x.maj), .string (ofL x.min), .string (ofL x.pat), .slice a1 m1 k1, .slice a2 m2 k2] 35) = W2 at *
          generalize wr.heap.size = K at *
          refine (HO.out _ C0.out V0.out).mono ?_
          rintro e W3 ⟨rfl, b3⟩
          have C1 := hide (C0.out.next b3)
          have V1 := hide (V0.out.next b3)
          clear b3 C0 V0 s0 s1 s2 s3 s4 g0 g1 g2 g3 g4 g5 HO
          obtain ⟨s0, s1, s2, s3, s4⟩ := V1.out.seen
          obtain ⟨g0, g1, g2, g3, g4, g5⟩ := C1.out.seen
          cases Hv with
          | false =>
            have hX : X = false := by
              rw [HX.out]
              cases ha : cs.all (fun c => holdsL c y) with
              | false => rfl
              | true => exact absurd (H3.out ha) (by simp)
            have HX2 := hide hX
            clear hX
            go_wp2_with fail
            go_ret
            exact ⟨by rw [HX2.out]; rfl, V1.out.bel⟩
          | true =>
            cases R with
            | true =>
              have HR2 : Hid (true = (E || (cs.take (i + 1)).any (readyL y))) := by
                show _ = _
                rw [H2.out, ← Bool.or_assoc, ← HR.out]
                rfl
              go_wp2_with fail
              go_roundw
              case rel => exact ⟨i + 1, true, by omega, rfl, by go_num, V1, HR2, H1⟩
              case measure => simp [intOf]; omega
            | false =>
              by_cases hm : m1 = 0
              · have hm' : ¬ (0 : Int) < (m1 : Int) := by omega
                have hmn : ¬ 0 < m1 := by omega
                have HR2 : Hid (false = (E || (cs.take (i + 1)).any (readyL y))) := by
                  show _ = _
                  rw [H2.out, decide_eq_true hm, ← Bool.or_assoc, ← HR.out]
                  rfl
                clear hm
                go_wp2_with fail
                go_roundw
                case rel => exact ⟨i + 1, false, by omega, rfl, by go_num, V1, HR2, H1⟩
                case measure => simp [intOf]; omega
              · have hm' : (0 : Int) < (m1 : Int) := by omega
                have hmn : 0 < m1 := by omega
                have HR2 : Hid (Sv = (E || (cs.take (i + 1)).any (readyL y))) := by
                  show _ = _
                  rw [H2.out, decide_eq_false hm, ← Bool.or_assoc, ← HR.out]
                  rfl
                clear hm
                go_wp2_with fail
                refine (SN.out _ C1.out V1.out).mono ?_
                rintro e W4 ⟨rfl, b4⟩
                have V2 := hide (V1.out.next b4)
                clear b4 C1 V1 s0 s1 s2 s3 s4 g0 g1 g2 g3 g4 g5 SN
                go_wp2_with fail
                go_roundw
                case rel => exact ⟨i + 1, Sv, by omega, rfl, by go_num, V2, HR2, H1⟩
                case measure => simp [intOf]; omega
      · have hlt' : ¬ (i : Int) < (n : Int) := by omega
        have hX : X = R := by
          have h1 := HA.out
          have h2 := HR.out
          rw [List.take_of_length_le (by rw [HN.out]; omega)] at h1 h2
          rw [HX.out, h1, h2]
          rfl
        have HX2 := hide hX
        clear hX
        go_wp2_with fail
        go_ret
        exact ⟨by rw [HX2.out]; rfl, Q.out.bel⟩

set_option maxRecDepth 100000 in
set_option maxHeartbeats 4000000 in
theorem anySet_any (l : List (List Comp)) (y : SemL) (v u : Value) (w : World) (hv : SetsAt w v l) (hu : SemAt w u y) (hs : ∀ cs ∈ l, cs.length ≤ 9000000000000000000 ∧ ∀ c ∈ cs, ShortS c.2) (sy : ShortS y) (hln : l.length ≤ 9000000000000000000) :
    Calls Tryz.prog 40 #[v, u] w fun e w' => e = .returned (.bool (l.any (fun cs => setL cs y))) ∧ Below w.heap.size w w' := by
  obtain ⟨a, k, rfl, _⟩ := id hv
  obtain ⟨vq, vc, rfl, t3, t4⟩ := hu
  obtain ⟨a3, k3, rfl, _⟩ := id t3
  obtain ⟨a4, k4, rfl, _⟩ := id t4
  obtain ⟨n, hn⟩ : ∃ n, l.length = n := ⟨_, rfl⟩
  obtain ⟨n3, hn3⟩ : ∃ n3, y.pre.length = n3 := ⟨_, rfl⟩
  obtain ⟨n4, hn4⟩ : ∃ n4, y.bld.length = n4 := ⟨_, rfl⟩
  rw [hn3] at t3 ⊢
  rw [hn4] at t4 ⊢
  rw [hn] at hv hln ⊢
  have HN := hide hn
  have HV := hide hv
  have HS := hide hs
  have Q0 := hide (Vb.start t3 t4)
  clear hn hn3 hn4 t3 t4 hv hs
  obtain ⟨s0, s1, s2, s3, s4⟩ := Q0.out.seen
  go_enter Tryz.func40, Tryz.ntmps40
  go_wp2_with fail
  generalize w.alloc (.cells #[.string (ofL y.maj), .string (ofL y.min), .string (ofL y.pat), .slice a3 n3 k3, .slice a4 n4 k4] 33) = W0 at *
  go_loopw [9] (fun j wr => ∃ i : Nat, i ≤ n ∧ j = .int .i64 i ∧ Hid (Vb w y a3 a4 n3 n4 k3 k4 wr) ∧ Hid ((l.take i).any (fun cs => setL cs y) = false)) (fun j _ => n - (intOf j).toNat)
  case atStart => exact ⟨0, by omega, rfl, Q0, rfl⟩
  case round =>
    clear Q0 s0 s1 s2 s3 s4
    obtain ⟨i, hin, rfl, Q, HA⟩ := hrel
    obtain ⟨s0, s1, s2, s3, s4⟩ := Q.out.seen
    by_cases hlt : i < n
    · have hlt' : (i : Int) < (n : Int) := by omega
      have i1 : i < l.length := by rw [HN.out]; exact hlt
      obtain ⟨a', k', hv', h0 | ⟨b, o, rfl, hbl, hrow⟩⟩ := HV.out.below Q.out.bel
      · exfalso
        rw [h0] at i1
        simp at i1
      · cases hv'
        obtain ⟨u, d0, hcs⟩ := hrow i i1
        have sc := HS.out l[i] (List.getElem_mem i1)
        have h2 := any_take (f := fun cs => setL cs y) l i i1
        rw [HA.out] at h2
        have h3 : setL l[i] y = true → l.any (fun cs => setL cs y) = true := fun h => List.any_eq_true.2 ⟨l[i], List.getElem_mem i1, h⟩
        have SE := hide (Set_any l[i] y u _ wr hcs Q.out.sem sc.2 sy sc.1)
        obtain ⟨au, ku, rfl, hzz⟩ := id hcs
        clear hzz
        have H2 := hide h2
        have H3 := hide h3
        clear h2 h3 hrow hcs sc
        try dsimp only at H2
        generalize setL l[i] y = X at *
        generalize l[i].length = m at *
        clear i1
        go_wp2_with fail
        refine SE.out.mono ?_
        rintro e W3 ⟨rfl, b3⟩
        have Q3 := hide (Q.out.next b3)
        clear b3 Q s0 s1 s2 s3 s4 SE
        cases X with
        | true =>
          go_wp2_with fail
          go_ret
          exact ⟨by rw [H3.out (by first | rfl | trivial)]; rfl, Q3.out.bel⟩
        | false =>
          go_wp2_with fail
          go_roundw
          case rel => exact ⟨i + 1, by omega, by go_num, Q3, by show _ = _; rw [H2.out]; rfl⟩
          case measure => simp [intOf]; omega
    · have hlt' : ¬ (i : Int) < (n : Int) := by omega
      have hX : l.any (fun cs => setL cs y) = false := by
        have := HA.out
        rwa [List.take_of_length_le (by rw [HN.out]; omega)] at this
      have HX := hide hX
      clear hX
      go_wp2_with fail
      go_ret
      exact ⟨by rw [HX.out]; rfl, Q.out.bel⟩

end Go.Proofs.YtpdlgiioahjhiaaGreat
