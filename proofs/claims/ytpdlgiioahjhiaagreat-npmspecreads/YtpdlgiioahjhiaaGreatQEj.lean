/-
  Walks: Pre and Build of a partial. · Walks: a partial: the worlds, what it is. · Where a version goes wrong lies within its text; so do a partial's numbers. · Walks: a partial. · Walks: the operators.
-/
import Derived.Test.YtpdlgiioahjhiaaGreatQRh
import Derived.Test.YtpdlgiioahjhiaaGreatQBa
import Derived.Test.YtpdlgiioahjhiaaGreatQSe
import Derived.Laws.EntriesVeiled
namespace Go.Proofs.YtpdlgiioahjhiaaGreat
open Go.RowKit
set_option linter.unusedVariables false

def preT (l : List UInt8) (a e : Nat) : List UInt8 := [48, 46, 48, 46, 48] ++ seg l a e
def preR (l : List UInt8) (a : Nat) : List (List UInt8) × Int × Int :=
  if l[a]? = some 45 ∨ l[a]? = some 43 then
    if (fauP (preT l a (min (a + prL (l.drop a)) (a + 48)))).1 = 0 then ((semP (preT l a (min (a + prL (l.drop a)) (a + 48)))).pre, ((min (a + prL (l.drop a)) (a + 48) : Nat) : Int), 0)
    else if (fauP (preT l a (min (a + prL (l.drop a)) (a + 48)))).1 ≠ 11 then ([], wrap64 (wrap64 ((a : Int) + ((fauP (preT l a (min (a + prL (l.drop a)) (a + 48)))).2 : Int)) - 5), (fauP (preT l a (min (a + prL (l.drop a)) (a + 48)))).1)
    else if min (a + prL (l.drop a)) (a + 48) < l.length ∧ (l[min (a + prL (l.drop a)) (a + 48) - 1]?.map fun c => isC (c.toNat : Int) 1) = some true then ([], ((min (a + prL (l.drop a)) (a + 48) : Nat) : Int), 14)
    else ([], ((min (a + prL (l.drop a)) (a + 48) : Nat) : Int), misL l.length (min (a + prL (l.drop a)) (a + 48)))
  else ([], (a : Int), 0)

def PreP (w : World) (x : List (List UInt8) × Int × Int) (e : Ending) (w' : World) : Prop :=
  Below w.heap.size w w' ∧ ∃ v, e = .returned (.tuple #[v, .int .i64 x.2.1, .int .i64 x.2.2]) ∧ Txt w' v x.1 ∧ Fresh w.heap.size v ∧ Cap v ∧ ∃ a n c, v = .slice a n c

theorem nil_pre {w w' : World} (h : Below w.heap.size w w') (e r : Int) : PreP w ([], e, r) (.returned (.tuple #[.slice none 0 0, .int .i64 e, .int .i64 r])) w' :=
  ⟨h, _, rfl, txt_nil w', (by rintro a i c h; cases h), (by rintro a n c h; cases h; exact Nat.le_refl _), _, _, _, rfl⟩

theorem pre_text (s : ByteArray) (a e : Nat) : ((⟨#[48, 46, 48, 46, 48]⟩ : ByteArray) ++ s.extract a e).data.toList = preT s.data.toList a e := by
  unfold preT
  rw [ByteArray.data_append, Array.toList_append, extract_data]
theorem fresh_mono {n m : Nat} {v : Value} (h : Fresh n v) (hm : m ≤ n) : Fresh m v := fun a i c e => Nat.le_trans hm (h a i c e)

set_option maxRecDepth 100000 in
set_option maxHeartbeats 4000000 in
theorem readPre_any (s : ByteArray) (a : Nat) (w : World) (hs : s.size ≤ 256) (ha : a ≤ s.size) :
    Calls Tryz.prog 120 #[.string s, .int .i64 (a : Int)] w (PreP w (preR s.data.toList a)) := by
  have C0 := hide (fun W => prefix_any s a 45 W hs)
  have C1 := hide (fun W => prefix_any s a 43 W hs)
  have PE := hide (fun W => preEnd_any s a W hs ha)
  have CP := hide (fun t W => Parse_three Parse_any t W)
  have hb1 := eqE (oneB 45) (by decide)
  have hb2 := eqE (oneB 43) (by decide)
  by_cases hd : s.data.toList[a]? = some 45 ∨ s.data.toList[a]? = some 43
  · have hX : preR s.data.toList a = preR s.data.toList a := rfl
    conv at hX => rhs; unfold preR
    rw [if_pos hd, len_data] at hX
    generalize preR s.data.toList a = X at *
    have hlt : a < s.size := by
      rcases Nat.lt_or_ge a s.size with h | h
      · exact h
      · rw [at_none s a (by omega)] at hd; simp at hd
    have hone : 1 ≤ prL (s.data.toList.drop a) := by
      rw [prL_hit s a hlt (by
        rw [at_some s a hlt] at hd
        rcases hd with h | h <;> (rw [show s[a] = _ from Option.some.inj h]; decide))]
      omega
    have hpl : a + prL (s.data.toList.drop a) ≤ s.size := by have := prL_le (s.data.toList.drop a); rw [List.length_drop, len_data] at this; omega
    generalize prL (s.data.toList.drop a) = k at *
    obtain ⟨E, hE⟩ : ∃ E, E = min (a + k) (a + 48) := ⟨_, rfl⟩
    rw [← hE] at hX
    have HX := hide hX
    clear hX
    have HE := hide hE
    have hE1 : a + 1 ≤ E := by omega
    have hE2 : E ≤ s.size := by omega
    clear hE
    rcases hd with hd | hd
    · rw [pre_eq hd] at C0
      clear hd
      go_enter Tryz.func120, Tryz.ntmps120
      go_wp2_with fail
      refine (C0.out _).mono ?_
      rintro e w1 ⟨rfl, hw1⟩
      go_wp2_with fail
      refine (PE.out _).mono ?_
      rintro e w' ⟨rfl, rfl⟩
      go_wp2_with fail
      have hEI : ((a : Int) + min (k : Int) 48) = (E : Int) := by have := HE.out; omega
      rw [hEI, Int.toNat_natCast]
      clear hEI
      refine (CP.out _ _).mono ?_
      rintro e w2 ⟨hw2, v, rfl, hF, hCap⟩
      rw [pre_text] at hF ⊢
      obtain ⟨vp, vb, rfl, t1, t2, fr1, fr2⟩ := hF
      obtain ⟨cp1, cp2⟩ := hCap _ _ _ _ _ rfl
      obtain ⟨a1, c1, rfl, x1⟩ := id t1
      obtain ⟨a2, c2, rfl, x2⟩ := id t2
      have B2 := hide (hw1.trans (hw2.mono hw1.size))
      have FR := hide (fresh_mono fr1 hw1.size)
      have T1 := hide t1
      clear fr1 fr2 t1 t2 x1 x2 hCap hw2
      generalize hfq : (fauP (preT s.data.toList a E)) = fq at *
      obtain ⟨f1, f2⟩ := fq
      generalize hsq : (semP (preT s.data.toList a E)) = sq at *
      have hX := HX.out
      clear hfq hsq HX
      dsimp only at hX
      by_cases hz : f1 = 0
      · rw [if_pos hz] at hX
        subst hz hX
        go_wp2_with fail
        go_ret3
        exact ⟨(B2.out.alloc (Nat.le_trans (Nat.le_refl _) B2.out.size) _).alloc (by have := B2.out.size; simp; omega) _, _, rfl, (T1.out.below ((Below.refl _ _).alloc (Nat.le_refl _) _)).below ((Below.refl _ _).alloc (Nat.le_refl _) _), FR.out, cp1, _, _, _, rfl⟩
      rw [if_neg hz] at hX
      have z1 : (f1 == 0) = false := by simpa using hz
      by_cases h11 : f1 = 11
      · rw [if_neg (fun h => h h11)] at hX
        subst h11
        by_cases hl : E < s.size
        · have hi : E - 1 < s.size := by omega
          rw [at_some s (E - 1) hi] at hX
          have w1 : (0 : Int) ≤ (E : Int) - 1 := by omega
          have w2 : (E : Int) - 1 < (s.size : Int) := by omega
          have w3 : ((E : Int) - 1).toNat = E - 1 := by omega
          have l1 : decide ((E : Int) < (s.size : Int)) = true := by simp; omega
          cases hc : isC (s[E - 1].toNat : Int) 1
          · rw [if_neg (by simp [hc])] at hX
            subst hX
            go_wp2_with (first | (go_at_call 55; refine (Is_any _ _ _).mono ?_; rintro e w' ⟨rfl, rfl⟩) | (go_at_call 57; refine (misfit_any _ _ _).mono ?_; rintro e w' ⟨rfl, rfl⟩))
            go_ret3
            exact nil_pre ((B2.out.alloc (Nat.le_trans (Nat.le_refl _) B2.out.size) _).alloc (by have := B2.out.size; simp; omega) _) _ _
          · rw [if_pos ⟨hl, by simp [hc]⟩] at hX
            subst hX
            go_wp2_with (first | (go_at_call 55; refine (Is_any _ _ _).mono ?_; rintro e w' ⟨rfl, rfl⟩) | (go_at_call 57; refine (misfit_any _ _ _).mono ?_; rintro e w' ⟨rfl, rfl⟩))
            go_ret3
            exact nil_pre ((B2.out.alloc (Nat.le_trans (Nat.le_refl _) B2.out.size) _).alloc (by have := B2.out.size; simp; omega) _) _ _
        · rw [if_neg (fun h => hl h.1)] at hX
          subst hX
          have l1 : decide ((E : Int) < (s.size : Int)) = false := by simp; omega
          go_wp2_with (go_at_call 57; refine (misfit_any _ _ _).mono ?_; rintro e w' ⟨rfl, rfl⟩)
          go_ret3
          exact nil_pre ((B2.out.alloc (Nat.le_trans (Nat.le_refl _) B2.out.size) _).alloc (by have := B2.out.size; simp; omega) _) _ _
      rw [if_pos h11] at hX
      have z2 : (f1 != 11) = true := by simpa using h11
      subst hX
      go_wp2_with fail
      go_quiet (fail)
      go_wp2_with fail
      go_ret3
      exact nil_pre (((B2.out.alloc (Nat.le_trans (Nat.le_refl _) B2.out.size) _).alloc (by have := B2.out.size; simp; omega) _).trans (below_drewN _ _ _)) _ _
    · rw [pre_eq hd] at C1
      rw [pre_ne (by rw [hd]; decide)] at C0
      clear hd
      go_enter Tryz.func120, Tryz.ntmps120
      go_wp2_with fail
      refine (C0.out _).mono ?_
      rintro e w0 ⟨rfl, hw0⟩
      go_wp2_with fail
      refine (C1.out _).mono ?_
      rintro e w1' ⟨rfl, hw1'⟩
      have hw1 := hw0.trans (hw1'.mono hw0.size)
      go_wp2_with fail
      refine (PE.out _).mono ?_
      rintro e w' ⟨rfl, rfl⟩
      go_wp2_with fail
      have hEI : ((a : Int) + min (k : Int) 48) = (E : Int) := by have := HE.out; omega
      rw [hEI, Int.toNat_natCast]
      clear hEI
      refine (CP.out _ _).mono ?_
      rintro e w2 ⟨hw2, v, rfl, hF, hCap⟩
      rw [pre_text] at hF ⊢
      obtain ⟨vp, vb, rfl, t1, t2, fr1, fr2⟩ := hF
      obtain ⟨cp1, cp2⟩ := hCap _ _ _ _ _ rfl
      obtain ⟨a1, c1, rfl, x1⟩ := id t1
      obtain ⟨a2, c2, rfl, x2⟩ := id t2
      have B2 := hide (hw1.trans (hw2.mono hw1.size))
      have FR := hide (fresh_mono fr1 hw1.size)
      have T1 := hide t1
      clear fr1 fr2 t1 t2 x1 x2 hCap hw2
      generalize hfq : (fauP (preT s.data.toList a E)) = fq at *
      obtain ⟨f1, f2⟩ := fq
      generalize hsq : (semP (preT s.data.toList a E)) = sq at *
      have hX := HX.out
      clear hfq hsq HX
      dsimp only at hX
      by_cases hz : f1 = 0
      · rw [if_pos hz] at hX
        subst hz hX
        go_wp2_with fail
        go_ret3
        exact ⟨(B2.out.alloc (Nat.le_trans (Nat.le_refl _) B2.out.size) _).alloc (by have := B2.out.size; simp; omega) _, _, rfl, (T1.out.below ((Below.refl _ _).alloc (Nat.le_refl _) _)).below ((Below.refl _ _).alloc (Nat.le_refl _) _), FR.out, cp1, _, _, _, rfl⟩
      rw [if_neg hz] at hX
      have z1 : (f1 == 0) = false := by simpa using hz
      by_cases h11 : f1 = 11
      · rw [if_neg (fun h => h h11)] at hX
        subst h11
        by_cases hl : E < s.size
        · have hi : E - 1 < s.size := by omega
          rw [at_some s (E - 1) hi] at hX
          have w1 : (0 : Int) ≤ (E : Int) - 1 := by omega
          have w2 : (E : Int) - 1 < (s.size : Int) := by omega
          have w3 : ((E : Int) - 1).toNat = E - 1 := by omega
          have l1 : decide ((E : Int) < (s.size : Int)) = true := by simp; omega
          cases hc : isC (s[E - 1].toNat : Int) 1
          · rw [if_neg (by simp [hc])] at hX
            subst hX
            go_wp2_with (first | (go_at_call 55; refine (Is_any _ _ _).mono ?_; rintro e w' ⟨rfl, rfl⟩) | (go_at_call 57; refine (misfit_any _ _ _).mono ?_; rintro e w' ⟨rfl, rfl⟩))
            go_ret3
            exact nil_pre ((B2.out.alloc (Nat.le_trans (Nat.le_refl _) B2.out.size) _).alloc (by have := B2.out.size; simp; omega) _) _ _
          · rw [if_pos ⟨hl, by simp [hc]⟩] at hX
            subst hX
            go_wp2_with (first | (go_at_call 55; refine (Is_any _ _ _).mono ?_; rintro e w' ⟨rfl, rfl⟩) | (go_at_call 57; refine (misfit_any _ _ _).mono ?_; rintro e w' ⟨rfl, rfl⟩))
            go_ret3
            exact nil_pre ((B2.out.alloc (Nat.le_trans (Nat.le_refl _) B2.out.size) _).alloc (by have := B2.out.size; simp; omega) _) _ _
        · rw [if_neg (fun h => hl h.1)] at hX
          subst hX
          have l1 : decide ((E : Int) < (s.size : Int)) = false := by simp; omega
          go_wp2_with (go_at_call 57; refine (misfit_any _ _ _).mono ?_; rintro e w' ⟨rfl, rfl⟩)
          go_ret3
          exact nil_pre ((B2.out.alloc (Nat.le_trans (Nat.le_refl _) B2.out.size) _).alloc (by have := B2.out.size; simp; omega) _) _ _
      rw [if_pos h11] at hX
      have z2 : (f1 != 11) = true := by simpa using h11
      subst hX
      go_wp2_with fail
      go_quiet (fail)
      go_wp2_with fail
      go_ret3
      exact nil_pre (((B2.out.alloc (Nat.le_trans (Nat.le_refl _) B2.out.size) _).alloc (by have := B2.out.size; simp; omega) _).trans (below_drewN _ _ _)) _ _
  · have hX : preR s.data.toList a = ([], (a : Int), 0) := if_neg hd
    rw [hX]
    clear hX
    rw [pre_ne (fun h => hd (.inl h))] at C0
    rw [pre_ne (fun h => hd (.inr h))] at C1
    clear hd PE CP
    go_enter Tryz.func120, Tryz.ntmps120
    go_wp2_with fail
    refine (C0.out _).mono ?_
    rintro e w1 ⟨rfl, hw1⟩
    go_wp2_with fail
    refine (C1.out _).mono ?_
    rintro e w2 ⟨rfl, hw2⟩
    go_wp2_with fail
    go_ret3
    exact nil_pre (hw1.trans (hw2.mono hw1.size)) _ _

end Go.Proofs.YtpdlgiioahjhiaaGreat

namespace Go.Proofs.YtpdlgiioahjhiaaGreat
open Go.RowKit
set_option linter.unusedVariables false

structure PartL where
  maj : List UInt8
  min : List UInt8
  pat : List UInt8
  pre : List (List UInt8)
  told : Nat
def partN : PartL := ⟨[], [], [], [], 0⟩
def segT (l : List UInt8) (segs : List (Nat × Nat)) (i : Nat) : List UInt8 := match segs[i]? with | some x => seg l x.1 x.2 | none => [48]
theorem segS_eq (s : ByteArray) (segs : List (Nat × Nat)) (i : Nat) : segS s segs i = ofL (segT s.data.toList segs i) := by
  unfold segS segT
  split
  · rename_i x h; rw [h]; exact extract_seg s x.1 x.2
  · rename_i h; rw [h]; rfl
def endP (l : List UInt8) (a : Nat) (p : PartL) (z r : Int) : PartL × Int × Int :=
  if 48 < z - a then (partN, (a : Int) + 48, 12)
  else if r = 0 ∧ endsL l z.toNat = false ∧ (l[z.toNat]?.map fun c => isC (c.toNat : Int) 6) = some false then (partN, z, 10)
  else (p, z, r)
def vL (l : List UInt8) (a : Nat) : Nat := if l[a]? = some 118 then a + 1 else a
def rpL (l : List UInt8) (a : Nat) : PartL × Int × Int :=
  match rnGo l 2 0 (vL l a) [] with
  | .error x => endP l a partN (x.1 : Int) x.2
  | .ok x => if x.1.length = 3 then endP l a ⟨segT l x.1 0, segT l x.1 1, segT l x.1 2, (preR l x.2).1, 3⟩ (preR l x.2).2.1 (preR l x.2).2.2
      else endP l a ⟨segT l x.1 0, segT l x.1 1, segT l x.1 2, [], x.1.length⟩ (x.2 : Int) 0
def partW (p : PartL) (v : Value) : Value := .agg #[.string (ofL p.maj), .string (ofL p.min), .string (ofL p.pat), v, .slice none 0 0, .int .i64 (p.told : Int)]
def PartP (w : World) (x : PartL × Int × Int) (e : Ending) (w' : World) : Prop :=
  Below w.heap.size w w' ∧ ∃ v, e = .returned (.tuple #[partW x.1 v, .int .i64 x.2.1, .int .i64 x.2.2]) ∧ Txt w' v x.1.pre ∧ Fresh w.heap.size v ∧ Cap v ∧ ∃ a n c, v = .slice a n c

structure PB (w W : World) (B : Nat) (x y z : ByteArray) (p : Value) (t : Int) : Prop where
  res : W.heap[w.heap.size]? = some (.cells #[.string ⟨#[]⟩, .string ⟨#[]⟩, .string ⟨#[]⟩, .slice none 0 0, .slice none 0 0, .int .i64 0] 54 (0, 0))
  par : W.heap[B]? = some (.cells #[.string x, .string y, .string z, p, .slice none 0 0, .int .i64 t] 54 (0, 0))
  bel : Below w.heap.size w W
  big : w.heap.size < B
theorem PB.lt {w W : World} {B : Nat} {x y z : ByteArray} {p : Value} {t : Int} (h : PB w W B x y z p t) : B < W.heap.size := (Array.getElem?_eq_some_iff.1 h.par).1
theorem PB.below {w W W' : World} {B : Nat} {x y z : ByteArray} {p : Value} {t : Int} (h : PB w W B x y z p t) (hb : Below W.heap.size W W') : PB w W' B x y z p t :=
  ⟨(hb.block _ (by have := h.lt; have := h.big; omega)).trans h.res, (hb.block _ h.lt).trans h.par, h.bel.trans (hb.mono (by have := h.lt; have := h.big; omega)), h.big⟩
theorem PB.start {w W1 W2 : World} (h1 : W1.heap[w.heap.size]? = some (.cells #[.string ⟨#[]⟩, .string ⟨#[]⟩, .string ⟨#[]⟩, .slice none 0 0, .slice none 0 0, .int .i64 0] 54 (0, 0))) (b1 : Below w.heap.size w W1) (b2 : Below W1.heap.size W1 W2) (x y z : ByteArray) (p : Value) (t : Int) :
    PB w (W2.alloc (.cells #[.string x, .string y, .string z, p, .slice none 0 0, .int .i64 t] 54)) W2.heap.size x y z p t := by
  have hlt := (Array.getElem?_eq_some_iff.1 h1).1
  have h2 := (b2.block _ hlt).trans h1
  have l1 := (Lies.cons h2 (Lies.nil W2)).alloc (.cells #[.string x, .string y, .string z, p, .slice none 0 0, .int .i64 t] 54)
  exact ⟨l1.head, World.alloc_heap_new W2 _, (b1.trans (b2.mono b1.size)).alloc (Nat.le_trans b1.size b2.size) _, Nat.lt_of_lt_of_le hlt b2.size⟩
theorem PB.seen {w W : World} {B : Nat} {x y z : ByteArray} {p : Value} {t : Int} (h : PB w W B x y z p t) :
    W.cell? ⟨B, 0, none⟩ = some (.string x) ∧ W.cell? ⟨B, 1, none⟩ = some (.string y) ∧ W.cell? ⟨B, 2, none⟩ = some (.string z) ∧ W.cell? ⟨B, 3, none⟩ = some p ∧ W.cell? ⟨B, 4, none⟩ = some (.slice none 0 0) ∧ W.cell? ⟨B, 5, none⟩ = some (.int .i64 t) ∧ W.frozen? ⟨B, 3, none⟩ = false :=
  ⟨cell_at 0 h.par rfl, cell_at 1 h.par rfl, cell_at 2 h.par rfl, cell_at 3 h.par rfl, cell_at 4 h.par rfl, cell_at 5 h.par rfl, one_free 3 h.par⟩
theorem PB.seenR {w W : World} {B : Nat} {x y z : ByteArray} {p : Value} {t : Int} (h : PB w W B x y z p t) :
    W.cell? ⟨w.heap.size, 0, none⟩ = some (.string ⟨#[]⟩) ∧ W.frozen? ⟨w.heap.size, 0, none⟩ = false ∧ W.frozen? ⟨w.heap.size, 1, none⟩ = false ∧ W.frozen? ⟨w.heap.size, 2, none⟩ = false ∧ W.frozen? ⟨w.heap.size, 3, none⟩ = false ∧ W.frozen? ⟨w.heap.size, 4, none⟩ = false ∧ W.frozen? ⟨w.heap.size, 5, none⟩ = false ∧
    W.cell? ⟨w.heap.size, 1, none⟩ = some (.string ⟨#[]⟩) ∧ W.cell? ⟨w.heap.size, 2, none⟩ = some (.string ⟨#[]⟩) ∧ W.cell? ⟨w.heap.size, 3, none⟩ = some (.slice none 0 0) ∧ W.cell? ⟨w.heap.size, 4, none⟩ = some (.slice none 0 0) ∧ W.cell? ⟨w.heap.size, 5, none⟩ = some (.int .i64 0) :=
  ⟨cell_at 0 h.res rfl, one_free 0 h.res, one_free 1 h.res, one_free 2 h.res, one_free 3 h.res, one_free 4 h.res, one_free 5 h.res, cell_at 1 h.res rfl, cell_at 2 h.res rfl, cell_at 3 h.res rfl, cell_at 4 h.res rfl, cell_at 5 h.res rfl⟩
theorem PB.put {w W : World} {B : Nat} {x y z : ByteArray} {p : Value} {t : Int} (u : Value) (h : PB w W B x y z p t) : PB w (W.setCell ⟨B, 3, none⟩ u) B x y z u t := by
  have h1 := set_lies 3 u h.par
  have l1 := (Lies.cons h.res (Lies.nil W)).other B 3 u (by intro q hq; simp at hq; subst hq; have := h.big; exact fun e => by simp at e; omega)
  exact ⟨l1.head, h1, h.bel.setCell (Nat.le_of_lt h.big) _, h.big⟩
theorem txt_set {W : World} {v : Value} {ts : List (List UInt8)} {n B : Nat} (h : Txt W v ts) (hf : Fresh n v) (hB : B < n) (o : Nat) (u : Value) : Txt (W.setCell ⟨B, o, none⟩ u) v ts := by
  obtain ⟨a, cap, hv, h0 | ⟨b, off, ha, hlt, hc⟩⟩ := h
  · exact ⟨a, cap, hv, .inl h0⟩
  · have hn : n ≤ b := hf _ _ _ (by rw [hv, ha])
    refine ⟨a, cap, hv, .inr ⟨b, off, ha, Nat.lt_of_lt_of_le hlt (Below.refl 0 W |>.setCell (Nat.zero_le _) u).size, fun i hi => ?_⟩⟩
    rw [← hc i hi]
    simp only [World.cell?]
    rw [Below.heap_setCell _ _ _ b (by simp only; omega)]

theorem fin81 {R : Ending → World → Prop} (tmps : Array Value) (W : World) (B : Nat) (x y z : ByteArray) (p : Value) (t e r : Int) (hp : ∃ a n c, p = .slice a n c)
    (h4 : tmps.getD 4 undef = .pointer (some ⟨B, 0, none⟩)) (h5 : tmps.getD 5 undef = .int .i64 e) (h6 : tmps.getD 6 undef = .int .i64 r)
    (e1 : W.heap[B]? = some (.cells #[.string x, .string y, .string z, p, .slice none 0 0, .int .i64 t] 54 (0, 0)))
    (hR : R (.returned (.tuple #[.agg #[.string x, .string y, .string z, p, .slice none 0 0, .int .i64 t], .int .i64 e, .int .i64 r])) W) :
    bodyPost Tryz.prog Tryz.f83 R .ret { tmps := tmps, defers := [] } W := by
  obtain ⟨pa, pn, pc, rfl⟩ := hp
  have r0 := cell_at 0 e1 rfl
  have r1 := cell_at 1 e1 rfl
  have r2 := cell_at 2 e1 rfl
  have r3 := cell_at 3 e1 rfl
  have r4 := cell_at 4 e1 rfl
  have r5 := cell_at 5 e1 rfl
  rw [Array.getD_eq_getD_getElem?] at h4 h5 h6
  refine ⟨rfl, _, ?_, hR⟩
  simp [results, Tryz.results83, go_sem, h4, h5, h6, r0, r1, r2, r3, r4, r5]
  try rfl

theorem pre_ok {l : List UInt8} {a : Nat} (ha : a ≤ l.length) (h : (preR l a).2.2 = 0) : ∃ e : Nat, (preR l a).2.1 = (e : Int) ∧ a ≤ e ∧ e ≤ l.length := by
  have hm : ∀ n b, misL n b ≠ 0 := fun n b => by unfold misL; split <;> decide
  have hp := prL_le (l.drop a)
  rw [List.length_drop] at hp
  unfold preR at h ⊢
  split at h
  · rename_i hd
    rw [if_pos hd]
    split at h
    · rename_i hf
      rw [if_pos hf]
      exact ⟨_, rfl, by omega, by omega⟩
    · rename_i hf
      rw [if_neg hf]
      split at h
      · exact absurd h hf
      · split at h
        · cases h
        · exact absurd h (hm _ _)
  · rename_i hd
    rw [if_neg hd]
    exact ⟨a, rfl, Nat.le_refl _, ha⟩

end Go.Proofs.YtpdlgiioahjhiaaGreat

namespace Go.Proofs.YtpdlgiioahjhiaaGreat
open Go.RowKit
set_option linter.unusedVariables false

theorem runL_len (k : Int) : ∀ l : List UInt8, runL k l ≤ l.length
  | [] => Nat.le_refl _
  | c :: r => by
    unfold runL
    split
    · have := runL_len k r; simp; omega
    · simp
theorem num_e {l : List UInt8} {a : Nat} (ha : a ≤ l.length) : (∀ x, numR l a = .error x → x.2 ≤ l.length) ∧ (∀ e, numR l a = .ok e → e ≤ l.length) := by
  have h := runL_len 1 (l.drop a)
  rw [List.length_drop] at h
  unfold numR
  split
  · exact ⟨fun x hx => by cases hx; exact ha, fun e he => by cases he⟩
  · split
    · exact ⟨fun x hx => by cases hx; simp only; omega, fun e he => by cases he⟩
    · exact ⟨fun x hx => (by cases hx), fun e he => by cases he; omega⟩
theorem dot_e {l : List UInt8} {a : Nat} (ha : a ≤ l.length) : (∀ x, dotR l a = .error x → x.2 ≤ l.length) ∧ (∀ e, dotR l a = .ok e → e ≤ l.length) := by
  unfold dotR
  split
  · rename_i h
    have := (List.getElem?_eq_some_iff.1 h).1
    exact ⟨fun x hx => (by cases hx), fun e he => by cases he; omega⟩
  · exact ⟨fun x hx => by cases hx; exact ha, fun e he => by cases he⟩
theorem nums_e (l : List UInt8) : (∀ x, numsR l = .error x → x.2 ≤ l.length) ∧ (∀ a b c d e, numsR l = .ok (a, b, c, d, e) → e ≤ l.length) := by
  unfold numsR
  have n0 := num_e (l := l) (Nat.zero_le _)
  cases h0 : numR l 0 with
  | error x => exact ⟨fun y hy => by cases hy; exact n0.1 _ h0, fun _ _ _ _ _ h => by cases h⟩
  | ok a =>
    have d0 := dot_e (n0.2 _ h0)
    dsimp only
    cases h1 : dotR l a with
    | error x => exact ⟨fun y hy => by cases hy; exact d0.1 _ h1, fun _ _ _ _ _ h => by cases h⟩
    | ok b =>
      have n1 := num_e (d0.2 _ h1)
      dsimp only
      cases h2 : numR l b with
      | error x => exact ⟨fun y hy => by cases hy; exact n1.1 _ h2, fun _ _ _ _ _ h => by cases h⟩
      | ok c =>
        have d1 := dot_e (n1.2 _ h2)
        dsimp only
        cases h3 : dotR l c with
        | error x => exact ⟨fun y hy => by cases hy; exact d1.1 _ h3, fun _ _ _ _ _ h => by cases h⟩
        | ok d =>
          have n2 := num_e (d1.2 _ h3)
          dsimp only
          cases h4 : numR l d with
          | error x => exact ⟨fun y hy => by cases hy; exact n2.1 _ h4, fun _ _ _ _ _ h => by cases h⟩
          | ok e => exact ⟨fun y hy => (by cases hy), fun _ _ _ _ _ h => by cases h; exact n2.2 _ h4⟩
theorem bad_mem (p : Bool) (l : List UInt8) : ∀ (xs : List (Nat × Nat)) (x : Int × Nat), badOf p l xs = some x → ∃ y ∈ xs, y.2 = x.2
  | [], x, h => by cases h
  | y :: r, x, h => by
    unfold badOf at h
    split at h
    · obtain ⟨z, hz, e⟩ := bad_mem p l r x h
      exact ⟨z, List.mem_cons_of_mem _ hz, e⟩
    · cases h; exact ⟨y, List.mem_cons_self, rfl⟩
theorem last_mem {z : Nat} {xs : List (Nat × Nat)} (h : xs ≠ []) : ∃ y ∈ xs, lastE z xs = y.2 := by
  unfold lastE
  rw [List.getLast?_eq_some_getLast h]
  exact ⟨_, List.getLast_mem h, rfl⟩
theorem ids_le {p : Bool} {l : List UInt8} {a : Nat} (ha : a ≤ l.length) : (∀ x, idsR p l a = .error x → x.2 ≤ l.length) ∧ (∀ y, idsR p l a = .ok y → y.2 ≤ l.length) := by
  have he := segs_ends l _ a rfl ha
  unfold idsR
  split
  · rename_i x hx
    obtain ⟨y, hy, e⟩ := bad_mem p l _ _ hx
    exact ⟨fun z hz => by cases hz; rw [← e]; exact (he y hy).2.1, fun z hz => by cases hz⟩
  · refine ⟨fun z hz => (by cases hz), fun z hz => ?_⟩
    cases hz
    obtain ⟨y, hy, e⟩ := last_mem (z := a) (xs := segs l a) (by rw [segs]; exact List.cons_ne_nil _ _)
    show lastE a (segs l a) ≤ _
    rw [e]; exact (he y hy).2.1
theorem build_le {l : List UInt8} {p : Nat} {pre : List (Nat × Nat)} (hp : p ≤ l.length) : ∀ x, buildR l p pre = .error x → x.2 ≤ l.length := by
  intro x hx
  unfold buildR at hx
  split at hx
  · rename_i h
    have := (List.getElem?_eq_some_iff.1 h).1
    have hi := ids_le (p := false) (l := l) (a := p + 1) (by omega)
    cases h1 : idsR false l (p + 1) with
    | error y => rw [h1] at hx; cases hx; exact hi.1 _ h1
    | ok y =>
      rw [h1] at hx
      obtain ⟨b, q⟩ := y
      dsimp only at hx
      split at hx
      · cases hx; exact hi.2 _ h1
      · cases hx
  · split at hx
    · cases hx; exact hp
    · cases hx
theorem tail_le {l : List UInt8} {e : Nat} (he : e ≤ l.length) : ∀ x, tailR l e = .error x → x.2 ≤ l.length := by
  intro x hx
  unfold tailR at hx
  split at hx
  · rename_i h
    have := (List.getElem?_eq_some_iff.1 h).1
    have hi := ids_le (p := true) (l := l) (a := e + 1) (by omega)
    cases h1 : idsR true l (e + 1) with
    | error y => rw [h1] at hx; cases hx; exact hi.1 _ h1
    | ok y =>
      rw [h1] at hx
      obtain ⟨b, q⟩ := y
      exact build_le (hi.2 _ h1) x hx
  · exact build_le he x hx
theorem fau_le (l : List UInt8) : (fauP l).2 ≤ l.length := by
  unfold fauP
  split
  · exact Nat.zero_le _
  · rename_i y hy
    unfold parseR at hy
    split at hy
    · cases hy; simp only; omega
    · cases h : numsR l with
      | error x => rw [h] at hy; cases hy; exact (nums_e l).1 _ h
      | ok x =>
        rw [h] at hy
        obtain ⟨a, b, c, d, e⟩ := x
        dsimp only at hy
        cases ht : tailR l e with
        | error z => rw [ht] at hy; cases hy; exact tail_le ((nums_e l).2 _ _ _ _ _ h) _ ht
        | ok z => rw [ht] at hy; obtain ⟨p, q⟩ := z; cases hy

theorem np_le {l : List UInt8} {a : Nat} (ha : a ≤ l.length) : (npL l a).1 ≤ l.length := by
  have h := runL_len 1 (l.drop a)
  rw [List.length_drop] at h
  unfold npL
  split
  · rename_i h
    have : a < l.length := by
      rcases Nat.lt_or_ge a l.length with h' | h'
      · exact h'
      · rw [List.getElem?_eq_none h'] at h; simp at h
    exact this
  · split
    · exact ha
    · split
      · simp only; omega
      · simp only; omega
theorem add_len {sg : List (Nat × Nat)} {i : Nat} (h : sg.length ≤ i) (o : Bool) (a e : Nat) : (addS sg i o a e).length ≤ i + 1 := by
  unfold addS
  split
  · simp; omega
  · omega
theorem rn_le {l : List UInt8} : ∀ (k i a : Nat) (sg : List (Nat × Nat)), a ≤ l.length → sg.length ≤ i → (∀ x, rnGo l k i a sg = .error x → x.1 ≤ l.length) ∧ (∀ x, rnGo l k i a sg = .ok x → x.2 ≤ l.length ∧ x.1.length ≤ i + k + 1)
  | 0, i, a, sg, ha, hs => by
    have h := np_le ha
    unfold rnGo
    split
    · exact ⟨fun x hx => by cases hx; exact h, fun x hx => by cases hx⟩
    · exact ⟨fun x hx => (by cases hx), fun x hx => by cases hx; exact ⟨h, add_len hs _ _ _⟩⟩
  | k + 1, i, a, sg, ha, hs => by
    have h := np_le ha
    unfold rnGo
    split
    · exact ⟨fun x hx => by cases hx; exact h, fun x hx => by cases hx⟩
    · split
      · rename_i hd
        have hlt := (List.getElem?_eq_some_iff.1 hd).1
        have := rn_le (l := l) k (i + 1) ((npL l a).1 + 1) (addS sg i (npL l a).2.1 a (npL l a).1) (by omega) (add_len hs _ _ _)
        exact ⟨this.1, fun x hx => ⟨(this.2 x hx).1, by have := (this.2 x hx).2; omega⟩⟩
      · exact ⟨fun x hx => (by cases hx), fun x hx => by cases hx; exact ⟨h, by have := add_len hs (npL l a).2.1 a (npL l a).1; simp only; omega⟩⟩
theorem rn_ne {l : List UInt8} : ∀ (k i a : Nat) (sg : List (Nat × Nat)) (x : Nat × Int), rnGo l k i a sg = .error x → x.2 ≠ 0
  | 0, i, a, sg, x, h => by
    unfold rnGo at h
    split at h
    · rename_i hr; cases h; exact hr
    · cases h
  | k + 1, i, a, sg, x, h => by
    unfold rnGo at h
    split at h
    · rename_i hr; cases h; exact hr
    · split at h
      · exact rn_ne (l := l) k _ _ _ x h
      · cases h
theorem txt6 {W : World} {v : Value} {ts : List (List UInt8)} {n B : Nat} (h : Txt W v ts) (hf : Fresh n v) (hB : B < n) (v0 v1 v2 v3 v4 v5 : Value) :
    Txt ((((((W.setCell ⟨B, 0, none⟩ v0).setCell ⟨B, 1, none⟩ v1).setCell ⟨B, 2, none⟩ v2).setCell ⟨B, 3, none⟩ v3).setCell ⟨B, 4, none⟩ v4).setCell ⟨B, 5, none⟩ v5) v ts :=
  txt_set (txt_set (txt_set (txt_set (txt_set (txt_set h hf hB _ _) hf hB _ _) hf hB _ _) hf hB _ _) hf hB _ _) hf hB _ _
theorem pre_le {l : List UInt8} {a : Nat} (ha : a ≤ l.length) (hl : l.length ≤ 256) : -5 ≤ (preR l a).2.1 ∧ (preR l a).2.1 ≤ 600 := by
  have hp := prL_le (l.drop a)
  rw [List.length_drop] at hp
  have hf := fau_le (preT l a (min (a + prL (l.drop a)) (a + 48)))
  have ht : (preT l a (min (a + prL (l.drop a)) (a + 48))).length ≤ 261 := by
    unfold preT seg
    simp
    omega
  unfold preR
  split
  · split
    · simp only; omega
    · split
      · simp only [wrap64]; omega
      · split <;> (simp only; omega)
  · simp only; omega

end Go.Proofs.YtpdlgiioahjhiaaGreat

namespace Go.Proofs.YtpdlgiioahjhiaaGreat
open Go.RowKit
set_option linter.unusedVariables false

theorem endP_long {l : List UInt8} {a : Nat} {p : PartL} {z r : Int} (h : 48 < z - a) : endP l a p z r = (partN, (a : Int) + 48, 12) := if_pos h
theorem endP_bad {l : List UInt8} {a : Nat} {p : PartL} {z r : Int} (h : ¬ 48 < z - a) (hr : ¬ r = 0) : endP l a p z r = (p, z, r) := by
  unfold endP; rw [if_neg h, if_neg (fun x => hr x.1)]
theorem endP_wrong {l : List UInt8} {a : Nat} {p : PartL} {e : Nat} (h : ¬ 48 < (e : Int) - a) (he : endsL l e = false) (hc : (l[e]?.map fun c => isC (c.toNat : Int) 6) = some false) : endP l a p (e : Int) 0 = (partN, (e : Int), 10) := by
  unfold endP; rw [if_neg h, Int.toNat_natCast, if_pos ⟨rfl, he, hc⟩]
theorem endP_blank {l : List UInt8} {a : Nat} {p : PartL} {e : Nat} (h : ¬ 48 < (e : Int) - a) (hc : (l[e]?.map fun c => isC (c.toNat : Int) 6) = some true) : endP l a p (e : Int) 0 = (p, (e : Int), 0) := by
  unfold endP; rw [if_neg h, Int.toNat_natCast, if_neg (fun x => by rw [x.2.2] at hc; cases hc)]
theorem endP_end {l : List UInt8} {a : Nat} {p : PartL} {e : Nat} (h : ¬ 48 < (e : Int) - a) (he : endsL l e = true) : endP l a p (e : Int) 0 = (p, (e : Int), 0) := by
  unfold endP; rw [if_neg h, Int.toNat_natCast, if_neg (fun x => by rw [x.2.1] at he; cases he)]
set_option maxRecDepth 100000 in
set_option maxHeartbeats 8000000 in
theorem readPartial_any (s : ByteArray) (a : Nat) (w : World) (hs : s.size ≤ 256) (ha : a ≤ s.size) :
    Calls Tryz.prog 83 #[.string s, .int .i64 (a : Int)] w (PartP w (rpL s.data.toList a)) := by
  have C0 := hide (fun W => prefix_any s a 118 W hs)
  have hv : vL s.data.toList a ≤ s.size ∧ (vL s.data.toList a : Int) = (a : Int) + ((staB s.data.toList a 118).size : Int) := by
    unfold vL
    by_cases h : s.data.toList[a]? = some 118
    · rw [if_pos h, pre_eq h]
      refine ⟨?_, by show _ = (a : Int) + 1; omega⟩
      rcases Nat.lt_or_ge a s.size with h' | h'
      · exact h'
      · rw [at_none s a (by omega)] at h; cases h
    · rw [if_neg h, pre_ne h]
      exact ⟨ha, by show _ = (a : Int) + 0; omega⟩
  have NC := hide (fun (z : Int) W (hz : z = (a : Int) + ((staB s.data.toList a 118).size : Int)) => (by rw [hz, ← hv.2]; exact readNumbers_any s _ W hs hv.1 : Calls Tryz.prog 119 #[.string s, .int .i64 z] W fun e w' => e = .returned (rnV s (rnGo s.data.toList 2 0 (vL s.data.toList a) [])) ∧ Below W.heap.size W w'))
  have hX : rpL s.data.toList a = rpL s.data.toList a := rfl
  conv at hX => rhs; unfold rpL
  have hv1 := hv.1
  have hsz : ((staB s.data.toList a 118).size : Int) ≤ 1 := by
    by_cases h : s.data.toList[a]? = some 118
    · rw [pre_eq h]; decide
    · rw [pre_ne h]; decide
  generalize rpL s.data.toList a = X at *
  generalize staB s.data.toList a 118 = sv at *
  generalize vL s.data.toList a = b at *
  have HX := hide hX
  clear hv hX
  go_enter Tryz.func83, Tryz.ntmps83
  go_wp2_with fail
  have hr0 := World.alloc_heap_new w (.cells #[.string ⟨#[]⟩, .string ⟨#[]⟩, .string ⟨#[]⟩, .slice none 0 0, .slice none 0 0, .int .i64 0] 54)
  have br0 : Below w.heap.size w (w.alloc (.cells #[.string ⟨#[]⟩, .string ⟨#[]⟩, .string ⟨#[]⟩, .slice none 0 0, .slice none 0 0, .int .i64 0] 54)) := (Below.refl _ w).alloc (Nat.le_refl _) _
  generalize w.alloc _ = W0 at *
  refine (C0.out _).mono ?_
  rintro e w1 ⟨rfl, hw1⟩
  have hr1 := (hw1.block _ (Array.getElem?_eq_some_iff.1 hr0).1).trans hr0
  have br1 := br0.trans (hw1.mono br0.size)
  clear hr0 br0 hw1
  go_wp2_with fail
  refine (NC.out _ _ rfl).mono ?_
  rintro e w2 ⟨rfl, hw2⟩
  have HR1 := hide hr1
  have BR1 := hide br1
  have HW2 := hide hw2
  clear hr1 br1 hw2
  cases hg : rnGo s.data.toList 2 0 b []
  case error x =>
    rw [hg] at HX
    have hx1 := (rn_le 2 0 b [] (by rw [len_data]; exact hv1) (Nat.zero_le _)).1 x hg
    rw [len_data] at hx1
    have hne := rn_ne 2 0 b [] x hg
    obtain ⟨x1, x2⟩ := x
    dsimp only at hx1 hne HX
    have hnb : (x2 == 0) = false := by simpa using hne
    unfold rnV partZ partV
    clear hg NC
    have P2 := hide (PB.start HR1.out BR1.out HW2.out ⟨#[]⟩ ⟨#[]⟩ ⟨#[]⟩ (.slice none 0 0) 0)
    dsimp only
    obtain ⟨q0, q1, q2, q3, q4, q5, q6⟩ := P2.out.seen
    obtain ⟨r1, f1, f2, f3, f4, f5, f6, r2, r3, r4, r5, r6⟩ := P2.out.seenR
    by_cases hlong : 48 < (x1 : Int) - (a : Int)
    · have hX := HX.out.trans (endP_long hlong)
      clear HX
      subst hX
      have hq : decide (48 < (x1 : Int) - (a : Int)) = true := by simp; omega
      clear hlong
      go_wp2_with fail
      exact fin81 _ _ w.heap.size _ _ _ _ _ _ _ ⟨_, _, _, rfl⟩ rfl rfl rfl (put6 _ _ _ _ _ _ P2.out.res) ⟨below6 P2.out.bel _ _ _ _ _ _, _, rfl, txt_nil _, (by rintro a i c h; cases h), (by rintro a n c h; cases h; exact Nat.le_refl _), _, _, _, rfl⟩
    have hq : decide (48 < (x1 : Int) - (a : Int)) = false := by simp; omega
    have hX := HX.out.trans (endP_bad hlong hne)
    clear HX hlong
    subst hX
    go_wp2_with fail
    exact fin81 _ _ w.heap.size _ _ _ _ _ _ _ ⟨_, _, _, rfl⟩ rfl rfl rfl (put6 _ _ _ _ _ _ P2.out.res) ⟨below6 P2.out.bel _ _ _ _ _ _, _, rfl, txt_nil _, (by rintro a i c h; cases h), (by rintro a n c h; cases h; exact Nat.le_refl _), _, _, _, rfl⟩
  case ok x =>
    rw [hg] at HX
    have hx := (rn_le 2 0 b [] (by rw [len_data]; exact hv1) (Nat.zero_le _)).2 x hg
    rw [len_data] at hx
    obtain ⟨sg, e⟩ := x
    obtain ⟨hx1, hx2⟩ := hx
    dsimp only at hx1 hx2 HX
    clear hg NC
    unfold rnV partV
    simp only [segS_eq]
    by_cases h3 : sg.length = 3
    · replace HX := hide (HX.out.trans (if_pos h3))
      rw [h3]
      have RP := hide (fun W => readPre_any s e W hs hx1)
      have hpl := pre_le (l := s.data.toList) (a := e) (by rw [len_data]; exact hx1) (by rw [len_data]; exact hs)
      have hok := fun h => pre_ok (l := s.data.toList) (a := e) (by rw [len_data]; exact hx1) h
      rw [len_data] at hok
      generalize preR s.data.toList e = pq at *
      obtain ⟨pl, z, r⟩ := pq
      dsimp only at hpl hok HX
      obtain ⟨hpl1, hpl2⟩ := hpl
      have hok := hide hok
      have P2 := hide (PB.start HR1.out BR1.out HW2.out (ofL (segT s.data.toList sg 0)) (ofL (segT s.data.toList sg 1)) (ofL (segT s.data.toList sg 2)) (.slice none 0 0) 3)
      try dsimp only
      obtain ⟨q0, q1, q2, q3, q4, q5, q6⟩ := P2.out.seen
      obtain ⟨r1, f1, f2, f3, f4, f5, f6, r2, r3, r4, r5, r6⟩ := P2.out.seenR
      go_wp2_with fail
      have HBW := hide P2.out.lt
      clear q0 q1 q2 q3 q4 q5 q6 r1 f1 f2 f3 f4 f5 f6 r2 r3 r4 r5 r6
      generalize w2.alloc _ = W3 at *
      refine (RP.out _).mono ?_
      rintro e' w4 ⟨b4, v, rfl, t1, fr, cp, av, nv, cv, rfl⟩
      have P3 := hide (P2.out.below b4)
      have P4 := hide (P3.out.put (.slice av nv cv))
      have TX := hide (txt_set t1 fr HBW.out 3 (.slice av nv cv))
      have FR := hide fr
      have CPX := hide cp
      clear t1 fr cp b4 RP
      obtain ⟨g0, g1, g2, g3, g4, g5, g6⟩ := P3.out.seen
      obtain ⟨q0, q1, q2, q3, q4, q5, q6⟩ := P4.out.seen
      obtain ⟨r1, f1, f2, f3, f4, f5, f6, r2, r3, r4, r5, r6⟩ := P4.out.seenR
      dsimp only at HX TX
      by_cases hlong : 48 < (z : Int) - (a : Int)
      · have hX := HX.out.trans (endP_long hlong)
        clear HX
        subst hX
        have hq : decide (48 < (z : Int) - (a : Int)) = true := by simp; omega
        clear hlong
        go_wp2_with fail
        exact fin81 _ _ w.heap.size _ _ _ _ _ _ _ ⟨_, _, _, rfl⟩ rfl rfl rfl (put6 _ _ _ _ _ _ P4.out.res) ⟨below6 P4.out.bel _ _ _ _ _ _, _, rfl, txt_nil _, (by rintro a i c h; cases h), (by rintro a n c h; cases h; exact Nat.le_refl _), _, _, _, rfl⟩
      have hq : decide (48 < (z : Int) - (a : Int)) = false := by simp; omega
      by_cases hr0 : r = 0
      · obtain ⟨e2, hzn, hza, hzb⟩ := hok.out hr0
        subst hr0 hzn
        clear hok
        have hlz : e2 ≤ s.size := by omega
        cases he : endsL s.data.toList e2
        · have hlt : e2 < s.size := by
            rcases Nat.lt_or_ge e2 s.size with h | h
            · exact h
            · have h5 : e2 = s.data.toList.length := by rw [len_data]; omega
              unfold endsL at he; rw [decide_eq_true h5] at he; cases he
          have CE := hide (fun W => setEnds_any s e2 W hlz)
          rw [he] at CE
          cases hc : isC (s[e2].toNat : Int) 6
          · have hX := HX.out.trans (endP_wrong hlong he (by rw [at_some s e2 hlt]; simp [hc]))
            clear HX he hlong
            subst hX
            go_wp2_with (first | (go_at_call 88; refine (CE.out _).mono ?_; rintro e9 w9 ⟨rfl, rfl⟩) | (go_at_call 55; refine (Is_any _ _ _).mono ?_; rintro e9 w9 ⟨rfl, rfl⟩))
            exact fin81 _ _ w.heap.size _ _ _ _ _ _ _ ⟨_, _, _, rfl⟩ rfl rfl rfl (put6 _ _ _ _ _ _ P4.out.res) ⟨below6 P4.out.bel _ _ _ _ _ _, _, rfl, txt_nil _, (by rintro a i c h; cases h), (by rintro a n c h; cases h; exact Nat.le_refl _), _, _, _, rfl⟩
          · have hX := HX.out.trans (endP_blank hlong (by rw [at_some s e2 hlt]; simp [hc]))
            clear HX he hlong
            subst hX
            go_wp2_with (first | (go_at_call 88; refine (CE.out _).mono ?_; rintro e9 w9 ⟨rfl, rfl⟩) | (go_at_call 55; refine (Is_any _ _ _).mono ?_; rintro e9 w9 ⟨rfl, rfl⟩))
            exact fin81 _ _ w.heap.size _ _ _ _ _ _ _ ⟨_, _, _, rfl⟩ rfl rfl rfl (put6 _ _ _ _ _ _ P4.out.res) ⟨below6 P4.out.bel _ _ _ _ _ _, _, rfl, txt6 TX.out FR.out (by have := P4.out.big; have := HBW.out; omega) _ _ _ _ _ _, fresh_mono FR.out (by have := P4.out.big; have := HBW.out; omega), CPX.out, _, _, _, rfl⟩
        · have hX := HX.out.trans (endP_end hlong he)
          have CE := hide (fun W => setEnds_any s e2 W hlz)
          rw [he] at CE
          clear HX he hlong
          subst hX
          go_wp2_with (first | (go_at_call 88; refine (CE.out _).mono ?_; rintro e9 w9 ⟨rfl, rfl⟩) | (go_at_call 55; refine (Is_any _ _ _).mono ?_; rintro e9 w9 ⟨rfl, rfl⟩))
          exact fin81 _ _ w.heap.size _ _ _ _ _ _ _ ⟨_, _, _, rfl⟩ rfl rfl rfl (put6 _ _ _ _ _ _ P4.out.res) ⟨below6 P4.out.bel _ _ _ _ _ _, _, rfl, txt6 TX.out FR.out (by have := P4.out.big; have := HBW.out; omega) _ _ _ _ _ _, fresh_mono FR.out (by have := P4.out.big; have := HBW.out; omega), CPX.out, _, _, _, rfl⟩
      have hne : ¬ r = 0 := hr0
      have hnb : (r == 0) = false := by simpa using hr0
      clear hr0
      have hX := HX.out.trans (endP_bad hlong hne)
      clear HX hlong
      subst hX
      go_wp2_with fail
      exact fin81 _ _ w.heap.size _ _ _ _ _ _ _ ⟨_, _, _, rfl⟩ rfl rfl rfl (put6 _ _ _ _ _ _ P4.out.res) ⟨below6 P4.out.bel _ _ _ _ _ _, _, rfl, txt6 TX.out FR.out (by have := P4.out.big; have := HBW.out; omega) _ _ _ _ _ _, fresh_mono FR.out (by have := P4.out.big; have := HBW.out; omega), CPX.out, _, _, _, rfl⟩
    · replace HX := hide (HX.out.trans (if_neg h3))
      have h3b : ((sg.length : Int) == 3) = false := by simp; omega
      clear h3
      have P2 := hide (PB.start HR1.out BR1.out HW2.out (ofL (segT s.data.toList sg 0)) (ofL (segT s.data.toList sg 1)) (ofL (segT s.data.toList sg 2)) (.slice none 0 0) (sg.length : Int))
      try dsimp only
      obtain ⟨q0, q1, q2, q3, q4, q5, q6⟩ := P2.out.seen
      obtain ⟨r1, f1, f2, f3, f4, f5, f6, r2, r3, r4, r5, r6⟩ := P2.out.seenR
      by_cases hlong : 48 < (e : Int) - (a : Int)
      · have hX := HX.out.trans (endP_long hlong)
        clear HX
        subst hX
        have hq : decide (48 < (e : Int) - (a : Int)) = true := by simp; omega
        clear hlong
        go_wp2_with fail
        exact fin81 _ _ w.heap.size _ _ _ _ _ _ _ ⟨_, _, _, rfl⟩ rfl rfl rfl (put6 _ _ _ _ _ _ P2.out.res) ⟨below6 P2.out.bel _ _ _ _ _ _, _, rfl, txt_nil _, (by rintro a i c h; cases h), (by rintro a n c h; cases h; exact Nat.le_refl _), _, _, _, rfl⟩
      have hq : decide (48 < (e : Int) - (a : Int)) = false := by simp; omega
      have hlz : e ≤ s.size := by omega
      cases he : endsL s.data.toList e
      · have hlt : e < s.size := by
          rcases Nat.lt_or_ge e s.size with h | h
          · exact h
          · have h5 : e = s.data.toList.length := by rw [len_data]; omega
            unfold endsL at he; rw [decide_eq_true h5] at he; cases he
        have CE := hide (fun W => setEnds_any s e W hlz)
        rw [he] at CE
        cases hc : isC (s[e].toNat : Int) 6
        · have hX := HX.out.trans (endP_wrong hlong he (by rw [at_some s e hlt]; simp [hc]))
          clear HX he hlong
          subst hX
          go_wp2_with (first | (go_at_call 88; refine (CE.out _).mono ?_; rintro e9 w9 ⟨rfl, rfl⟩) | (go_at_call 55; refine (Is_any _ _ _).mono ?_; rintro e9 w9 ⟨rfl, rfl⟩))
          exact fin81 _ _ w.heap.size _ _ _ _ _ _ _ ⟨_, _, _, rfl⟩ rfl rfl rfl (put6 _ _ _ _ _ _ P2.out.res) ⟨below6 P2.out.bel _ _ _ _ _ _, _, rfl, txt_nil _, (by rintro a i c h; cases h), (by rintro a n c h; cases h; exact Nat.le_refl _), _, _, _, rfl⟩
        · have hX := HX.out.trans (endP_blank hlong (by rw [at_some s e hlt]; simp [hc]))
          clear HX he hlong
          subst hX
          go_wp2_with (first | (go_at_call 88; refine (CE.out _).mono ?_; rintro e9 w9 ⟨rfl, rfl⟩) | (go_at_call 55; refine (Is_any _ _ _).mono ?_; rintro e9 w9 ⟨rfl, rfl⟩))
          exact fin81 _ _ w.heap.size _ _ _ _ _ _ _ ⟨_, _, _, rfl⟩ rfl rfl rfl (put6 _ _ _ _ _ _ P2.out.res) ⟨below6 P2.out.bel _ _ _ _ _ _, _, rfl, txt_nil _, (by rintro a i c h; cases h), (by rintro a n c h; cases h; exact Nat.le_refl _), _, _, _, rfl⟩
      · have hX := HX.out.trans (endP_end hlong he)
        have CE := hide (fun W => setEnds_any s e W hlz)
        rw [he] at CE
        clear HX he hlong
        subst hX
        go_wp2_with (first | (go_at_call 88; refine (CE.out _).mono ?_; rintro e9 w9 ⟨rfl, rfl⟩) | (go_at_call 55; refine (Is_any _ _ _).mono ?_; rintro e9 w9 ⟨rfl, rfl⟩))
        exact fin81 _ _ w.heap.size _ _ _ _ _ _ _ ⟨_, _, _, rfl⟩ rfl rfl rfl (put6 _ _ _ _ _ _ P2.out.res) ⟨below6 P2.out.bel _ _ _ _ _ _, _, rfl, txt_nil _, (by rintro a i c h; cases h), (by rintro a n c h; cases h; exact Nat.le_refl _), _, _, _, rfl⟩

end Go.Proofs.YtpdlgiioahjhiaaGreat

namespace Go.Proofs.YtpdlgiioahjhiaaGreat
open Go.RowKit
set_option linter.unusedVariables false

def ops9 : List (List UInt8 × Nat) := [([], 160), ([61], 160), ([60], 161), ([60, 61], 87), ([62], 162), ([62, 61], 85), ([126], 163), ([126, 62], 163), ([94], 164)]
def opStep (l : List UInt8) (x y : List UInt8 × Nat) : List UInt8 × Nat := if hasP l y.1 = true ∧ x.1.length ≤ y.1.length then y else x
def opGo (l : List UInt8) (k : Nat) : List UInt8 × Nat := (ops9.take k).foldl (opStep l) ([], 0)
def opL (l : List UInt8) (a : Nat) : List UInt8 × Nat := opGo (l.drop a) 9
theorem opGo_succ (l : List UInt8) (k : Nat) (h : k < ops9.length) : opGo l (k + 1) = opStep l (opGo l k) ops9[k] := by
  unfold opGo
  rw [List.take_succ_eq_append_getElem h, List.foldl_append]
  rfl
def opCells : Array Value := #[.string ⟨#[]⟩, .func (.func 160) #[] #[], .string ⟨#[61]⟩, .func (.func 160) #[] #[], .string ⟨#[60]⟩, .func (.func 161) #[] #[], .string ⟨#[60, 61]⟩, .func (.func 87) #[] #[], .string ⟨#[62]⟩, .func (.func 162) #[] #[], .string ⟨#[62, 61]⟩, .func (.func 85) #[] #[], .string ⟨#[126]⟩, .func (.func 163) #[] #[], .string ⟨#[126, 62]⟩, .func (.func 163) #[] #[], .string ⟨#[94]⟩, .func (.func 164) #[] #[]]

theorem operators_any (w : World) : Calls Tryz.prog 150 #[] w fun e w' => e = .returned (.slice (some ⟨w.heap.size, 0, none⟩) 9 9) ∧ w' = w.alloc (.cells opCells 148) := by
  go_enter Tryz.func150, Tryz.ntmps150
  go_wp2_with fail
  go_ret
  exact ⟨rfl, rfl⟩

def fnV (f : Nat) : Value := if f = 0 then .nilFunc else .func (.func f) #[] #[]
structure OW (w W : World) (x : List UInt8 × Nat) : Prop where
  res : W.heap[w.heap.size]? = some (.cells #[.string ⟨#[]⟩, .nilFunc] 148 (0, 0))
  top : W.heap[w.heap.size + 1]? = some (.cells #[.string (ofL x.1), fnV x.2] 148 (0, 0))
  row : W.heap[w.heap.size + 2]? = some (.cells opCells 148 (0, 0))
  bel : Below w.heap.size w W
theorem OW.lt {w W : World} {x : List UInt8 × Nat} (h : OW w W x) : w.heap.size + 2 < W.heap.size := (Array.getElem?_eq_some_iff.1 h.row).1
theorem OW.below {w W W' : World} {x : List UInt8 × Nat} (h : OW w W x) (hb : Below W.heap.size W W') : OW w W' x :=
  ⟨(hb.block _ (by have := h.lt; omega)).trans h.res, (hb.block _ (by have := h.lt; omega)).trans h.top, (hb.block _ h.lt).trans h.row, h.bel.trans (hb.mono (by have := h.lt; omega))⟩
theorem OW.put {w W : World} {x : List UInt8 × Nat} (h : OW w W x) (y : List UInt8 × Nat) : OW w ((W.setCell ⟨w.heap.size + 1, 0, none⟩ (.string (ofL y.1))).setCell ⟨w.heap.size + 1, 1, none⟩ (fnV y.2)) y := by
  have h1 := set_lies 1 (fnV y.2) (set_lies 0 (.string (ofL y.1)) h.top)
  have l : Lies W [(w.heap.size, _), (w.heap.size + 2, _)] := Lies.cons h.res (Lies.cons h.row (Lies.nil W))
  have l1 := (l.other (w.heap.size + 1) 0 (.string (ofL y.1)) (by intro p hp; simp at hp; rcases hp with rfl | rfl <;> simp)).other (w.heap.size + 1) 1 (fnV y.2) (by intro p hp; simp at hp; rcases hp with rfl | rfl <;> simp)
  exact ⟨l1.head, h1, l1.tail.head, (h.bel.setCell (by simp) _).setCell (by simp) _⟩
theorem OW.start (w : World) : OW w (((w.alloc (.cells #[.string ⟨#[]⟩, .nilFunc] 148)).alloc (.cells #[.string ⟨#[]⟩, .nilFunc] 148)).alloc (.cells opCells 148)) ([], 0) := by
  have h1 := World.alloc_heap_new w (.cells #[.string ⟨#[]⟩, .nilFunc] 148)
  have b1 : Below w.heap.size w (w.alloc (.cells #[.string ⟨#[]⟩, .nilFunc] 148)) := (Below.refl _ w).alloc (Nat.le_refl _) _
  have s1 : (w.alloc (.cells #[.string ⟨#[]⟩, .nilFunc] 148)).heap.size = w.heap.size + 1 := by simp
  generalize w.alloc (.cells #[.string ⟨#[]⟩, .nilFunc] 148) = A at *
  have h2 := World.alloc_heap_new A (.cells #[.string ⟨#[]⟩, .nilFunc] 148)
  have l2 := (Lies.cons h1 (Lies.nil A)).alloc (.cells #[.string ⟨#[]⟩, .nilFunc] 148)
  have b2 : Below w.heap.size w (A.alloc (.cells #[.string ⟨#[]⟩, .nilFunc] 148)) := b1.alloc (by omega) _
  have s2 : (A.alloc (.cells #[.string ⟨#[]⟩, .nilFunc] 148)).heap.size = w.heap.size + 2 := by simp [s1]
  rw [s1] at h2
  generalize A.alloc (.cells #[.string ⟨#[]⟩, .nilFunc] 148) = C at *
  have h3 := World.alloc_heap_new C (.cells opCells 148)
  have l3 := (Lies.cons h2 l2).alloc (.cells opCells 148)
  rw [s2] at h3
  exact ⟨l3.tail.head, l3.head, h3, b2.alloc (by omega) _⟩
theorem OW.seen {w W : World} {x : List UInt8 × Nat} (h : OW w W x) : W.cell? ⟨w.heap.size + 1, 0, none⟩ = some (.string (ofL x.1)) ∧ W.cell? ⟨w.heap.size + 1, 1, none⟩ = some (fnV x.2) ∧ W.frozen? ⟨w.heap.size + 1, 0, none⟩ = false ∧ W.frozen? ⟨w.heap.size + 1, 1, none⟩ = false ∧
    W.cell? ⟨w.heap.size, 0, none⟩ = some (.string ⟨#[]⟩) ∧ W.cell? ⟨w.heap.size, 1, none⟩ = some .nilFunc ∧ W.frozen? ⟨w.heap.size, 0, none⟩ = false ∧ W.frozen? ⟨w.heap.size, 1, none⟩ = false :=
  ⟨cell_at 0 h.top rfl, cell_at 1 h.top rfl, one_free 0 h.top, one_free 1 h.top, cell_at 0 h.res rfl, cell_at 1 h.res rfl, one_free 0 h.res, one_free 1 h.res⟩
theorem op_cells (k : Nat) (h : k < 9) : opCells[k * 2]? = some (.string (ofL (ops9[k]'h).1)) ∧ opCells[k * 2 + 1]? = some (.func (.func (ops9[k]'h).2) #[] #[]) ∧ (ops9[k]'h).2 ≠ 0 ∧ (ops9[k]'h).1.length ≤ 2 := by
  match k, h with
  | 0, _ => exact ⟨rfl, rfl, Nat.ne_of_beq_eq_false rfl, Nat.le_of_ble_eq_true rfl⟩
  | 1, _ => exact ⟨rfl, rfl, Nat.ne_of_beq_eq_false rfl, Nat.le_of_ble_eq_true rfl⟩
  | 2, _ => exact ⟨rfl, rfl, Nat.ne_of_beq_eq_false rfl, Nat.le_of_ble_eq_true rfl⟩
  | 3, _ => exact ⟨rfl, rfl, Nat.ne_of_beq_eq_false rfl, Nat.le_of_ble_eq_true rfl⟩
  | 4, _ => exact ⟨rfl, rfl, Nat.ne_of_beq_eq_false rfl, Nat.le_of_ble_eq_true rfl⟩
  | 5, _ => exact ⟨rfl, rfl, Nat.ne_of_beq_eq_false rfl, Nat.le_of_ble_eq_true rfl⟩
  | 6, _ => exact ⟨rfl, rfl, Nat.ne_of_beq_eq_false rfl, Nat.le_of_ble_eq_true rfl⟩
  | 7, _ => exact ⟨rfl, rfl, Nat.ne_of_beq_eq_false rfl, Nat.le_of_ble_eq_true rfl⟩
  | 8, _ => exact ⟨rfl, rfl, Nat.ne_of_beq_eq_false rfl, Nat.le_of_ble_eq_true rfl⟩
theorem op_len (l : List UInt8) : ∀ k, k ≤ 9 → (opGo l k).1.length ≤ 2
  | 0, _ => Nat.le_of_ble_eq_true rfl
  | k + 1, h => by
    rw [opGo_succ l k h]
    unfold opStep
    split
    · exact (op_cells k h).2.2.2
    · exact op_len l k (by omega)
theorem op_fn (l : List UInt8) : ∀ k, k ≤ 9 → 0 < k → (opGo l k).2 ≠ 0
  | 0, _, h => absurd h (by decide)
  | 1, _, _ => by
    rw [opGo_succ l 0 (by decide)]
    unfold opStep
    rw [if_pos ⟨by show hasP l [] = true; simp [hasP], Nat.le_of_ble_eq_true rfl⟩]
    exact Nat.ne_of_beq_eq_false rfl
  | k + 2, h, _ => by
    rw [opGo_succ l (k + 1) h]
    unfold opStep
    split
    · exact (op_cells (k + 1) h).2.2.1
    · exact op_fn l (k + 1) (by omega) (by omega)

theorem put2 {W : World} {B : Nat} {t : TypeId} {u0 u1 : Value} (v0 v1 : Value) (h : W.heap[B]? = some (.cells #[u0, u1] t (0, 0))) :
    ((W.setCell ⟨B, 0, none⟩ v0).setCell ⟨B, 1, none⟩ v1).heap[B]? = some (.cells #[v0, v1] t (0, 0)) := set_lies 1 v1 (set_lies 0 v0 h)
theorem fin121 {R : Ending → World → Prop} (tmps : Array Value) (W : World) (B : Nat) (x : ByteArray) (f : Nat)
    (h4 : tmps.getD 4 undef = .pointer (some ⟨B, 0, none⟩)) (e1 : W.heap[B]? = some (.cells #[.string x, .func (.func f) #[] #[]] 148 (0, 0)))
    (hR : R (.returned (.agg #[.string x, .func (.func f) #[] #[]])) W) : bodyPost Tryz.prog Tryz.f123 R .ret { tmps := tmps, defers := [] } W := by
  have r0 := cell_at 0 e1 rfl
  have r1 := cell_at 1 e1 rfl
  rw [Array.getD_eq_getD_getElem?] at h4
  refine ⟨rfl, _, ?_, hR⟩
  simp [results, Tryz.results123, go_sem, h4, r0, r1]
  try rfl

set_option maxRecDepth 100000 in
set_option maxHeartbeats 4000000 in
theorem operatorAt_any (s : ByteArray) (a : Nat) (w : World) (hs : s.size ≤ 256) (ha : a ≤ s.size) :
    Calls Tryz.prog 123 #[.string s, .int .i64 (a : Int)] w fun e w' => e = .returned (.agg #[.string (ofL (opL s.data.toList a).1), .func (.func (opL s.data.toList a).2) #[] #[]]) ∧ Below w.heap.size w w' := by
  have CH := hide (fun (x : List UInt8) W => (by have := HasPrefix_any (s.extract a s.size) (ofL x) W; rw [ofL_data, show (s.extract a s.size).data.toList = s.data.toList.drop a by rw [extract_end, ofL_data]] at this; exact this : Calls Tryz.prog 124 #[.string (s.extract a s.size), .string (ofL x)] W fun e w' => e = .returned (.bool (hasP (s.data.toList.drop a) x)) ∧ w' = W))
  unfold opL
  generalize s.data.toList.drop a = l at *
  have hA : (0 : Int) ≤ (a : Int) := Int.natCast_nonneg _
  have hB : (a : Int) ≤ (s.size : Int) := by omega
  go_enter Tryz.func123, Tryz.ntmps123
  go_wp2_with fail
  refine (operators_any _).mono ?_
  rintro e w1 ⟨rfl, rfl⟩
  have W0 := OW.start w
  generalize ((w.alloc _).alloc _).alloc _ = V0 at *
  have W0 := hide W0
  try dsimp only
  go_wp2_with fail
  go_loopw [10] (fun y wr => ∃ k : Nat, k ≤ 9 ∧ y = .int .i64 k ∧ OW w wr (opGo l k)) (fun y _ => 9 - (intOf y).toNat)
  case atStart => exact ⟨0, by omega, rfl, W0.out⟩
  case round =>
    obtain ⟨k, hk, rfl, hW⟩ := hrel
    obtain ⟨g0, g1, g2, g3, g4, g5, g6, g7⟩ := hW.seen
    have hbl := hide (op_len l k hk)
    by_cases hlt : k < 9
    · have hlt' : (k : Int) < 9 := by omega
      obtain ⟨o1, o2, o3, o4⟩ := op_cells k hlt
      have c0 := cell_at (k * 2) hW.row o1
      have c1 := cell_at (k * 2 + 1) hW.row o2
      have HN := hide (opGo_succ l k hlt)
      generalize ops9[k]'hlt = y at *
      obtain ⟨y1, y2⟩ := y
      dsimp only at c0 c1 o3 o4 HN
      have HS := hide hW
      generalize hxq : opGo l k = x at *
      obtain ⟨x1, x2⟩ := x
      clear o1 o2 hW
      dsimp only at g0 g1 HS hbl
      have hfy : fnV y2 = .func (.func y2) #[] #[] := if_neg o3
      have hB1 := hide (HS.out.below ((Below.refl _ wr).alloc (Nat.le_refl _) (.cells #[.string (ofL y1), .func (.func y2) #[] #[]] 148)))
      have n0 := World.alloc_heap_new wr (.cells #[.string (ofL y1), .func (.func y2) #[] #[]] 148)
      clear g0 g1 g2 g3 g4 g5 g6 g7
      have CY := hide (CH.out y1)
      have HSZ : Hid ((ofL x1).size = x1.length ∧ (ofL y1).size = y1.length) := ⟨ofL_size x1, ofL_size y1⟩
      cases hp : hasP l y1
      · have HN2 : Hid (opGo l (k + 1) = (x1, x2)) := hide (by rw [HN.out]; exact if_neg (fun h => by rw [hp] at h; cases h.1))
        rw [hp] at CY
        clear hp HN hxq
        go_wp2_with fail
        generalize wr.alloc _ = V at *
        obtain ⟨g0, g1, g2, g3, g4, g5, g6, g7⟩ := hB1.out.seen
        have v0 := cell_at 0 n0 rfl
        have v1 := cell_at 1 n0 rfl
        dsimp only at g0 g1
        go_quiet ((go_at_call 124; exact Calls.quiet_of_same (CY.out _)))
        go_wp2_with fail
        go_roundw
        case rel => exact ⟨k + 1, by omega, by go_num, by rw [HN2.out]; exact hB1.out.below (below_drewN _ _ _)⟩
        case measure => simp [intOf]; omega
      · rw [hp] at CY
        by_cases hle : x1.length ≤ y1.length
        · have HN2 : Hid (opGo l (k + 1) = (y1, y2)) := hide (by rw [HN.out]; exact if_pos ⟨hp, hle⟩)
          have b1 : (ofL x1).size ≤ (ofL y1).size := by rw [HSZ.out.1, HSZ.out.2]; exact hle
          clear hp HN hle hxq
          go_wp2_with fail
          generalize wr.alloc _ = V at *
          obtain ⟨g0, g1, g2, g3, g4, g5, g6, g7⟩ := hB1.out.seen
          have v0 := cell_at 0 n0 rfl
          have v1 := cell_at 1 n0 rfl
          dsimp only at g0 g1
          go_quiet ((go_at_call 124; exact Calls.quiet_of_same (CY.out _)))
          have HPUT := hide (fun m => (hB1.out.below (below_drewN _ _ m)).put (y1, y2))
          go_wp2_with fail
          go_roundw
          case rel => exact ⟨k + 1, by omega, by go_num, by rw [HN2.out]; have := HPUT.out nq; dsimp only at this; rw [hfy] at this; exact this⟩
          case measure => simp [intOf]; omega
        · have HN2 : Hid (opGo l (k + 1) = (x1, x2)) := hide (by rw [HN.out]; exact if_neg (fun h => hle h.2))
          have b1 : ¬ (ofL x1).size ≤ (ofL y1).size := by rw [HSZ.out.1, HSZ.out.2]; exact hle
          clear hp HN hle hxq
          go_wp2_with fail
          generalize wr.alloc _ = V at *
          obtain ⟨g0, g1, g2, g3, g4, g5, g6, g7⟩ := hB1.out.seen
          have v0 := cell_at 0 n0 rfl
          have v1 := cell_at 1 n0 rfl
          dsimp only at g0 g1
          go_quiet ((go_at_call 124; exact Calls.quiet_of_same (CY.out _)))
          go_wp2_with fail
          go_roundw
          case rel => exact ⟨k + 1, by omega, by go_num, by rw [HN2.out]; exact hB1.out.below (below_drewN _ _ _)⟩
          case measure => simp [intOf]; omega
    · have hk9 : k = 9 := by omega
      subst hk9
      have hfn := op_fn l 9 (by omega) (by omega)
      have hfy : fnV (opGo l 9).2 = .func (.func (opGo l 9).2) #[] #[] := if_neg hfn
      have HS := hide hW
      rw [hfy] at g1
      have HT := hide (put2 (.string (ofL (opGo l 9).1)) (.func (.func (opGo l 9).2) #[] #[]) hW.res)
      clear hW hlt hfn hfy
      go_wp2_with fail
      exact fin121 _ _ w.heap.size _ _ rfl HT.out ⟨rfl, (HS.out.bel.setCell (Nat.le_refl _) _).setCell (Nat.le_refl _) _⟩

end Go.Proofs.YtpdlgiioahjhiaaGreat
