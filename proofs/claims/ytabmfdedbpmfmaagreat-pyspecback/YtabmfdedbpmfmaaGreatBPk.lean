/-
  Walks: Parse. · Walks: orders of parts.
-/
import Derived.Test.YtabmfdedbpmfmaaGreatBPi
namespace Go.Proofs.YtabmfdedbpmfmaaGreat
open Go.RowKit Go.Shelf
set_option linter.unusedVariables false

def lowL (l : List UInt8) : List UInt8 := l.map lowC
structure PepF (n₀ : Nat) (W : World) (v : Value) (u : List UInt8) : Prop where
  ex : ∃ vr vl, v = pepV (ofL (epoT u (vp1 u))) vr (preC u (vp3 u)) (ofL (stN u (vp3 u) preWs)) (posB u (vp4 u)) (ofL (posN u (vp4 u))) (wordL u (vp5 u) devWs).isSome (ofL (stN u (vp5 u) devWs)) vl ∧
    W.ownsRow n₀ 9 1 vr (vals u (vrel u)).length (vals u (vrel u)) ∧ W.ownsRow n₀ 9 1 vl (vals u (vlocs u)).length (vals u (vlocs u))
def PPost (l : List UInt8) (w : World) (r : Ending) (w' : World) : Prop :=
  Below w.heap.size w w' ∧
    if 64 < l.length then r = .returned (.tuple #[.agg pepZ, .agg #[.int .i64 12, .int .i64 64]])
    else if (verX (lowL l)).1 = 0 then ∃ v, r = .returned (.tuple #[v, .agg #[.int .i64 0, .int .i64 0]]) ∧ PepF w.heap.size w' v (lowL l)
    else r = .returned (.tuple #[.agg pepZ, .agg #[.int .i64 (verX (lowL l)).1, .int .i64 ((verX (lowL l)).2 : Int)]])

theorem fin7 {R : Ending → World → Prop} (tmps : Array Value) (W : World) (B C : Nat) (x y : Int) (e : ByteArray) (vr : Value) (c : Int) (n : ByteArray) (b : Bool) (m : ByteArray) (d : Bool) (k : ByteArray) (vl : Value) (op : ∃ a i c, vr = .slice a i c) (ob : ∃ a i c, vl = .slice a i c)
    (h2 : tmps.getD 2 undef = .pointer (some ⟨B, 0, none⟩)) (h3 : tmps.getD 3 undef = .pointer (some ⟨C, 0, none⟩)) (e1 : W.heap[B]? = some (.cells #[.string e, vr, .int .u8 c, .string n, .bool b, .string m, .bool d, .string k, vl] 44 (0, 0))) (e2 : W.heap[C]? = some (.cells #[.int .i64 x, .int .i64 y] 25 (0, 0)))
    (hR : R (.returned (.tuple #[pepV e vr c n b m d k vl, .agg #[.int .i64 x, .int .i64 y]])) W) :
    bodyPost Tryz.prog Tryz.f67 R .ret { tmps := tmps, defers := [] } W := by
  obtain ⟨a1, i1, c1, rfl⟩ := op
  obtain ⟨a2, i2, c2, rfl⟩ := ob
  obtain ⟨r0, r1, r2, r3, r4, r5, r6, r7, r8⟩ := seen9 e1
  have s0 := cell_at 0 e2 rfl
  have s1 := cell_at 1 e2 rfl
  rw [Array.getD_eq_getD_getElem?] at h2 h3
  refine ⟨rfl, _, ?_, hR⟩
  simp [results, Tryz.results67, go_sem, h2, h3, r0, r1, r2, r3, r4, r5, r6, r7, r8, s0, s1]
  try rfl

theorem lowL_len (l : List UInt8) : (lowL l).length = l.length := by simp [lowL]

set_option maxRecDepth 100000 in
set_option maxHeartbeats 4000000 in
theorem Parse_any (s : ByteArray) (w : World) (hs : s.size ≤ maxLen) : Calls Tryz.prog 67 #[.string s] w (PPost s.data.toList w) := by
  obtain ⟨W0, hW0⟩ : ∃ W0, W0 = (w.alloc (.cells #[.string ⟨#[]⟩, .slice none 0 0, .int .u8 0, .string ⟨#[]⟩, .bool false, .string ⟨#[]⟩, .bool false, .string ⟨#[]⟩, .slice none 0 0] 44)).alloc (.cells #[.int .i64 0, .int .i64 0] 25) := ⟨_, rfl⟩
  have k0 := World.alloc_heap_new w (.cells #[.string ⟨#[]⟩, .slice none 0 0, .int .u8 0, .string ⟨#[]⟩, .bool false, .string ⟨#[]⟩, .bool false, .string ⟨#[]⟩, .slice none 0 0] 44)
  have k1 := World.alloc_heap_new (w.alloc (.cells #[.string ⟨#[]⟩, .slice none 0 0, .int .u8 0, .string ⟨#[]⟩, .bool false, .string ⟨#[]⟩, .bool false, .string ⟨#[]⟩, .slice none 0 0] 44)) (.cells #[.int .i64 0, .int .i64 0] 25)
  simp only [World.size_alloc] at k1
  have E0 : Hid (W0.heap[w.heap.size]? = some (.cells #[.string ⟨#[]⟩, .slice none 0 0, .int .u8 0, .string ⟨#[]⟩, .bool false, .string ⟨#[]⟩, .bool false, .string ⟨#[]⟩, .slice none 0 0] 44 (0, 0))) := by rw [hW0]; exact (Below.heap_alloc _ _ _ (by simp)).trans k0
  have E1 : Hid (W0.heap[w.heap.size + 1]? = some (.cells #[.int .i64 0, .int .i64 0] 25 (0, 0))) := by rw [hW0]; exact k1
  have B0 : Hid (Below w.heap.size w W0) := by rw [hW0]; exact ((Below.refl w.heap.size w).alloc (Nat.le_refl _) _).alloc (by simp) _
  clear k0 k1
  have HL := hide (len_data s)
  by_cases hl : 64 < s.size
  · have hd : decide ((64 : Int) < (s.size : Int)) = true := by simp; omega
    have hd3 : (64 : Int) < (s.size : Int) := by omega
    go_enter Tryz.func67, Tryz.ntmps67
    go_wp2_with fail
    have j0 := World.alloc_heap_new w (.cells #[.string ⟨#[]⟩, .slice none 0 0, .int .u8 0, .string ⟨#[]⟩, .bool false, .string ⟨#[]⟩, .bool false, .string ⟨#[]⟩, .slice none 0 0] 44)
    have j1 := World.alloc_heap_new (w.alloc (.cells #[.string ⟨#[]⟩, .slice none 0 0, .int .u8 0, .string ⟨#[]⟩, .bool false, .string ⟨#[]⟩, .bool false, .string ⟨#[]⟩, .slice none 0 0] 44)) (.cells #[.int .i64 12, .int .i64 64] 25)
    simp only [World.size_alloc] at j1
    refine fin7 _ _ w.heap.size (w.heap.size + 1) 12 64 ⟨#[]⟩ (.slice none 0 0) 0 ⟨#[]⟩ false ⟨#[]⟩ false ⟨#[]⟩ (.slice none 0 0) ⟨_, _, _, rfl⟩ ⟨_, _, _, rfl⟩ rfl rfl ((Below.heap_alloc _ _ _ (by simp)).trans j0) j1 ?_
    refine ⟨((Below.refl w.heap.size w).alloc (Nat.le_refl _) _).alloc (by simp) _, ?_⟩
    rw [if_pos (by rw [HL.out]; exact hl)]
    rfl
  · have hd : decide ((64 : Int) < (s.size : Int)) = false := by simp; omega
    have hd3 : ¬ (64 : Int) < (s.size : Int) := by omega
    have C1 := hide (fun W => Lower_any s W hs)
    obtain ⟨u, hu⟩ : ∃ u, u = ofL (s.data.toList.map lowC) := ⟨_, rfl⟩
    rw [← hu] at C1
    have HU : Hid (u.data.toList = lowL s.data.toList) := by show _ = _; rw [hu, ofL_data]; rfl
    have hus : u.size ≤ 64 := by have := len_data u; rw [HU.out, lowL_len, HL.out] at this; omega
    have NL64 : Hid (¬ 64 < s.data.toList.length) := by show ¬ _; rw [HL.out]; exact hl
    clear hu
    go_enter Tryz.func67, Tryz.ntmps67
    go_wp2_with fail
    rw [← hW0]
    refine (C1.out W0).mono ?_
    rintro r W1 ⟨rfl, b1⟩
    have F0 := hide ((b1.block _ (Array.getElem?_eq_some_iff.1 E0.out).1).trans E0.out)
    have F1 := hide ((b1.block _ (Array.getElem?_eq_some_iff.1 E1.out).1).trans E1.out)
    have B1 := hide (B0.out.trans (b1.mono B0.out.size))
    clear b1 E0 E1 B0 hW0
    go_wp2_with fail
    have hn0 : w.heap.size + 1 + 1 ≤ W1.heap.size := (Array.getElem?_eq_some_iff.1 F1.out).1
    have RD : RdAt (W1.alloc (.cells #[.string u, .int .i64 0] 122)) W1.heap.size u 0 := World.alloc_heap_new W1 _
    refine (version_any W1.heap.size u _ RD hus).mono ?_
    rintro r W2 ⟨e, vr, c, n, b, m, d, k, vl, rfl, hrd, ht, ⟨a1, i1, c1, rfl⟩, ⟨a2, i2, c2, rfl⟩, hok⟩
    have hz2 : W1.heap.size < W2.heap.size := by have := ht.size; simp at this; omega
    have G0 := hide ((ht.block w.heap.size (by simp; omega) (by omega)).trans ((Below.heap_alloc _ _ _ (by omega)).trans F0.out))
    have G1 := hide ((ht.block (w.heap.size + 1) (by simp; omega) (by omega)).trans ((Below.heap_alloc _ _ _ (by omega)).trans F1.out))
    have B2 : Hid (Below w.heap.size w W2) := B1.out.trans (((Below.refl w.heap.size W1).alloc (by omega) _).trans (ht.below (by omega) (by simp; omega)))
    have OK := hide hok
    have hsz : W1.heap.size + 1 = (W1.alloc (.cells #[.string u, .int .i64 0] 122)).heap.size := by simp
    rw [← hsz] at OK
    rw [HU.out] at OK hrd
    rw [HU.out]
    have PP : Hid (∀ r w', Below w.heap.size w w' → (((verX (lowL s.data.toList)).1 = 0 → ∃ v, r = .returned (.tuple #[v, .agg #[.int .i64 0, .int .i64 0]]) ∧ PepF w.heap.size w' v (lowL s.data.toList)) ∧ (¬ (verX (lowL s.data.toList)).1 = 0 → r = .returned (.tuple #[.agg pepZ, .agg #[.int .i64 (verX (lowL s.data.toList)).1, .int .i64 ((verX (lowL s.data.toList)).2 : Int)]]))) → PPost s.data.toList w r w') := by
      intro r w' hb h
      refine ⟨hb, ?_⟩
      rw [if_neg NL64.out]
      by_cases hx : (verX (lowL s.data.toList)).1 = 0
      · rw [if_pos hx]; exact h.1 hx
      · rw [if_neg hx]; exact h.2 hx
    clear RD ht hok F0 F1 B1 hsz
    generalize (verX (lowL s.data.toList)).1 = X at *
    generalize (verX (lowL s.data.toList)).2 = Y at *
    unfold pepV
    have v0 : ∀ o : Obj, (W2.alloc o).heap[w.heap.size]? = some (.cells #[.string ⟨#[]⟩, .slice none 0 0, .int .u8 0, .string ⟨#[]⟩, .bool false, .string ⟨#[]⟩, .bool false, .string ⟨#[]⟩, .slice none 0 0] 44 (0, 0)) := fun o => (Below.heap_alloc _ _ _ (by omega)).trans G0.out
    have v1 : ∀ o : Obj, (W2.alloc o).heap[w.heap.size + 1]? = some (.cells #[.int .i64 0, .int .i64 0] 25 (0, 0)) := fun o => (Below.heap_alloc _ _ _ (by omega)).trans G1.out
    have v2 : ∀ o : Obj, RdAt (W2.alloc o) W1.heap.size u Y := fun o => (Below.heap_alloc _ _ _ (by omega)).trans hrd
    have v3 : ∀ o : Obj, Below w.heap.size w (W2.alloc o) := fun o => B2.out.trans ((Below.refl _ _).alloc (by omega) o)
    have V0 := hide v0
    have V1 := hide v1
    have V2 := hide v2
    have V3 := hide v3
    have V4 : Hid (∀ cs : Array Value, (W2.alloc (.cells cs 44)).heap[W2.heap.size]? = some (.cells cs 44 (0, 0))) := fun cs => World.alloc_heap_new W2 _
    clear v0 v1 v2 v3
    by_cases hx : X = 0
    · have hxb : (X == 0) = true := by simp [hx]
      have HX := hide hx
      clear hx
      have y0 := fun (o : Obj) (i : Nat) => one_free i (V0.out o)
      have y1 := fun (o : Obj) (i : Nat) => one_free i (V1.out o)
      have x0 := fun (o : Obj) => seen9 (V0.out o)
      have x1 := fun (o : Obj) => cell_at 0 (V1.out o) rfl
      have x2 := fun (o : Obj) => cell_at 1 (V1.out o) rfl
      go_wp2_with fail
      obtain ⟨⟨he, hc, hn, hb, hm, hd', hk⟩, o1, o2⟩ := OK.out HX.out
      obtain ⟨W99, hW99, g99, t99⟩ := nine_world (W := W2.alloc (.cells #[.string e, .slice a1 i1 c1, .int .u8 c, .string n, .bool b, .string m, .bool d, .string k, .slice a2 i2 c2] 44)) (.string e) (.slice a1 i1 c1) (.int .u8 c) (.string n) (.bool b) (.string m) (.bool d) (.string k) (.slice a2 i2 c2) (V0.out _)
      rw [← hW99]
      have q1 := (t99.block (w.heap.size + 1) (by simp; omega) (by omega)).trans (V1.out _)
      have r1 := own_turn (o1.alloc (.cells #[.string e, .slice a1 i1 c1, .int .u8 c, .string n, .bool b, .string m, .bool d, .string k, .slice a2 i2 c2] 44)) t99 (by omega)
      have r2 := own_turn (o2.alloc (.cells #[.string e, .slice a1 i1 c1, .int .u8 c, .string n, .bool b, .string m, .bool d, .string k, .slice a2 i2 c2] 44)) t99 (by omega)
      have b3 : Below w.heap.size w W99 := (V3.out _).trans (t99.below (Nat.le_refl _) (by simp; omega))
      refine fin7 _ _ w.heap.size (w.heap.size + 1) 0 0 e (.slice a1 i1 c1) c n b m d k (.slice a2 i2 c2) ⟨_, _, _, rfl⟩ ⟨_, _, _, rfl⟩ rfl rfl ((Below.heap_setCell _ _ _ _ (by simp only; omega)).trans ((Below.heap_setCell _ _ _ _ (by simp only; omega)).trans g99)) (set_lies 1 _ (set_lies 0 _ q1)) ?_
      refine PP.out _ _ ((b3.setCell (p := ⟨w.heap.size + 1, 0, none⟩) (by simp only; omega) _).setCell (p := ⟨w.heap.size + 1, 1, none⟩) (by simp only; omega) _) ⟨fun _ => ⟨_, rfl, ⟨.slice a1 i1 c1, .slice a2 i2 c2, ?_, ?_, ?_⟩⟩, fun h => absurd HX.out h⟩
      · rw [he, hc, hn, hb, hm, hd', hk]
      · exact own_weak (ownsRow_setCell_below (ownsRow_setCell_below r1 (a := ⟨w.heap.size + 1, 0, none⟩) (by simp only; omega) _) (a := ⟨w.heap.size + 1, 1, none⟩) (by simp only; omega) _) (by omega)
      · exact own_weak (ownsRow_setCell_below (ownsRow_setCell_below r2 (a := ⟨w.heap.size + 1, 0, none⟩) (by simp only; omega) _) (a := ⟨w.heap.size + 1, 1, none⟩) (by simp only; omega) _) (by omega)
    · have hxb : (X == 0) = false := by simp [hx]
      have HX := hide hx
      clear hx
      go_wp2_with fail
      have T0 := V0.out (.cells #[.string e, .slice a1 i1 c1, .int .u8 c, .string n, .bool b, .string m, .bool d, .string k, .slice a2 i2 c2] 44)
      have T1 := V1.out (.cells #[.string e, .slice a1 i1 c1, .int .u8 c, .string n, .bool b, .string m, .bool d, .string k, .slice a2 i2 c2] 44)
      have T2 := V2.out (.cells #[.string e, .slice a1 i1 c1, .int .u8 c, .string n, .bool b, .string m, .bool d, .string k, .slice a2 i2 c2] 44)
      have T3 := V3.out (.cells #[.string e, .slice a1 i1 c1, .int .u8 c, .string n, .bool b, .string m, .bool d, .string k, .slice a2 i2 c2] 44)
      clear V0 V1 V2 V3 V4
      have hw2 : W2.heap.size < (W2.alloc (.cells #[.string e, .slice a1 i1 c1, .int .u8 c, .string n, .bool b, .string m, .bool d, .string k, .slice a2 i2 c2] 44)).heap.size := by simp
      generalize W2.alloc (.cells #[.string e, .slice a1 i1 c1, .int .u8 c, .string n, .bool b, .string m, .bool d, .string k, .slice a2 i2 c2] 44) = W3 at *
      have TT0 := hide T0
      have TT1 := hide T1
      have TT2 := hide T2
      have TT3 := hide T3
      obtain ⟨x0, x1, x2, x3, x4, x5, x6, x7, x8⟩ := seen9 T0
      have y0 := fun o => one_free o T0
      have y1 := fun o => one_free o T1
      have x9 := cell_at 0 T1 rfl
      have x10 := cell_at 1 T1 rfl
      obtain ⟨c0, c1, f1⟩ := T2.seen
      have n1 : W1.heap.size ≠ w.heap.size := by omega
      have n2 : w.heap.size ≠ W1.heap.size := by omega
      have n3 : W1.heap.size ≠ w.heap.size + 1 := by omega
      have n4 : w.heap.size + 1 ≠ W1.heap.size := by omega
      clear T0 T1 T2 T3 hrd
      go_region_held3 (fun w' => w'.cell? ⟨W1.heap.size, 1, none⟩ = some (.int .i64 (Y : Int))) (go_keep) (fail)
      go_wp2_with fail
      obtain ⟨W99, hW99, g99, t99⟩ := nine_world (W := W3) (.string ⟨#[]⟩) (.slice none 0 0) (.int .u8 0) (.string ⟨#[]⟩) (.bool false) (.string ⟨#[]⟩) (.bool false) (.string ⟨#[]⟩) (.slice none 0 0) TT0.out
      rw [← hW99]
      have hz3 := (Array.getElem?_eq_some_iff.1 TT1.out).1
      have q1 := (t99.block (w.heap.size + 1) hz3 (by omega)).trans TT1.out
      have b3 : Below w.heap.size w W99 := TT3.out.trans (t99.below (Nat.le_refl _) (by omega))
      refine fin7 _ _ w.heap.size (w.heap.size + 1) X (Y : Int) ⟨#[]⟩ (.slice none 0 0) 0 ⟨#[]⟩ false ⟨#[]⟩ false ⟨#[]⟩ (.slice none 0 0) ⟨_, _, _, rfl⟩ ⟨_, _, _, rfl⟩ rfl rfl ((Below.heap_setCell _ _ _ _ (by simp only; omega)).trans ((Below.heap_setCell _ _ _ _ (by simp only; omega)).trans g99)) (set_lies 1 _ (set_lies 0 _ q1)) ?_
      exact PP.out _ _ ((b3.setCell (p := ⟨w.heap.size + 1, 0, none⟩) (by simp only; omega) _).setCell (p := ⟨w.heap.size + 1, 1, none⟩) (by simp only; omega) _).drew ⟨fun h => absurd h HX.out, fun _ => rfl⟩

end Go.Proofs.YtabmfdedbpmfmaaGreat

namespace Go.Proofs.YtabmfdedbpmfmaaGreat
open Go.RowKit Go.Shelf
set_option linter.unusedVariables false

def orI : List Int → Int
  | [] => 0
  | x :: r => if x = 0 then orI r else x
def locO (a b : List UInt8) : Int := if digB a then (if digB b then cmpD a b else 1) else if digB b then -1 else Lib.compareBytes a b
def padO (O : List UInt8 → List UInt8 → Int) (d : List UInt8) (xs ys : List (List UInt8)) (k : Nat) : Int :=
  orI ((List.range' k (max xs.length ys.length - k)).map fun i => O (xs.getD i d) (ys.getD i d))
theorem padO_end (O : List UInt8 → List UInt8 → Int) (d : List UInt8) (xs ys : List (List UInt8)) (k : Nat) (h : max xs.length ys.length ≤ k) : padO O d xs ys k = 0 := by
  unfold padO
  rw [show max xs.length ys.length - k = 0 by omega]
  rfl
theorem padO_step (O : List UInt8 → List UInt8 → Int) (d : List UInt8) (xs ys : List (List UInt8)) (k : Nat) (h : k < max xs.length ys.length) : padO O d xs ys k = if O (xs.getD k d) (ys.getD k d) = 0 then padO O d xs ys (k + 1) else O (xs.getD k d) (ys.getD k d) := by
  unfold padO
  rw [show max xs.length ys.length - k = (max xs.length ys.length - (k + 1)) + 1 by omega, List.range'_succ]
  rfl

set_option maxHeartbeats 400000 in
theorem orderLocal_any (a b : ByteArray) (w : World) (ha : a.size ≤ 9223372036854775806) (hb : b.size ≤ 9223372036854775806) :
    Calls Tryz.prog 111 #[.string a, .string b] w fun e w' => e = .returned (.int .i64 (locO a.data.toList b.data.toList)) ∧ w' = w := by
  have hO : locO a.data.toList b.data.toList = if digB a.data.toList then (if digB b.data.toList then cmpD a.data.toList b.data.toList else 1) else if digB b.data.toList then -1 else Lib.compareBytes a.data.toList b.data.toList := rfl
  have D1 := hide (fun w => isDigits_any a w (by unfold maxLen; omega))
  have D2 := hide (fun w => isDigits_any b w (by unfold maxLen; omega))
  generalize locO a.data.toList b.data.toList = O at *
  generalize digB a.data.toList = x at *
  generalize digB b.data.toList = y at *
  have HO := hide hO
  clear hO
  cases x <;> cases y
  · go_enter Tryz.func111, Tryz.ntmps111
    go_wp2_with fail
    refine (D1.out _).mono ?_
    rintro e w' ⟨rfl, rfl⟩
    go_wp2_with fail
    refine (D2.out _).mono ?_
    rintro e w' ⟨rfl, rfl⟩
    go_wp2_with fail
    refine (StrCompare_any _ _ _).mono ?_
    rintro e w' ⟨rfl, rfl⟩
    go_wp2_with fail
    go_ret
    exact ⟨ret_i (by rw [HO.out]; rfl), rfl⟩
  · go_enter Tryz.func111, Tryz.ntmps111
    go_wp2_with fail
    refine (D1.out _).mono ?_
    rintro e w' ⟨rfl, rfl⟩
    go_wp2_with fail
    refine (D2.out _).mono ?_
    rintro e w' ⟨rfl, rfl⟩
    go_wp2_with fail
    go_ret
    exact ⟨ret_i (by rw [HO.out]; rfl), rfl⟩
  · go_enter Tryz.func111, Tryz.ntmps111
    go_wp2_with fail
    refine (D1.out _).mono ?_
    rintro e w' ⟨rfl, rfl⟩
    go_wp2_with fail
    refine (D2.out _).mono ?_
    rintro e w' ⟨rfl, rfl⟩
    go_wp2_with fail
    go_ret
    exact ⟨ret_i (by rw [HO.out]; rfl), rfl⟩
  · go_enter Tryz.func111, Tryz.ntmps111
    go_wp2_with fail
    refine (D1.out _).mono ?_
    rintro e w' ⟨rfl, rfl⟩
    go_wp2_with fail
    refine (D2.out _).mono ?_
    rintro e w' ⟨rfl, rfl⟩
    go_wp2_with fail
    refine (Cmp_any _ _ _ ha hb).mono ?_
    rintro e w' ⟨rfl, rfl⟩
    go_wp2_with fail
    go_ret
    exact ⟨ret_i (by rw [HO.out]; rfl), rfl⟩

set_option maxHeartbeats 400000 in
theorem partAt_any (v : Value) (xs : List (List UInt8)) (i : Nat) (d : ByteArray) (w : World) (h : Txt w v xs) (hl : xs.length ≤ 9223372036854775806) :
    Calls Tryz.prog 130 #[v, .int .i64 (i : Int), .string d] w fun e w' => e = .returned (.string (ofL (xs.getD i d.data.toList))) ∧ w' = w := by
  obtain ⟨a1, c1, rfl, _⟩ := id h
  by_cases hi : i < xs.length
  · obtain ⟨b1, o1, rfl, hc1⟩ := h.some (by omega)
    have p1 := hc1 i hi
    have hd : decide ((i : Int) < (xs.length : Int)) = true := by simp; omega
    have HG : Hid (xs.getD i d.data.toList = xs[i]) := by show _ = _; rw [List.getD_eq_getElem?_getD, List.getElem?_eq_getElem hi]; rfl
    rw [HG.out]
    clear hc1 h HG
    generalize xs[i] = x at *
    go_enter Tryz.func130, Tryz.ntmps130
    go_wp2_with fail
    go_ret
    exact ⟨rfl, rfl⟩
  · have hd : decide ((i : Int) < (xs.length : Int)) = false := by simp; omega
    have hd3 : ¬ ((i : Int) < (xs.length : Int)) := by omega
    have HG : Hid (xs.getD i d.data.toList = d.data.toList) := by show _ = _; rw [List.getD_eq_getElem?_getD, List.getElem?_eq_none (by omega)]; rfl
    rw [HG.out]
    have HD : Hid (ofL d.data.toList = d) := ofL_self d
    rw [HD.out]
    clear HG HD h
    go_enter Tryz.func130, Tryz.ntmps130
    go_wp2_with fail
    go_ret
    exact ⟨rfl, rfl⟩
theorem short_getD {ts : List (List UInt8)} (h : Short ts) (i : Nat) (d : List UInt8) (hd : d.length ≤ 9223372036854775806) : (ts.getD i d).length ≤ 9223372036854775806 := by
  rw [List.getD_eq_getElem?_getD]
  by_cases hi : i < ts.length
  · rw [List.getElem?_eq_getElem hi]; exact h.2 _ (List.getElem_mem _)
  · rw [List.getElem?_eq_none (by omega)]; exact hd

set_option maxHeartbeats 1000000 in
theorem orderParts_cmp (va vb : Value) (xs ys : List (List UInt8)) (d : ByteArray) (w : World) (ha : Txt w va xs) (hb : Txt w vb ys) (sx : Short xs) (sy : Short ys) (hd : d.size ≤ 9223372036854775806) :
    Calls Tryz.prog 107 #[va, vb, .string d, .func (.func 106) #[] #[]] w fun e w' => e = .returned (.int .i64 (padO cmpD d.data.toList xs ys 0)) ∧ w' = w := by
  obtain ⟨a1, c1, rfl, _⟩ := id ha
  obtain ⟨a2, c2, rfl, _⟩ := id hb
  have PA := hide (fun i : Nat => partAt_any _ xs i d w ha sx.1)
  have PB := hide (fun i : Nat => partAt_any _ ys i d w hb sy.1)
  have CC : Hid (∀ i : Nat, Calls Tryz.prog 106 #[.string (ofL (xs.getD i d.data.toList)), .string (ofL (ys.getD i d.data.toList))] w fun e w' => e = .returned (.int .i64 (cmpD (xs.getD i d.data.toList) (ys.getD i d.data.toList))) ∧ w' = w) := by
    intro i
    have := Cmp_any (ofL (xs.getD i d.data.toList)) (ofL (ys.getD i d.data.toList)) w (by rw [ofL_size]; exact short_getD sx i _ (by rw [len_data]; exact hd)) (by rw [ofL_size]; exact short_getD sy i _ (by rw [len_data]; exact hd))
    rwa [ofL_data, ofL_data] at this
  have lx := sx.1
  have ly := sy.1
  have HS := hide (fun k h => padO_step cmpD d.data.toList xs ys k h)
  have HE := hide (fun k h => padO_end cmpD d.data.toList xs ys k h)
  by_cases hle : xs.length < ys.length
  · have hM : max xs.length ys.length = ys.length := by omega
    have g1 : (xs.length : Int) < (ys.length : Int) := by omega
    have g2 : ¬ (ys.length : Int) ≤ (xs.length : Int) := by omega
    have g3 : ¬ (ys.length : Int) < (xs.length : Int) := by omega
    rw [hM] at HS HE
    clear ha hb sx sy hM
    go_enter Tryz.func107, Tryz.ntmps107
    go_wp2_with fail
    go_loop [16] (fun i => ∃ k : Nat, k ≤ ys.length ∧ i = .int .i64 k ∧ Hid (padO cmpD d.data.toList xs ys 0 = padO cmpD d.data.toList xs ys k)) (fun i => ys.length - (intOf i).toNat)
    case atStart => exact ⟨0, by omega, rfl, rfl⟩
    case round =>
      obtain ⟨k, hk, rfl, HR⟩ := hrel
      by_cases h1 : k < ys.length
      · have hd1 : decide ((k : Int) < (ys.length : Int)) = true := by simp; omega
        have pa := hide (PA.out k)
        have pb := hide (PB.out k)
        have cc := hide (CC.out k)
        have hX := HS.out k h1
        generalize cmpD (xs.getD k d.data.toList) (ys.getD k d.data.toList) = O at *
        generalize ofL (xs.getD k d.data.toList) = x at *
        generalize ofL (ys.getD k d.data.toList) = y at *
        by_cases h0 : O = 0
        · subst h0
          rw [if_pos rfl] at hX
          have HX := hide hX
          clear hX
          go_wp2_with fail
          refine pa.out.mono ?_
          rintro e w' ⟨rfl, hw'⟩
          rw [hw']
          clear hw' w'
          go_wp2_with fail
          refine pb.out.mono ?_
          rintro e w' ⟨rfl, hw'⟩
          rw [hw']
          clear hw' w'
          go_wp2_with fail
          refine cc.out.mono ?_
          rintro e w' ⟨rfl, hw'⟩
          rw [hw']
          clear hw' w'
          go_wp2_with fail
          go_round
          case rel => exact ⟨k + 1, by omega, by go_num, by show _ = _; rw [HR.out, HX.out]⟩
          case measure => simp [intOf]; omega
        · rw [if_neg h0] at hX
          have hb0 : (O != 0) = true := by simpa using h0
          have HX := hide hX
          clear hX h0
          go_wp2_with fail
          refine pa.out.mono ?_
          rintro e w' ⟨rfl, hw'⟩
          rw [hw']
          clear hw' w'
          go_wp2_with fail
          refine pb.out.mono ?_
          rintro e w' ⟨rfl, hw'⟩
          rw [hw']
          clear hw' w'
          go_wp2_with fail
          refine cc.out.mono ?_
          rintro e w' ⟨rfl, hw'⟩
          rw [hw']
          clear hw' w'
          go_wp2_with fail
          go_ret
          exact ⟨ret_i (by rw [HR.out, HX.out]), rfl⟩
      · have hd1 : decide ((k : Int) < (ys.length : Int)) = false := by simp; omega
        have hd3 : ¬ ((k : Int) < (ys.length : Int)) := by omega
        have HX := hide (HE.out k (by omega))
        go_wp2_with fail
        go_ret
        exact ⟨ret_i (by rw [HR.out, HX.out]), rfl⟩
  · have hM : max xs.length ys.length = xs.length := by omega
    have g1 : ¬ (xs.length : Int) < (ys.length : Int) := by omega
    have g2 : (ys.length : Int) ≤ (xs.length : Int) := by omega
    rw [hM] at HS HE
    clear ha hb sx sy hM
    go_enter Tryz.func107, Tryz.ntmps107
    go_wp2_with fail
    go_loop [16] (fun i => ∃ k : Nat, k ≤ xs.length ∧ i = .int .i64 k ∧ Hid (padO cmpD d.data.toList xs ys 0 = padO cmpD d.data.toList xs ys k)) (fun i => xs.length - (intOf i).toNat)
    case atStart => exact ⟨0, by omega, rfl, rfl⟩
    case round =>
      obtain ⟨k, hk, rfl, HR⟩ := hrel
      by_cases h1 : k < xs.length
      · have hd1 : decide ((k : Int) < (xs.length : Int)) = true := by simp; omega
        have pa := hide (PA.out k)
        have pb := hide (PB.out k)
        have cc := hide (CC.out k)
        have hX := HS.out k h1
        generalize cmpD (xs.getD k d.data.toList) (ys.getD k d.data.toList) = O at *
        generalize ofL (xs.getD k d.data.toList) = x at *
        generalize ofL (ys.getD k d.data.toList) = y at *
        by_cases h0 : O = 0
        · subst h0
          rw [if_pos rfl] at hX
          have HX := hide hX
          clear hX
          go_wp2_with fail
          refine pa.out.mono ?_
          rintro e w' ⟨rfl, hw'⟩
          rw [hw']
          clear hw' w'
          go_wp2_with fail
          refine pb.out.mono ?_
          rintro e w' ⟨rfl, hw'⟩
          rw [hw']
          clear hw' w'
          go_wp2_with fail
          refine cc.out.mono ?_
          rintro e w' ⟨rfl, hw'⟩
          rw [hw']
          clear hw' w'
          go_wp2_with fail
          go_round
          case rel => exact ⟨k + 1, by omega, by go_num, by show _ = _; rw [HR.out, HX.out]⟩
          case measure => simp [intOf]; omega
        · rw [if_neg h0] at hX
          have hb0 : (O != 0) = true := by simpa using h0
          have HX := hide hX
          clear hX h0
          go_wp2_with fail
          refine pa.out.mono ?_
          rintro e w' ⟨rfl, hw'⟩
          rw [hw']
          clear hw' w'
          go_wp2_with fail
          refine pb.out.mono ?_
          rintro e w' ⟨rfl, hw'⟩
          rw [hw']
          clear hw' w'
          go_wp2_with fail
          refine cc.out.mono ?_
          rintro e w' ⟨rfl, hw'⟩
          rw [hw']
          clear hw' w'
          go_wp2_with fail
          go_ret
          exact ⟨ret_i (by rw [HR.out, HX.out]), rfl⟩
      · have hd1 : decide ((k : Int) < (xs.length : Int)) = false := by simp; omega
        have hd3 : ¬ ((k : Int) < (xs.length : Int)) := by omega
        have HX := hide (HE.out k (by omega))
        go_wp2_with fail
        go_ret
        exact ⟨ret_i (by rw [HR.out, HX.out]), rfl⟩

set_option maxHeartbeats 1000000 in
theorem orderParts_loc (va vb : Value) (xs ys : List (List UInt8)) (d : ByteArray) (w : World) (ha : Txt w va xs) (hb : Txt w vb ys) (sx : Short xs) (sy : Short ys) (hd : d.size ≤ 9223372036854775806) :
    Calls Tryz.prog 107 #[va, vb, .string d, .func (.func 111) #[] #[]] w fun e w' => e = .returned (.int .i64 (padO locO d.data.toList xs ys 0)) ∧ w' = w := by
  obtain ⟨a1, c1, rfl, _⟩ := id ha
  obtain ⟨a2, c2, rfl, _⟩ := id hb
  have PA := hide (fun i : Nat => partAt_any _ xs i d w ha sx.1)
  have PB := hide (fun i : Nat => partAt_any _ ys i d w hb sy.1)
  have CC : Hid (∀ i : Nat, Calls Tryz.prog 111 #[.string (ofL (xs.getD i d.data.toList)), .string (ofL (ys.getD i d.data.toList))] w fun e w' => e = .returned (.int .i64 (locO (xs.getD i d.data.toList) (ys.getD i d.data.toList))) ∧ w' = w) := by
    intro i
    have := orderLocal_any (ofL (xs.getD i d.data.toList)) (ofL (ys.getD i d.data.toList)) w (by rw [ofL_size]; exact short_getD sx i _ (by rw [len_data]; exact hd)) (by rw [ofL_size]; exact short_getD sy i _ (by rw [len_data]; exact hd))
    rwa [ofL_data, ofL_data] at this
  have lx := sx.1
  have ly := sy.1
  have HS := hide (fun k h => padO_step locO d.data.toList xs ys k h)
  have HE := hide (fun k h => padO_end locO d.data.toList xs ys k h)
  by_cases hle : xs.length < ys.length
  · have hM : max xs.length ys.length = ys.length := by omega
    have g1 : (xs.length : Int) < (ys.length : Int) := by omega
    have g2 : ¬ (ys.length : Int) ≤ (xs.length : Int) := by omega
    have g3 : ¬ (ys.length : Int) < (xs.length : Int) := by omega
    rw [hM] at HS HE
    clear ha hb sx sy hM
    go_enter Tryz.func107, Tryz.ntmps107
    go_wp2_with fail
    go_loop [16] (fun i => ∃ k : Nat, k ≤ ys.length ∧ i = .int .i64 k ∧ Hid (padO locO d.data.toList xs ys 0 = padO locO d.data.toList xs ys k)) (fun i => ys.length - (intOf i).toNat)
    case atStart => exact ⟨0, by omega, rfl, rfl⟩
    case round =>
      obtain ⟨k, hk, rfl, HR⟩ := hrel
      by_cases h1 : k < ys.length
      · have hd1 : decide ((k : Int) < (ys.length : Int)) = true := by simp; omega
        have pa := hide (PA.out k)
        have pb := hide (PB.out k)
        have cc := hide (CC.out k)
        have hX := HS.out k h1
        generalize locO (xs.getD k d.data.toList) (ys.getD k d.data.toList) = O at *
        generalize ofL (xs.getD k d.data.toList) = x at *
        generalize ofL (ys.getD k d.data.toList) = y at *
        by_cases h0 : O = 0
        · subst h0
          rw [if_pos rfl] at hX
          have HX := hide hX
          clear hX
          go_wp2_with fail
          refine pa.out.mono ?_
          rintro e w' ⟨rfl, hw'⟩
          rw [hw']
          clear hw' w'
          go_wp2_with fail
          refine pb.out.mono ?_
          rintro e w' ⟨rfl, hw'⟩
          rw [hw']
          clear hw' w'
          go_wp2_with fail
          refine cc.out.mono ?_
          rintro e w' ⟨rfl, hw'⟩
          rw [hw']
          clear hw' w'
          go_wp2_with fail
          go_round
          case rel => exact ⟨k + 1, by omega, by go_num, by show _ = _; rw [HR.out, HX.out]⟩
          case measure => simp [intOf]; omega
        · rw [if_neg h0] at hX
          have hb0 : (O != 0) = true := by simpa using h0
          have HX := hide hX
          clear hX h0
          go_wp2_with fail
          refine pa.out.mono ?_
          rintro e w' ⟨rfl, hw'⟩
          rw [hw']
          clear hw' w'
          go_wp2_with fail
          refine pb.out.mono ?_
          rintro e w' ⟨rfl, hw'⟩
          rw [hw']
          clear hw' w'
          go_wp2_with fail
          refine cc.out.mono ?_
          rintro e w' ⟨rfl, hw'⟩
          rw [hw']
          clear hw' w'
          go_wp2_with fail
          go_ret
          exact ⟨ret_i (by rw [HR.out, HX.out]), rfl⟩
      · have hd1 : decide ((k : Int) < (ys.length : Int)) = false := by simp; omega
        have hd3 : ¬ ((k : Int) < (ys.length : Int)) := by omega
        have HX := hide (HE.out k (by omega))
        go_wp2_with fail
        go_ret
        exact ⟨ret_i (by rw [HR.out, HX.out]), rfl⟩
  · have hM : max xs.length ys.length = xs.length := by omega
    have g1 : ¬ (xs.length : Int) < (ys.length : Int) := by omega
    have g2 : (ys.length : Int) ≤ (xs.length : Int) := by omega
    rw [hM] at HS HE
    clear ha hb sx sy hM
    go_enter Tryz.func107, Tryz.ntmps107
    go_wp2_with fail
    go_loop [16] (fun i => ∃ k : Nat, k ≤ xs.length ∧ i = .int .i64 k ∧ Hid (padO locO d.data.toList xs ys 0 = padO locO d.data.toList xs ys k)) (fun i => xs.length - (intOf i).toNat)
    case atStart => exact ⟨0, by omega, rfl, rfl⟩
    case round =>
      obtain ⟨k, hk, rfl, HR⟩ := hrel
      by_cases h1 : k < xs.length
      · have hd1 : decide ((k : Int) < (xs.length : Int)) = true := by simp; omega
        have pa := hide (PA.out k)
        have pb := hide (PB.out k)
        have cc := hide (CC.out k)
        have hX := HS.out k h1
        generalize locO (xs.getD k d.data.toList) (ys.getD k d.data.toList) = O at *
        generalize ofL (xs.getD k d.data.toList) = x at *
        generalize ofL (ys.getD k d.data.toList) = y at *
        by_cases h0 : O = 0
        · subst h0
          rw [if_pos rfl] at hX
          have HX := hide hX
          clear hX
          go_wp2_with fail
          refine pa.out.mono ?_
          rintro e w' ⟨rfl, hw'⟩
          rw [hw']
          clear hw' w'
          go_wp2_with fail
          refine pb.out.mono ?_
          rintro e w' ⟨rfl, hw'⟩
          rw [hw']
          clear hw' w'
          go_wp2_with fail
          refine cc.out.mono ?_
          rintro e w' ⟨rfl, hw'⟩
          rw [hw']
          clear hw' w'
          go_wp2_with fail
          go_round
          case rel => exact ⟨k + 1, by omega, by go_num, by show _ = _; rw [HR.out, HX.out]⟩
          case measure => simp [intOf]; omega
        · rw [if_neg h0] at hX
          have hb0 : (O != 0) = true := by simpa using h0
          have HX := hide hX
          clear hX h0
          go_wp2_with fail
          refine pa.out.mono ?_
          rintro e w' ⟨rfl, hw'⟩
          rw [hw']
          clear hw' w'
          go_wp2_with fail
          refine pb.out.mono ?_
          rintro e w' ⟨rfl, hw'⟩
          rw [hw']
          clear hw' w'
          go_wp2_with fail
          refine cc.out.mono ?_
          rintro e w' ⟨rfl, hw'⟩
          rw [hw']
          clear hw' w'
          go_wp2_with fail
          go_ret
          exact ⟨ret_i (by rw [HR.out, HX.out]), rfl⟩
      · have hd1 : decide ((k : Int) < (xs.length : Int)) = false := by simp; omega
        have hd3 : ¬ ((k : Int) < (xs.length : Int)) := by omega
        have HX := hide (HE.out k (by omega))
        go_wp2_with fail
        go_ret
        exact ⟨ret_i (by rw [HR.out, HX.out]), rfl⟩

end Go.Proofs.YtabmfdedbpmfmaaGreat
