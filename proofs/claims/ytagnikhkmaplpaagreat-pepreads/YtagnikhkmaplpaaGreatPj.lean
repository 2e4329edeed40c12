/-
  Walks: Parse.
-/
import Derived.Test.YtagnikhkmaplpaaGreatPi
namespace Go.Proofs.YtagnikhkmaplpaaGreat
open Go.RowKit Go.Shelf
set_option linter.unusedVariables false

/-- The text as it is read. -/
def lowL (l : List UInt8) : List UInt8 := l.map lowC
/-- A version that was read, in memory. -/
structure PepF (n₀ : Nat) (W : World) (v : Value) (u : List UInt8) : Prop where
  ex : ∃ vr vl, v = pepV (ofL (epoT u (vp1 u))) vr (preC u (vp3 u)) (ofL (stN u (vp3 u) preWs)) (posB u (vp4 u)) (ofL (posN u (vp4 u))) (wordL u (vp5 u) devWs).isSome (ofL (stN u (vp5 u) devWs)) vl ∧
    W.ownsRow n₀ 9 1 vr (vals u (vrel u)).length (vals u (vrel u)) ∧ W.ownsRow n₀ 9 1 vl (vals u (vlocs u)).length (vals u (vlocs u))
/-- What Parse leaves. -/
def PPost (l : List UInt8) (w : World) (r : Ending) (w' : World) : Prop :=
  Below w.heap.size w w' ∧
    if 64 < l.length then r = .returned (.tuple #[.agg pepZ, .agg #[.int .i64 12, .int .i64 64]])
    else if (verX (lowL l)).1 = 0 then ∃ v, r = .returned (.tuple #[v, .agg #[.int .i64 0, .int .i64 0]]) ∧ PepF w.heap.size w' v (lowL l)
    else r = .returned (.tuple #[.agg pepZ, .agg #[.int .i64 (verX (lowL l)).1, .int .i64 ((verX (lowL l)).2 : Int)]])

theorem fin7 {R : Ending → World → Prop} (tmps : Array Value) (W : World) (B C : Nat) (x y : Int) (e : ByteArray) (vr : Value) (c : Int) (n : ByteArray) (b : Bool) (m : ByteArray) (d : Bool) (k : ByteArray) (vl : Value) (op : ∃ a i c, vr = .slice a i c) (ob : ∃ a i c, vl = .slice a i c)
    (h2 : tmps.getD 2 undef = .pointer (some ⟨B, 0, none⟩)) (h3 : tmps.getD 3 undef = .pointer (some ⟨C, 0, none⟩)) (e1 : W.heap[B]? = some (.cells #[.string e, vr, .int .u8 c, .string n, .bool b, .string m, .bool d, .string k, vl] 24 (0, 0))) (e2 : W.heap[C]? = some (.cells #[.int .i64 x, .int .i64 y] 27 (0, 0)))
    (hR : R (.returned (.tuple #[pepV e vr c n b m d k vl, .agg #[.int .i64 x, .int .i64 y]])) W) :
    bodyPost Tryz.prog Tryz.f5 R .ret { tmps := tmps, defers := [] } W := by
  obtain ⟨a1, i1, c1, rfl⟩ := op
  obtain ⟨a2, i2, c2, rfl⟩ := ob
  obtain ⟨r0, r1, r2, r3, r4, r5, r6, r7, r8⟩ := seen9 e1
  have s0 := cell_at 0 e2 rfl
  have s1 := cell_at 1 e2 rfl
  rw [Array.getD_eq_getD_getElem?] at h2 h3
  refine ⟨rfl, _, ?_, hR⟩
  simp [results, Tryz.results5, go_sem, h2, h3, r0, r1, r2, r3, r4, r5, r6, r7, r8, s0, s1]
  try rfl

theorem lowL_len (l : List UInt8) : (lowL l).length = l.length := by simp [lowL]

set_option maxRecDepth 100000 in
set_option maxHeartbeats 4000000 in
theorem Parse_any (s : ByteArray) (w : World) (hs : s.size ≤ maxLen) : Calls Tryz.prog 5 #[.string s] w (PPost s.data.toList w) := by
  obtain ⟨W0, hW0⟩ : ∃ W0, W0 = (w.alloc (.cells #[.string ⟨#[]⟩, .slice none 0 0, .int .u8 0, .string ⟨#[]⟩, .bool false, .string ⟨#[]⟩, .bool false, .string ⟨#[]⟩, .slice none 0 0] 24)).alloc (.cells #[.int .i64 0, .int .i64 0] 27) := ⟨_, rfl⟩
  have k0 := World.alloc_heap_new w (.cells #[.string ⟨#[]⟩, .slice none 0 0, .int .u8 0, .string ⟨#[]⟩, .bool false, .string ⟨#[]⟩, .bool false, .string ⟨#[]⟩, .slice none 0 0] 24)
  have k1 := World.alloc_heap_new (w.alloc (.cells #[.string ⟨#[]⟩, .slice none 0 0, .int .u8 0, .string ⟨#[]⟩, .bool false, .string ⟨#[]⟩, .bool false, .string ⟨#[]⟩, .slice none 0 0] 24)) (.cells #[.int .i64 0, .int .i64 0] 27)
  simp only [World.size_alloc] at k1
  have E0 : Hid (W0.heap[w.heap.size]? = some (.cells #[.string ⟨#[]⟩, .slice none 0 0, .int .u8 0, .string ⟨#[]⟩, .bool false, .string ⟨#[]⟩, .bool false, .string ⟨#[]⟩, .slice none 0 0] 24 (0, 0))) := by rw [hW0]; exact (Below.heap_alloc _ _ _ (by simp)).trans k0
  have E1 : Hid (W0.heap[w.heap.size + 1]? = some (.cells #[.int .i64 0, .int .i64 0] 27 (0, 0))) := by rw [hW0]; exact k1
  have B0 : Hid (Below w.heap.size w W0) := by rw [hW0]; exact ((Below.refl w.heap.size w).alloc (Nat.le_refl _) _).alloc (by simp) _
  clear k0 k1
  have HL := hide (len_data s)
  by_cases hl : 64 < s.size
  · have hd : decide ((64 : Int) < (s.size : Int)) = true := by simp; omega
    have hd3 : (64 : Int) < (s.size : Int) := by omega
    go_enter Tryz.func5, Tryz.ntmps5
    go_wp2_with fail
    have j0 := World.alloc_heap_new w (.cells #[.string ⟨#[]⟩, .slice none 0 0, .int .u8 0, .string ⟨#[]⟩, .bool false, .string ⟨#[]⟩, .bool false, .string ⟨#[]⟩, .slice none 0 0] 24)
    have j1 := World.alloc_heap_new (w.alloc (.cells #[.string ⟨#[]⟩, .slice none 0 0, .int .u8 0, .string ⟨#[]⟩, .bool false, .string ⟨#[]⟩, .bool false, .string ⟨#[]⟩, .slice none 0 0] 24)) (.cells #[.int .i64 12, .int .i64 64] 27)
    simp only [World.size_alloc] at j1
    refine fin7 _ _ w.heap.size (w.heap.size + 1) 12 64 ⟨#[]⟩ (.slice none 0 0) 0 ⟨#[]⟩ false ⟨#[]⟩ false ⟨#[]⟩ (.slice none 0 0) ⟨_, _, _, rfl⟩ ⟨_, _, _, rfl⟩ rfl rfl ((Below.heap_alloc _ _ _ (by simp)).trans j0) j1 ?_
    refine ⟨((Below.refl w.heap.size w).alloc (Nat.le_refl _) _).alloc (by simp) _, ?_⟩
    rw [if_pos (by rw [HL.out]; exact hl)]
    rfl
  · have hd : decide ((64 : Int) < (s.size : Int)) = false := by simp; omega
    have hd3 : ¬ (64 : Int) < (s.size : Int) := by omega
    have C1 := hide (fun W => Lower_any s W hs)
    obtain ⟨u, hu⟩ : ∃ u, u = ofL (s.data.toList.map lowC) := ⟨_, rfl⟩
    rw [← hu] at C1
    have HU : Hid (u.data.toList = lowL s.data.toList) := by show _ = _; rw [hu, ofL_data]; rfl
    have hus : u.size ≤ 64 := by have := len_data u; rw [HU.out, lowL_len, HL.out] at this; omega
    have NL64 : Hid (¬ 64 < s.data.toList.length) := by show ¬ _; rw [HL.out]; exact hl
    clear hu
    go_enter Tryz.func5, Tryz.ntmps5
    go_wp2_with fail
    rw [← hW0]
    refine (C1.out W0).mono ?_
    rintro r W1 ⟨rfl, b1⟩
    have F0 := hide ((b1.block _ (Array.getElem?_eq_some_iff.1 E0.out).1).trans E0.out)
    have F1 := hide ((b1.block _ (Array.getElem?_eq_some_iff.1 E1.out).1).trans E1.out)
    have B1 := hide (B0.out.trans (b1.mono B0.out.size))
    clear b1 E0 E1 B0 hW0
    go_wp2_with fail
    have hn0 : w.heap.size + 1 + 1 ≤ W1.heap.size := (Array.getElem?_eq_some_iff.1 F1.out).1
    have RD : RdAt (W1.alloc (.cells #[.string u, .int .i64 0] 40)) W1.heap.size u 0 := World.alloc_heap_new W1 _
    refine (version_any W1.heap.size u _ RD hus).mono ?_
    rintro r W2 ⟨e, vr, c, n, b, m, d, k, vl, rfl, hrd, ht, ⟨a1, i1, c1, rfl⟩, ⟨a2, i2, c2, rfl⟩, hok⟩
    have hz2 : W1.heap.size < W2.heap.size := by have := ht.size; simp at this; omega
    have G0 := hide ((ht.block w.heap.size (by simp; omega) (by omega)).trans ((Below.heap_alloc _ _ _ (by omega)).trans F0.out))
    have G1 := hide ((ht.block (w.heap.size + 1) (by simp; omega) (by omega)).trans ((Below.heap_alloc _ _ _ (by omega)).trans F1.out))
    have B2 : Hid (Below w.heap.size w W2) := B1.out.trans (((Below.refl w.heap.size W1).alloc (by omega) _).trans (ht.below (by omega) (by simp; omega)))
    have OK := hide hok
    have hsz : W1.heap.size + 1 = (W1.alloc (.cells #[.string u, .int .i64 0] 40)).heap.size := by simp
    rw [← hsz] at OK
    rw [HU.out] at OK hrd
    rw [HU.out]
    have PP : Hid (∀ r w', Below w.heap.size w w' → (((verX (lowL s.data.toList)).1 = 0 → ∃ v, r = .returned (.tuple #[v, .agg #[.int .i64 0, .int .i64 0]]) ∧ PepF w.heap.size w' v (lowL s.data.toList)) ∧ (¬ (verX (lowL s.data.toList)).1 = 0 → r = .returned (.tuple #[.agg pepZ, .agg #[.int .i64 (verX (lowL s.data.toList)).1, .int .i64 ((verX (lowL s.data.toList)).2 : Int)]]))) → PPost s.data.toList w r w') := by
      intro r w' hb h
      refine ⟨hb, ?_⟩
      rw [if_neg NL64.out]
      by_cases hx : (verX (lowL s.data.toList)).1 = 0
      · rw [if_pos hx]; exact h.1 hx
      · rw [if_neg hx]; exact h.2 hx
    clear RD ht hok F0 F1 B1 hsz
    generalize (verX (lowL s.data.toList)).1 = X at *
    generalize (verX (lowL s.data.toList)).2 = Y at *
    unfold pepV
    have v0 : ∀ o : Obj, (W2.alloc o).heap[w.heap.size]? = some (.cells #[.string ⟨#[]⟩, .slice none 0 0, .int .u8 0, .string ⟨#[]⟩, .bool false, .string ⟨#[]⟩, .bool false, .string ⟨#[]⟩, .slice none 0 0] 24 (0, 0)) := fun o => (Below.heap_alloc _ _ _ (by omega)).trans G0.out
    have v1 : ∀ o : Obj, (W2.alloc o).heap[w.heap.size + 1]? = some (.cells #[.int .i64 0, .int .i64 0] 27 (0, 0)) := fun o => (Below.heap_alloc _ _ _ (by omega)).trans G1.out
    have v2 : ∀ o : Obj, RdAt (W2.alloc o) W1.heap.size u Y := fun o => (Below.heap_alloc _ _ _ (by omega)).trans hrd
    have v3 : ∀ o : Obj, Below w.heap.size w (W2.alloc o) := fun o => B2.out.trans ((Below.refl _ _).alloc (by omega) o)
    have V0 := hide v0
    have V1 := hide v1
    have V2 := hide v2
    have V3 := hide v3
    have V4 : Hid (∀ cs : Array Value, (W2.alloc (.cells cs 24)).heap[W2.heap.size]? = some (.cells cs 24 (0, 0))) := fun cs => World.alloc_heap_new W2 _
    clear v0 v1 v2 v3
    by_cases hx : X = 0
    · have hxb : (X == 0) = true := by simp [hx]
      have HX := hide hx
      clear hx
      have y0 := fun (o : Obj) (i : Nat) => one_free i (V0.out o)
      have y1 := fun (o : Obj) (i : Nat) => one_free i (V1.out o)
      have x0 := fun (o : Obj) => seen9 (V0.out o)
      have x1 := fun (o : Obj) => cell_at 0 (V1.out o) rfl
      have x2 := fun (o : Obj) => cell_at 1 (V1.out o) rfl
      go_wp2_with fail
      obtain ⟨⟨he, hc, hn, hb, hm, hd', hk⟩, o1, o2⟩ := OK.out HX.out
      obtain ⟨W99, hW99, g99, t99⟩ := nine_world (W := W2.alloc (.cells #[.string e, .slice a1 i1 c1, .int .u8 c, .string n, .bool b, .string m, .bool d, .string k, .slice a2 i2 c2] 24)) (.string e) (.slice a1 i1 c1) (.int .u8 c) (.string n) (.bool b) (.string m) (.bool d) (.string k) (.slice a2 i2 c2) (V0.out _)
      rw [← hW99]
      have q1 := (t99.block (w.heap.size + 1) (by simp; omega) (by omega)).trans (V1.out _)
      have r1 := own_turn (o1.alloc (.cells #[.string e, .slice a1 i1 c1, .int .u8 c, .string n, .bool b, .string m, .bool d, .string k, .slice a2 i2 c2] 24)) t99 (by omega)
      have r2 := own_turn (o2.alloc (.cells #[.string e, .slice a1 i1 c1, .int .u8 c, .string n, .bool b, .string m, .bool d, .string k, .slice a2 i2 c2] 24)) t99 (by omega)
      have b3 : Below w.heap.size w W99 := (V3.out _).trans (t99.below (Nat.le_refl _) (by simp; omega))
      refine fin7 _ _ w.heap.size (w.heap.size + 1) 0 0 e (.slice a1 i1 c1) c n b m d k (.slice a2 i2 c2) ⟨_, _, _, rfl⟩ ⟨_, _, _, rfl⟩ rfl rfl ((Below.heap_setCell _ _ _ _ (by simp only; omega)).trans ((Below.heap_setCell _ _ _ _ (by simp only; omega)).trans g99)) (set_lies 1 _ (set_lies 0 _ q1)) ?_
      refine PP.out _ _ ((b3.setCell (p := ⟨w.heap.size + 1, 0, none⟩) (by simp only; omega) _).setCell (p := ⟨w.heap.size + 1, 1, none⟩) (by simp only; omega) _) ⟨fun _ => ⟨_, rfl, ⟨.slice a1 i1 c1, .slice a2 i2 c2, ?_, ?_, ?_⟩⟩, fun h => absurd HX.out h⟩
      · rw [he, hc, hn, hb, hm, hd', hk]
      · exact own_weak (ownsRow_setCell_below (ownsRow_setCell_below r1 (a := ⟨w.heap.size + 1, 0, none⟩) (by simp only; omega) _) (a := ⟨w.heap.size + 1, 1, none⟩) (by simp only; omega) _) (by omega)
      · exact own_weak (ownsRow_setCell_below (ownsRow_setCell_below r2 (a := ⟨w.heap.size + 1, 0, none⟩) (by simp only; omega) _) (a := ⟨w.heap.size + 1, 1, none⟩) (by simp only; omega) _) (by omega)
    · have hxb : (X == 0) = false := by simp [hx]
      have HX := hide hx
      clear hx
      go_wp2_with fail
      have T0 := V0.out (.cells #[.string e, .slice a1 i1 c1, .int .u8 c, .string n, .bool b, .string m, .bool d, .string k, .slice a2 i2 c2] 24)
      have T1 := V1.out (.cells #[.string e, .slice a1 i1 c1, .int .u8 c, .string n, .bool b, .string m, .bool d, .string k, .slice a2 i2 c2] 24)
      have T2 := V2.out (.cells #[.string e, .slice a1 i1 c1, .int .u8 c, .string n, .bool b, .string m, .bool d, .string k, .slice a2 i2 c2] 24)
      have T3 := V3.out (.cells #[.string e, .slice a1 i1 c1, .int .u8 c, .string n, .bool b, .string m, .bool d, .string k, .slice a2 i2 c2] 24)
      clear V0 V1 V2 V3 V4
      have hw2 : W2.heap.size < (W2.alloc (.cells #[.string e, .slice a1 i1 c1, .int .u8 c, .string n, .bool b, .string m, .bool d, .string k, .slice a2 i2 c2] 24)).heap.size := by simp
      generalize W2.alloc (.cells #[.string e, .slice a1 i1 c1, .int .u8 c, .string n, .bool b, .string m, .bool d, .string k, .slice a2 i2 c2] 24) = W3 at *
      have TT0 := hide T0
      have TT1 := hide T1
      have TT2 := hide T2
      have TT3 := hide T3
      obtain ⟨x0, x1, x2, x3, x4, x5, x6, x7, x8⟩ := seen9 T0
      have y0 := fun o => one_free o T0
      have y1 := fun o => one_free o T1
      have x9 := cell_at 0 T1 rfl
      have x10 := cell_at 1 T1 rfl
      obtain ⟨c0, c1, f1⟩ := T2.seen
      have n1 : W1.heap.size ≠ w.heap.size := by omega
      have n2 : w.heap.size ≠ W1.heap.size := by omega
      have n3 : W1.heap.size ≠ w.heap.size + 1 := by omega
      have n4 : w.heap.size + 1 ≠ W1.heap.size := by omega
      clear T0 T1 T2 T3 hrd
      go_region_held3 (fun w' => w'.cell? ⟨W1.heap.size, 1, none⟩ = some (.int .i64 (Y : Int))) (go_keep) (fail)
      go_wp2_with fail
      obtain ⟨W99, hW99, g99, t99⟩ := nine_world (W := W3) (.string ⟨#[]⟩) (.slice none 0 0) (.int .u8 0) (.string ⟨#[]⟩) (.bool false) (.string ⟨#[]⟩) (.bool false) (.string ⟨#[]⟩) (.slice none 0 0) TT0.out
      rw [← hW99]
      have hz3 := (Array.getElem?_eq_some_iff.1 TT1.out).1
      have q1 := (t99.block (w.heap.size + 1) hz3 (by omega)).trans TT1.out
      have b3 : Below w.heap.size w W99 := TT3.out.trans (t99.below (Nat.le_refl _) (by omega))
      refine fin7 _ _ w.heap.size (w.heap.size + 1) X (Y : Int) ⟨#[]⟩ (.slice none 0 0) 0 ⟨#[]⟩ false ⟨#[]⟩ false ⟨#[]⟩ (.slice none 0 0) ⟨_, _, _, rfl⟩ ⟨_, _, _, rfl⟩ rfl rfl ((Below.heap_setCell _ _ _ _ (by simp only; omega)).trans ((Below.heap_setCell _ _ _ _ (by simp only; omega)).trans g99)) (set_lies 1 _ (set_lies 0 _ q1)) ?_
      exact PP.out _ _ ((b3.setCell (p := ⟨w.heap.size + 1, 0, none⟩) (by simp only; omega) _).setCell (p := ⟨w.heap.size + 1, 1, none⟩) (by simp only; omega) _).drew ⟨fun h => absurd h HX.out, fun _ => rfl⟩

end Go.Proofs.YtagnikhkmaplpaaGreat
