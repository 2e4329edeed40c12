/-
  Walks: a text is read, whatever its length; entries; the order of texts. · Walks: strings.Cut at "+", Canon, and the chapter's examples. · Walks: how far Pre and Build go. · The contract of strings.Join, laid at this dump. · The document's reader: a byte that must stand, a number. · The document's reader: identifiers with dots between. · The document's reader: identifiers with dots between: the walk. · The document's parse: the walk. · Plain laws of texts: what is read is written as it stood. · A version that came in, opened: its parts, and how long they are. · The document's answer: lists and versions that are the same, texts of versions.
-/
import Derived.Test.YtpdlgiioahjhiaaGreatQFa
import Derived.Test.YtpdlgiioahjhiaaGreatQWf
import Derived.WalkSmall
import Derived.Test.YtpdlgiioahjhiaaGreatQEd
import Derived.Shelf.Strings.OnBuilder
import Derived.Test.YtpdlgiioahjhiaaGreatProg
import Derived.StillTailTactics
import Derived.Deep.RegionHeld3
import Derived.Deep.AppendLies
import Derived.ProofKit
import Derived.OpenShut
import Derived.ShutString
import Derived.ChangeOld
import Derived.Below
import Derived.SizedLaws
import Derived.SliceStrings
import Derived.Deep.Fields
namespace Go.Proofs.YtpdlgiioahjhiaaGreat
open Go.RowKit Go.Shelf
set_option linter.unusedVariables false

theorem txt_of_row {W : World} {base : Nat} {v : Value} {s : ByteArray} {xs : List (Nat × Nat)} (h : W.ownsRow base 9 1 v xs.length (strs s xs)) : Txt W v (xs.map fun x => seg s.data.toList x.1 x.2) := by
  rcases h.2 with ⟨rfl, h0⟩ | ⟨g, cap, cur, rfl, hg, hh, r1, r2, r3, r4⟩
  · refine ⟨none, 0, by simp [h0], .inl ?_⟩
    rw [List.length_eq_zero_iff.1 h0]; rfl
  · refine ⟨some ⟨g, 0, none⟩, cap, by simp, .inr ⟨g, 0, rfl, (Array.getElem?_eq_some_iff.1 hh).1, fun i hi => ?_⟩⟩
    have hi' : i < xs.length := by simpa using hi
    have hc : cur[i]? = some (.string (s.extract xs[i].1 xs[i].2)) := by
      have e1 : (cur.toList.take (xs.length * 1))[i]? = (strs s xs)[i]? := by rw [r4]
      rw [List.getElem?_take, if_pos (by omega)] at e1
      rw [← Array.getElem?_toList, e1, strs]
      simp [hi']
    rw [Nat.zero_add, cell_at i hh hc, extract_seg]
    simp

def Fresh (n : Nat) (v : Value) : Prop := ∀ a i c, v = .slice (some a) i c → n ≤ a.block
theorem fresh_row {W : World} {base : Nat} {v : Value} {k : Nat} {xs : List Value} (h : W.ownsRow base 9 1 v k xs) : Fresh base v := by
  rintro a i c rfl
  rcases h.2 with ⟨h1, _⟩ | ⟨g, cap, cur, h1, hg, _⟩
  · cases h1
  · cases h1; exact hg

def PRes (l : List UInt8) (n : Nat) (e : Ending) (w' : World) : Prop :=
  match parseR l with
  | .error x => e = .returned (.tuple #[semZ, .agg #[.int .i64 x.1, .int .i64 (x.2 : Int)]])
  | .ok c => ∃ vp vb, e = .returned (.tuple #[.agg #[.string (ofL (semOf l c).maj), .string (ofL (semOf l c).min), .string (ofL (semOf l c).pat), vp, vb], .agg #[.int .i64 0, .int .i64 0]]) ∧ Txt w' vp (semOf l c).pre ∧ Txt w' vb (semOf l c).bld ∧ Fresh n vp ∧ Fresh n vb

set_option maxRecDepth 100000 in
set_option maxHeartbeats 1000000 in
theorem Parse_long (s : ByteArray) (w : World) (hs : ¬ s.size ≤ 64) :
    Calls Tryz.prog 39 #[.string s] w fun e w' => Below w.heap.size w w' ∧ e = .returned (.tuple #[semZ, .agg #[.int .i64 12, .int .i64 64]]) := by
  have hl : (64 : Int) < (s.size : Int) := by omega
  go_enter Tryz.func39, Tryz.ntmps39
  go_wp2_with fail
  go_step3
  go_wp2_with fail
  try rw [Exit.noGoto_ret]
  refine bodyPost_ret (by simp [results, Tryz.results39, go_sem]; try rfl) rfl ?_
  exact ⟨(((Below.refl _ w).alloc (Nat.le_refl _) _).alloc (by simp) _).alloc (by simp; omega) _, rfl⟩

theorem Parse_sem (PA : ∀ (s : ByteArray) (w : World), s.size ≤ 64 → Calls Tryz.prog 39 #[.string s] w (PPost s w)) (s : ByteArray) (w : World) :
    Calls Tryz.prog 39 #[.string s] w fun e w' => Below w.heap.size w w' ∧ PRes s.data.toList w.heap.size e w' := by
  by_cases hs : s.size ≤ 64
  · refine (PA s w hs).mono ?_
    rintro e w' ⟨hb, h⟩
    refine ⟨hb, ?_⟩
    unfold PRes
    cases hp : parseR s.data.toList with
    | error x => rw [hp] at h; exact h
    | ok c =>
      rw [hp] at h
      obtain ⟨vp, vb, rfl, h1, h2⟩ := h
      refine ⟨vp, vb, ?_, txt_of_row h1, txt_of_row h2, fresh_row h1, fresh_row h2⟩
      simp only [semV, semOf, extract_seg]
  · refine (Parse_long s w hs).mono ?_
    rintro e w' ⟨hb, rfl⟩
    refine ⟨hb, ?_⟩
    unfold PRes parseR
    rw [if_pos (by rw [len_data]; omega)]
    rfl

theorem build_lists {l : List UInt8} {p : Nat} {pre pr b : List (Nat × Nat)} (h : buildR l p pre = .ok (pr, b)) : pr = pre ∧ (b = [] ∨ ∃ a, b = segs l a) := by
  unfold buildR at h
  split at h
  · unfold idsR at h
    split at h
    · cases h
    · rename_i b' q hq
      split at hq
      · cases hq
      · cases hq
        split at h
        · cases h
        · cases h; exact ⟨rfl, .inr ⟨_, rfl⟩⟩
  · split at h
    · cases h
    · cases h; exact ⟨rfl, .inl rfl⟩
theorem tail_lists {l : List UInt8} {e : Nat} {pr b : List (Nat × Nat)} (h : tailR l e = .ok (pr, b)) : (pr = [] ∨ ∃ a, pr = segs l a) ∧ (b = [] ∨ ∃ a, b = segs l a) := by
  unfold tailR at h
  split at h
  · unfold idsR at h
    split at h
    · cases h
    · rename_i b' q hq
      split at hq
      · cases hq
      · cases hq
        have := build_lists h
        exact ⟨.inr ⟨_, this.1⟩, this.2⟩
  · have := build_lists h
    exact ⟨.inl this.1, this.2⟩
theorem segs_short (l : List UInt8) (hl : l.length ≤ 64) (xs : List (Nat × Nat)) (h : xs = [] ∨ ∃ a, xs = segs l a) : xs.length ≤ 65 := by
  rcases h with rfl | ⟨a, rfl⟩
  · simp
  · have := segs_len l _ a rfl; omega
theorem seg_short (l : List UInt8) (hl : l.length ≤ 64) (a e : Nat) : (seg l a e).length ≤ 64 := by simp [seg]; omega
theorem parse_len {l : List UInt8} {c : Cuts} (h : parseR l = .ok c) : l.length ≤ 64 := by
  unfold parseR at h
  split at h
  · cases h
  · omega
theorem parse_lists {l : List UInt8} {c : Cuts} (h : parseR l = .ok c) : (c.pre = [] ∨ ∃ a, c.pre = segs l a) ∧ (c.bld = [] ∨ ∃ a, c.bld = segs l a) := by
  unfold parseR at h
  split at h
  · cases h
  · split at h
    · cases h
    · split at h
      · cases h
      · rename_i ht
        cases h
        exact tail_lists ht
theorem parse_short {l : List UInt8} {c : Cuts} (h : parseR l = .ok c) : ShortS (semOf l c) := by
  have hl := parse_len h
  have hs := parse_lists h
  have h1 := segs_short l hl _ hs.1
  have h2 := segs_short l hl _ hs.2
  have hq : ∀ a e, (seg l a e).length ≤ 9223372036854775806 := fun a e => Nat.le_trans (seg_short l hl a e) (by omega)
  refine ⟨hq _ _, hq _ _, hq _ _, ⟨by simp [semOf]; omega, ?_⟩, ⟨by simp [semOf]; omega, ?_⟩⟩
  · intro t ht
    simp only [semOf, List.mem_map] at ht
    obtain ⟨x, _, rfl⟩ := ht
    exact hq _ _
  · intro t ht
    simp only [semOf, List.mem_map] at ht
    obtain ⟨x, _, rfl⟩ := ht
    exact hq _ _

theorem bad_err {p : Bool} {l : List UInt8} {x : Int × Nat} : ∀ xs : List (Nat × Nat), badOf p l xs = some x → x.1 ≠ 0
  | [], h => by cases h
  | y :: r, h => by
    unfold badOf at h
    split at h
    · exact bad_err r h
    · rename_i hn; cases h; exact hn
theorem ids_err {p : Bool} {l : List UInt8} {a : Nat} {x : Int × Nat} (h : idsR p l a = .error x) : x.1 ≠ 0 := by
  unfold idsR at h
  split at h
  · rename_i hb; cases h; exact bad_err _ hb
  · cases h
theorem build_err {l : List UInt8} {p : Nat} {pre : List (Nat × Nat)} {x : Int × Nat} (h : buildR l p pre = .error x) : x.1 ≠ 0 := by
  unfold buildR at h
  split at h
  · split at h
    · rename_i hi; cases h; exact ids_err hi
    · split at h
      · cases h; simp
      · cases h
  · split at h
    · cases h; simp
    · cases h
theorem tail_err {l : List UInt8} {e : Nat} {x : Int × Nat} (h : tailR l e = .error x) : x.1 ≠ 0 := by
  unfold tailR at h
  split at h
  · split at h
    · rename_i hi; cases h; exact ids_err hi
    · exact build_err h
  · exact build_err h
theorem parse_err {l : List UInt8} {x : Int × Nat} (h : parseR l = .error x) : x.1 ≠ 0 := by
  unfold parseR at h
  split at h
  · cases h; simp
  · split at h
    · rename_i hn; cases h; exact nums_err hn
    · split at h
      · rename_i hn; cases h; exact tail_err hn
      · cases h

def EntAt (W : World) (v : Value) (l : List UInt8) : Prop :=
  match parseR l with
  | .error _ => v = .agg #[.string (ofL l), .string ⟨#[]⟩, .string ⟨#[]⟩, .string ⟨#[]⟩, .slice none 0 0, .slice none 0 0, .bool false]
  | .ok c => ∃ vp vb, v = .agg #[.string (ofL l), .string (ofL (semOf l c).maj), .string (ofL (semOf l c).min), .string (ofL (semOf l c).pat), vp, vb, .bool true] ∧ Txt W vp (semOf l c).pre ∧ Txt W vb (semOf l c).bld
theorem EntAt.below {W W' : World} {v : Value} {l : List UInt8} (h : EntAt W v l) (hb : Below W.heap.size W W') : EntAt W' v l := by
  unfold EntAt at *
  cases hp : parseR l with
  | error x => rw [hp] at h; exact h
  | ok c =>
    rw [hp] at h
    obtain ⟨vp, vb, hv, h1, h2⟩ := h
    exact ⟨vp, vb, hv, h1.below hb, h2.below hb⟩

theorem seven_world {W : World} {B : Nat} {x0 x1 x2 x3 x4 x5 x6 : Value} (a b c d e f g : Value) (o1 o2 : Obj) (h : W.heap[B]? = some (.cells #[x0, x1, x2, x3, x4, x5, x6] 136 (0, 0))) :
    ∃ W', W' = ((((((((W.setCell ⟨B, 0, none⟩ a).setCell ⟨B, 1, none⟩ b).setCell ⟨B, 2, none⟩ c).setCell ⟨B, 3, none⟩ d).setCell ⟨B, 4, none⟩ e).setCell ⟨B, 5, none⟩ f).setCell ⟨B, 6, none⟩ g).alloc o1).alloc o2 ∧
      W'.heap[B]? = some (.cells #[a, b, c, d, e, f, g] 136 (0, 0)) ∧ (∀ n₀, n₀ ≤ B → Below n₀ W W') ∧ (∀ j, j < W.heap.size → j ≠ B → W'.heap[j]? = W.heap[j]?) ∧ W.heap.size ≤ W'.heap.size := by
  have hlt := (Array.getElem?_eq_some_iff.1 h).1
  have hB : ∀ n₀, n₀ ≤ B → Below n₀ W (((((((((W.setCell ⟨B, 0, none⟩ a).setCell ⟨B, 1, none⟩ b).setCell ⟨B, 2, none⟩ c).setCell ⟨B, 3, none⟩ d).setCell ⟨B, 4, none⟩ e).setCell ⟨B, 5, none⟩ f).setCell ⟨B, 6, none⟩ g).alloc o1).alloc o2) := fun n₀ hn => by
    have h1 := ((((((((Below.refl n₀ W).setCell (p := ⟨B, 0, none⟩) hn a).setCell (p := ⟨B, 1, none⟩) hn b).setCell (p := ⟨B, 2, none⟩) hn c).setCell (p := ⟨B, 3, none⟩) hn d).setCell (p := ⟨B, 4, none⟩) hn e).setCell (p := ⟨B, 5, none⟩) hn f).setCell (p := ⟨B, 6, none⟩) hn g)
    have h2 := h1.alloc (by have := h1.size; omega) o1
    exact h2.alloc (by have := h2.size; omega) o2
  have k1 : ∀ (X : World) (o : Nat) (u : Value) (j : Nat), j ≠ B → (X.setCell ⟨B, o, none⟩ u).heap[j]? = X.heap[j]? := fun X o u j hj => Below.heap_setCell _ _ _ j hj
  have hz : (((((((W.setCell ⟨B, 0, none⟩ a).setCell ⟨B, 1, none⟩ b).setCell ⟨B, 2, none⟩ c).setCell ⟨B, 3, none⟩ d).setCell ⟨B, 4, none⟩ e).setCell ⟨B, 5, none⟩ f).setCell ⟨B, 6, none⟩ g).heap.size = W.heap.size := by
    have k2 : ∀ (X : World) (o : Nat) (u : Value), (X.setCell ⟨B, o, none⟩ u).heap.size = X.heap.size := fun X o u => Array.size_modify
    rw [k2, k2, k2, k2, k2, k2, k2]
  refine ⟨_, rfl, ?_, hB, ?_, (hB 0 (Nat.zero_le _)).size⟩
  · rw [Below.heap_alloc _ _ _ (by rw [World.size_alloc, hz]; omega), Below.heap_alloc _ _ _ (by rw [hz]; omega)]
    have h0 : (W.setCell ⟨B, 0, none⟩ a).heap[B]? = some (.cells #[a, x1, x2, x3, x4, x5, x6] 136 (0, 0)) := set_lies 0 a h
    have h1 : ((W.setCell ⟨B, 0, none⟩ a).setCell ⟨B, 1, none⟩ b).heap[B]? = some (.cells #[a, b, x2, x3, x4, x5, x6] 136 (0, 0)) := set_lies 1 b h0
    generalize (W.setCell ⟨B, 0, none⟩ a).setCell ⟨B, 1, none⟩ b = W1 at *
    have h2 : (W1.setCell ⟨B, 2, none⟩ c).heap[B]? = some (.cells #[a, b, c, x3, x4, x5, x6] 136 (0, 0)) := set_lies 2 c h1
    generalize W1.setCell ⟨B, 2, none⟩ c = W2 at *
    have h3 : (W2.setCell ⟨B, 3, none⟩ d).heap[B]? = some (.cells #[a, b, c, d, x4, x5, x6] 136 (0, 0)) := set_lies 3 d h2
    generalize W2.setCell ⟨B, 3, none⟩ d = W3 at *
    have h4 : (W3.setCell ⟨B, 4, none⟩ e).heap[B]? = some (.cells #[a, b, c, d, e, x5, x6] 136 (0, 0)) := set_lies 4 e h3
    generalize W3.setCell ⟨B, 4, none⟩ e = W4 at *
    have h5 : (W4.setCell ⟨B, 5, none⟩ f).heap[B]? = some (.cells #[a, b, c, d, e, f, x6] 136 (0, 0)) := set_lies 5 f h4
    exact set_lies 6 g h5
  · intro j hj hne
    rw [Below.heap_alloc _ _ _ (by rw [World.size_alloc, hz]; omega), Below.heap_alloc _ _ _ (by rw [hz]; omega), k1 _ _ _ _ hne, k1 _ _ _ _ hne, k1 _ _ _ _ hne, k1 _ _ _ _ hne, k1 _ _ _ _ hne, k1 _ _ _ _ hne, k1 _ _ _ _ hne]

theorem fin33 {R : Ending → World → Prop} (tmps : Array Value) (W : World) (B : Nat) (a b c d : ByteArray) (vp vb : Value) (k : Bool) (op : ∃ a i c, vp = .slice a i c) (ob : ∃ a i c, vb = .slice a i c)
    (h2 : tmps.getD 4 undef = .pointer (some ⟨B, 0, none⟩)) (e1 : W.heap[B]? = some (.cells #[.string a, .string b, .string c, .string d, vp, vb, .bool k] 136 (0, 0)))
    (hR : R (.returned (.agg #[.string a, .string b, .string c, .string d, vp, vb, .bool k])) W) :
    bodyPost Tryz.prog Tryz.f110 R .ret { tmps := tmps, defers := [] } W := by
  obtain ⟨a1, i1, c1, rfl⟩ := op
  obtain ⟨a2, i2, c2, rfl⟩ := ob
  have r0 := cell_at 0 e1 rfl
  have r1 := cell_at 1 e1 rfl
  have r2 := cell_at 2 e1 rfl
  have r3 := cell_at 3 e1 rfl
  have r4 := cell_at 4 e1 rfl
  have r5 := cell_at 5 e1 rfl
  have r6 := cell_at 6 e1 rfl
  rw [Array.getD_eq_getD_getElem?] at h2
  refine ⟨rfl, _, ?_, hR⟩
  simp [results, Tryz.results110, go_sem, h2, r0, r1, r2, r3, r4, r5, r6]
  try rfl

theorem txt_kept {W W' : World} {v : Value} {ts : List (List UInt8)} {B : Nat} (h : Txt W v ts) (hk : ∀ j, j < W.heap.size → j ≠ B → W'.heap[j]? = W.heap[j]?) (hs : W.heap.size ≤ W'.heap.size) (hB : ∀ a n cap, v = .slice (some a) n cap → ts ≠ [] → a.block ≠ B) : Txt W' v ts := by
  obtain ⟨a, cap, hv, h0 | ⟨b, off, ha, hlt, hc⟩⟩ := h
  · exact ⟨a, cap, hv, .inl h0⟩
  · by_cases hn : ts = []
    · exact ⟨a, cap, hv, .inl hn⟩
    · have hne := hB _ _ _ (by rw [hv, ha]) hn
      exact ⟨a, cap, hv, .inr ⟨b, off, ha, Nat.lt_of_lt_of_le hlt hs, fun i hi => by rw [← hc i hi]; simp only [World.cell?]; rw [hk b hlt hne]⟩⟩

set_option maxRecDepth 100000 in
set_option maxHeartbeats 1000000 in
theorem read_any (PA : ∀ (s : ByteArray) (w : World), s.size ≤ 64 → Calls Tryz.prog 39 #[.string s] w (PPost s w)) (s : ByteArray) (w : World) :
    Calls Tryz.prog 110 #[.string s, .func (.func 39) #[] #[]] w fun e w' => Below w.heap.size w w' ∧ ∃ v, e = .returned v ∧ EntAt w' v s.data.toList := by
  cases hp : parseR s.data.toList with
  | error x =>
    have HX := hide (parse_err hp)
    have hxb : (x.1 == 0) = false := by simpa using HX.out
    go_enter Tryz.func110, Tryz.ntmps110
    go_wp2_with fail
    refine (Parse_sem PA s _).mono ?_
    rintro e w1 ⟨b1, h1⟩
    unfold PRes at h1
    rw [hp] at h1
    subst h1
    unfold semZ
    have eR := (b1.block w.heap.size (by simp)).trans (World.alloc_heap_new w _)
    have bw := (((Below.refl _ w).alloc (Nat.le_refl _) _)).trans (b1.mono (by simp))
    have hlt : w.heap.size < w1.heap.size := (Array.getElem?_eq_some_iff.1 eR).1
    have hlt1 : w.heap.size < w1.heap.size + 1 := by omega
    have hlt2 : w.heap.size < w1.heap.size + 1 + 1 := by omega
    have r0 := cell_at 0 eR rfl
    have r1 := cell_at 1 eR rfl
    have r2 := cell_at 2 eR rfl
    have r3 := cell_at 3 eR rfl
    have r4 := cell_at 4 eR rfl
    have r5 := cell_at 5 eR rfl
    have r6 := cell_at 6 eR rfl
    have z0 := one_free 0 eR
    have z1 := one_free 1 eR
    have z2 := one_free 2 eR
    have z3 := one_free 3 eR
    have z4 := one_free 4 eR
    have z5 := one_free 5 eR
    have z6 := one_free 6 eR
    clear b1
    go_wp2_with fail
    obtain ⟨W9, hW9, g1, hbl, hk, hs9⟩ := seven_world (.string s) (.string ⟨#[]⟩) (.string ⟨#[]⟩) (.string ⟨#[]⟩) (.slice none 0 0) (.slice none 0 0) (.bool false) (.cells #[.string ⟨#[]⟩, .string ⟨#[]⟩, .string ⟨#[]⟩, .slice none 0 0, .slice none 0 0] 33) (.cells #[.int .i64 x.1, .int .i64 (x.2 : Int)] 25) eR
    rw [← hW9]
    refine fin33 _ W9 w.heap.size _ _ _ _ _ _ _ ⟨_, _, _, rfl⟩ ⟨_, _, _, rfl⟩ rfl g1 ?_
    refine ⟨bw.trans (hbl _ (Nat.le_refl _)), _, rfl, ?_⟩
    unfold EntAt
    rw [hp, ofL_self]
  | ok c =>
    go_enter Tryz.func110, Tryz.ntmps110
    go_wp2_with fail
    refine (Parse_sem PA s _).mono ?_
    rintro e w1 ⟨b1, h1⟩
    unfold PRes at h1
    rw [hp] at h1
    obtain ⟨vp, vb, rfl, t1, t2, fr1, fr2⟩ := h1
    simp only [World.size_alloc] at fr1 fr2
    obtain ⟨a1, c1, rfl, q1⟩ := id t1
    obtain ⟨a2, c2, rfl, q2⟩ := id t2
    have eR := (b1.block w.heap.size (by simp)).trans (World.alloc_heap_new w _)
    have bw := (((Below.refl _ w).alloc (Nat.le_refl _) _)).trans (b1.mono (by simp))
    have hlt : w.heap.size < w1.heap.size := (Array.getElem?_eq_some_iff.1 eR).1
    have hlt1 : w.heap.size < w1.heap.size + 1 := by omega
    have hlt2 : w.heap.size < w1.heap.size + 1 + 1 := by omega
    have T1 : Hid (∀ (W' : World), (∀ j, j < w1.heap.size → j ≠ w.heap.size → W'.heap[j]? = w1.heap[j]?) → w1.heap.size ≤ W'.heap.size → Txt W' _ (semOf s.data.toList c).pre) := fun W' hk hs => txt_kept (B := w.heap.size) t1 hk hs (fun a n cap hv hn => by have := fr1 _ _ _ hv; omega)
    have T2 : Hid (∀ (W' : World), (∀ j, j < w1.heap.size → j ≠ w.heap.size → W'.heap[j]? = w1.heap[j]?) → w1.heap.size ≤ W'.heap.size → Txt W' _ (semOf s.data.toList c).bld) := fun W' hk hs => txt_kept (B := w.heap.size) t2 hk hs (fun a n cap hv hn => by have := fr2 _ _ _ hv; omega)
    have r0 := cell_at 0 eR rfl
    have r1 := cell_at 1 eR rfl
    have r2 := cell_at 2 eR rfl
    have r3 := cell_at 3 eR rfl
    have r4 := cell_at 4 eR rfl
    have r5 := cell_at 5 eR rfl
    have r6 := cell_at 6 eR rfl
    have z0 := one_free 0 eR
    have z1 := one_free 1 eR
    have z2 := one_free 2 eR
    have z3 := one_free 3 eR
    have z4 := one_free 4 eR
    have z5 := one_free 5 eR
    have z6 := one_free 6 eR
    clear b1 t1 t2 q1 q2 fr1 fr2
    go_wp2_with fail
    obtain ⟨W9, hW9, g1, hbl, hk, hs9⟩ := seven_world (.string s) (.string (ofL (semOf s.data.toList c).maj)) (.string (ofL (semOf s.data.toList c).min)) (.string (ofL (semOf s.data.toList c).pat)) (.slice a1 (semOf s.data.toList c).pre.length c1) (.slice a2 (semOf s.data.toList c).bld.length c2) (.bool true) (.cells #[.string (ofL (semOf s.data.toList c).maj), .string (ofL (semOf s.data.toList c).min), .string (ofL (semOf s.data.toList c).pat), .slice a1 (semOf s.data.toList c).pre.length c1, .slice a2 (semOf s.data.toList c).bld.length c2] 33) (.cells #[.int .i64 0, .int .i64 0] 25) eR
    rw [← hW9]
    refine fin33 _ W9 w.heap.size _ _ _ _ _ _ _ ⟨_, _, _, rfl⟩ ⟨_, _, _, rfl⟩ rfl g1 ?_
    refine ⟨bw.trans (hbl _ (Nat.le_refl _)), _, rfl, ?_⟩
    unfold EntAt
    rw [hp]
    exact ⟨_, _, by rw [ofL_self], T1.out _ hk hs9, T2.out _ hk hs9⟩

set_option maxRecDepth 100000 in
set_option maxHeartbeats 1000000 in
theorem compare_any (va vb : Value) (a b : List UInt8) (w : World) (ha : EntAt w va a) (hb : EntAt w vb b) :
    Calls Tryz.prog 109 #[va, vb, .func (.func 71) #[] #[], .func (.func 111) #[] #[]] w fun e w' => e = .returned (.int .i64 (cmpT a b)) ∧ Below w.heap.size w w' := by
  unfold EntAt at ha hb
  cases hp : parseR a with
  | error x =>
    rw [hp] at ha
    cases hq : parseR b with
    | error y =>
      rw [hq] at hb
      subst ha hb
      have HC : Hid (cmpT a b = Lib.compareBytes a b) := by show _ = _; unfold cmpT; rw [hp, hq]
      have S := StrCompare_any (ofL a) (ofL b)
      rw [ofL_data, ofL_data] at S
      have HS := hide S
      clear S hp hq
      go_enter Tryz.func109, Tryz.ntmps109
      go_wp2_with fail
      refine (HS.out _).mono ?_
      rintro e w' ⟨rfl, rfl⟩
      go_wp2_with fail
      go_ret
      exact ⟨ret_i HC.out.symm, ((Below.refl _ w).alloc (Nat.le_refl _) _).alloc (by simp) _⟩
    | ok y =>
      rw [hq] at hb
      obtain ⟨vp, vb, rfl, t1, t2⟩ := hb
      obtain ⟨a1, c1, rfl, _⟩ := t1
      obtain ⟨a2, c2, rfl, _⟩ := t2
      subst ha
      have HC : Hid (cmpT a b = -1) := by show _ = _; unfold cmpT; rw [hp, hq]
      clear hp hq
      go_enter Tryz.func109, Tryz.ntmps109
      go_wp2_with fail
      go_ret
      exact ⟨ret_i HC.out.symm, ((Below.refl _ w).alloc (Nat.le_refl _) _).alloc (by simp) _⟩
  | ok x =>
    rw [hp] at ha
    obtain ⟨vp, vb', rfl, t1, t2⟩ := ha
    obtain ⟨a1, c1, rfl, _⟩ := id t1
    obtain ⟨a2, c2, rfl, _⟩ := id t2
    cases hq : parseR b with
    | error y =>
      rw [hq] at hb
      subst hb
      have HC : Hid (cmpT a b = 1) := by show _ = _; unfold cmpT; rw [hp, hq]
      clear hp hq t1 t2
      go_enter Tryz.func109, Tryz.ntmps109
      go_wp2_with fail
      go_ret
      exact ⟨ret_i HC.out.symm, ((Below.refl _ w).alloc (Nat.le_refl _) _).alloc (by simp) _⟩
    | ok y =>
      rw [hq] at hb
      obtain ⟨wp, wb, rfl, u1, u2⟩ := hb
      obtain ⟨a3, c3, rfl, _⟩ := id u1
      obtain ⟨a4, c4, rfl, _⟩ := id u2
      have HC : Hid (cmpT a b = ordO (semOf a x) (semOf b y)) := by show _ = _; unfold cmpT; rw [hp, hq]
      have HO := hide (fun W (hW : Below w.heap.size w W) => order_any _ _ (semOf a x) (semOf b y) W (SemAt.below ⟨_, _, rfl, t1, t2⟩ hW) (SemAt.below ⟨_, _, rfl, u1, u2⟩ hW) (parse_short hp) (parse_short hq))
      clear hp hq t1 t2 u1 u2
      go_enter Tryz.func109, Tryz.ntmps109
      go_wp2_with fail
      refine (HO.out _ (((Below.refl _ w).alloc (Nat.le_refl _) _).alloc (by simp) _)).mono ?_
      rintro e w' ⟨rfl, b1⟩
      go_wp2_with fail
      go_ret
      exact ⟨ret_i HC.out.symm, (((Below.refl _ w).alloc (Nat.le_refl _) _).alloc (by simp) _).trans (b1.mono (by simp; omega))⟩

set_option maxRecDepth 100000 in
set_option maxHeartbeats 1000000 in
theorem TextsCompare_any (PA : ∀ (s : ByteArray) (w : World), s.size ≤ 64 → Calls Tryz.prog 39 #[.string s] w (PPost s w)) (s t : ByteArray) (w : World) :
    Calls Tryz.prog 75 #[.string s, .string t, .func (.func 39) #[] #[], .func (.func 71) #[] #[]] w fun e w' => e = .returned (.int .i64 (cmpT s.data.toList t.data.toList)) ∧ Below w.heap.size w w' := by
  go_enter Tryz.func75, Tryz.ntmps75
  go_wp2_with fail
  refine (read_any PA _ _).mono ?_
  rintro e w1 ⟨b1, v1, rfl, h1⟩
  go_wp2_with fail
  refine (read_any PA _ _).mono ?_
  rintro e w2 ⟨b2, v2, rfl, h2⟩
  have C := hide (compare_any v1 v2 _ _ w2 (h1.below b2) h2)
  clear h1 h2
  go_wp2_with fail
  refine C.out.mono ?_
  rintro e w3 ⟨rfl, b3⟩
  go_wp2_with fail
  go_ret
  exact ⟨rfl, b1.trans ((b2.mono b1.size).trans (b3.mono (Nat.le_trans b1.size b2.size)))⟩

set_option maxHeartbeats 400000 in
theorem CompareT_any (PA : ∀ (s : ByteArray) (w : World), s.size ≤ 64 → Calls Tryz.prog 39 #[.string s] w (PPost s w)) (s t : ByteArray) (w : World) :
    Calls Tryz.prog 42 #[.string s, .string t] w fun e w' => e = .returned (.int .i64 (cmpT s.data.toList t.data.toList)) ∧ Below w.heap.size w w' := by
  go_enter Tryz.func42, Tryz.ntmps42
  go_wp2_with fail
  refine (TextsCompare_any PA _ _ _).mono ?_
  rintro e w1 ⟨rfl, b1⟩
  go_wp2_with fail
  go_ret
  exact ⟨rfl, b1⟩

end Go.Proofs.YtpdlgiioahjhiaaGreat

namespace Go.Proofs.YtpdlgiioahjhiaaGreat
open Go.RowKit Go.Shelf
set_option linter.unusedVariables false

set_option maxRecDepth 100000 in
set_option maxHeartbeats 400000 in
theorem IndexByte_any (s : ByteArray) (c : Int) (w : World) :
    Calls Tryz.prog 166 #[.string s, .int .u8 c] w fun e w' => e = .returned (.int .i64 (Lib.indexByte s.data.toList c.toNat.toUInt8)) ∧ w' = w := by
  go_enter Tryz.func166, Tryz.ntmps166
  go_wp2
  rw [run_callFunc_extern Tryz.func170 (by kernel_rfl) (by kernel_rfl) (by kernel_rfl) (e := Extern.BytealgIndexByte.indexByte) (by kernel_rfl), Lib.run_indexByteString]
  simp only [Result.andThen]
  rw [Oper.upon_value]
  go_wp2
  go_ret
  exact ⟨rfl, rfl⟩

end Go.Proofs.YtpdlgiioahjhiaaGreat

namespace Go.Proofs.YtpdlgiioahjhiaaGreat
open Go.RowKit
set_option linter.unusedVariables false

theorem IndexS_any (s : ByteArray) (c : Int) (w : World) :
    Calls Tryz.prog 158 #[.string s, .int .u8 c] w fun e w' => e = .returned (.int .i64 (Lib.indexByte s.data.toList c.toNat.toUInt8)) ∧ w' = w := by
  go_enter Tryz.func158, Tryz.ntmps158
  go_wp2_with fail
  refine (IndexByte_any _ _ _).mono ?_
  rintro e w' ⟨rfl, rfl⟩
  go_wp2_with fail
  go_ret
  exact ⟨rfl, rfl⟩

def preByte (c : UInt8) : Bool := isC (c.toNat : Int) 5 || decide (0 ≤ Lib.indexByte [45, 43, 46] c)
def prL : List UInt8 → Nat
  | [] => 0
  | c :: r => if preByte c then prL r + 1 else 0
theorem prL_le : ∀ l : List UInt8, prL l ≤ l.length
  | [] => Nat.le_refl _
  | c :: r => by
    unfold prL
    split
    · have := prL_le r; simp; omega
    · simp
theorem prL_hit (s : ByteArray) (j : Nat) (h : j < s.size) (hc : preByte s[j] = true) : prL (s.data.toList.drop j) = 1 + prL (s.data.toList.drop (j + 1)) := by
  have h' : j < s.data.toList.length := by rw [len_data]; exact h
  rw [List.drop_eq_getElem_cons h', prL, if_pos (by exact hc)]
  omega
theorem prL_miss (s : ByteArray) (j : Nat) (h : j < s.size) (hc : preByte s[j] = false) : prL (s.data.toList.drop j) = 0 := by
  have h' : j < s.data.toList.length := by rw [len_data]; exact h
  rw [List.drop_eq_getElem_cons h', prL, if_neg (by rw [show s.data.toList[j] = s[j] from rfl, hc]; decide)]
theorem prL_end (s : ByteArray) (j : Nat) (h : ¬ j < s.size) : prL (s.data.toList.drop j) = 0 := by
  rw [List.drop_eq_nil_of_le (by rw [len_data]; omega)]; rfl
theorem byte_back (c : UInt8) : ((c.toNat : Int)).toNat.toUInt8 = c := by simp

set_option maxHeartbeats 1000000 in
theorem preEnd_any (s : ByteArray) (a : Nat) (w : World) (hs : s.size ≤ 256) (ha : a ≤ s.size) :
    Calls Tryz.prog 147 #[.string s, .int .i64 (a : Int)] w fun e w' => e = .returned (.int .i64 ((a + prL (s.data.toList.drop a) : Nat) : Int)) ∧ w' = w := by
  generalize hR : a + prL (s.data.toList.drop a) = R
  have HR0 := hide hR
  clear hR
  have CI := hide (fun (c : UInt8) W => (by have := IndexS_any ⟨#[45, 43, 46]⟩ (c.toNat : Int) W; rw [byte_back] at this; exact this : Calls Tryz.prog 158 #[.string ⟨#[45, 43, 46]⟩, .int .u8 (c.toNat : Int)] W fun e w' => e = .returned (.int .i64 (Lib.indexByte [45, 43, 46] c)) ∧ w' = W))
  go_enter Tryz.func147, Tryz.ntmps147
  go_wp2_with fail
  go_loop [1] (fun i => ∃ j : Nat, a + j ≤ s.size ∧ i = .int .i64 ((a + j : Nat) : Int) ∧ Hid (prL (s.data.toList.drop a) = j + prL (s.data.toList.drop (a + j)))) (fun i => s.size - (intOf i).toNat)
  case atStart => exact ⟨0, by omega, by simp, by simp [Hid]⟩
  case round =>
    obtain ⟨j, hj, rfl, HR⟩ := hrel
    obtain ⟨k, hk⟩ : ∃ k, k = a + j := ⟨_, rfl⟩
    rw [← hk] at HR hj ⊢
    by_cases hlt : k < s.size
    · by_cases hc : isC (s[k].toNat : Int) 5 = true
      · have H1 := hide (prL_hit s k hlt (by unfold preByte; rw [hc]; rfl))
        have HK := hide hk
        clear hk
        go_wp2_with (go_at_call 55; refine (Is_any _ _ _).mono ?_; rintro e w' ⟨rfl, rfl⟩)
        go_round
        case rel => exact ⟨j + 1, by have := HK.out; omega, by have := HK.out; subst this; go_num, by have a := HR.out; have b := H1.out; have c := HK.out; subst c; show _ = _; rw [Nat.add_assoc] at b; omega⟩
        case measure => simp [intOf]; omega
      · have hc' : isC (s[k].toNat : Int) 5 = false := by simpa using hc
        clear hc
        by_cases hi : 0 ≤ Lib.indexByte [45, 43, 46] s[k]
        · have H1 := hide (prL_hit s k hlt (by unfold preByte; rw [hc', decide_eq_true hi]; rfl))
          have HK := hide hk
          clear hk
          go_wp2_with (first | (go_at_call 55; refine (Is_any _ _ _).mono ?_; rintro e w' ⟨rfl, rfl⟩) | (go_at_call 158; refine (CI.out _ _).mono ?_; rintro e w' ⟨rfl, rfl⟩))
          go_round
          case rel => exact ⟨j + 1, by have := HK.out; omega, by have := HK.out; subst this; go_num, by have a := HR.out; have b := H1.out; have c := HK.out; subst c; show _ = _; rw [Nat.add_assoc] at b; omega⟩
          case measure => simp [intOf]; omega
        · have H1 := hide (prL_miss s k hlt (by unfold preByte; rw [hc', decide_eq_false hi]; rfl))
          have HK := hide hk
          clear hk
          go_wp2_with (first | (go_at_call 55; refine (Is_any _ _ _).mono ?_; rintro e w' ⟨rfl, rfl⟩) | (go_at_call 158; refine (CI.out _ _).mono ?_; rintro e w' ⟨rfl, rfl⟩))
          go_ret
          exact ⟨ret_i (by have a := HR.out; have b := H1.out; have c := HK.out; have d := HR0.out; omega), rfl⟩
    · have H1 := hide (prL_end s k hlt)
      have HK := hide hk
      clear hk
      go_wp2_with fail
      go_ret
      exact ⟨ret_i (by have a := HR.out; have b := H1.out; have c := HK.out; have d := HR0.out; omega), rfl⟩

end Go.Proofs.YtpdlgiioahjhiaaGreat

namespace Go.Proofs.YtpdlgiioahjhiaaGreat
open Go.Shelf
def Tryz.lays156_ren : Go.Shelf.Ren := ⟨fun | 156 => 33 | 165 => 63 | 166 => 64 | 169 => 65 | 240 => 100 | 241 => 101 | 276 => 138 | 277 => 139 | n => n, fun | 31 => 31 | 9 => 9 | 3 => 3 | 4 => 4 | 0 => 0 | 20 => 20 | 72 => 93 | 76 => 97 | 70 => 90 | 37 => 91 | 75 => 96 | 127 => 127 | 164 => 155 | 5 => 5 | 80 => 99 | n => n, fun | n => n⟩
theorem Tryz.lays156 : Go.Proofs.Lays.n156 Tryz.prog Tryz.lays156_ren := {
  mixed := by kernel_rfl
  f156 := Tryz.func33.trans (congrArg some (by kernel_rfl))
  f165 := Tryz.func63.trans (congrArg some (by kernel_rfl))
  f166 := Tryz.func64.trans (congrArg some (by kernel_rfl))
  f169 := Tryz.func65.trans (congrArg some (by kernel_rfl))
  f240 := Tryz.func100.trans (congrArg some (by kernel_rfl))
  f241 := Tryz.func101.trans (congrArg some (by kernel_rfl))
  f276 := Tryz.func138.trans (congrArg some (by kernel_rfl))
  f277 := Tryz.func139.trans (congrArg some (by kernel_rfl))
  t0 := Tryz.underlying0
  a0 := Tryz.isAgg0
  z0 := Tryz.sizeOf0
  v0 := Tryz.zeroValue0
  t3 := Tryz.underlying3
  a3 := Tryz.isAgg3
  z3 := Tryz.sizeOf3
  v3 := Tryz.zeroValue3
  t4 := Tryz.underlying4
  a4 := Tryz.isAgg4
  z4 := Tryz.sizeOf4
  v4 := Tryz.zeroValue4
  t9 := Tryz.underlying9
  a9 := Tryz.isAgg9
  z9 := Tryz.sizeOf9
  v9 := Tryz.zeroValue9
  t20 := Tryz.underlying20
  a20 := Tryz.isAgg20
  z20 := Tryz.sizeOf20
  v20 := Tryz.zeroValue20
  t31 := Tryz.underlying31
  a31 := Tryz.isAgg31
  z31 := Tryz.sizeOf31
  v31 := Tryz.zeroValue31
  t37 := Tryz.underlying91
  a37 := Tryz.isAgg91
  z37 := Tryz.sizeOf91
  v37 := Tryz.zeroValue91
  t70 := Tryz.underlying90
  a70 := Tryz.isAgg90
  z70 := Tryz.sizeOf90
  v70 := Tryz.zeroValue90
  t72 := Tryz.underlying93
  a72 := Tryz.isAgg93
  z72 := Tryz.sizeOf93
  v72 := Tryz.zeroValue93
  t75 := Tryz.underlying96
  a75 := Tryz.isAgg96
  z75 := Tryz.sizeOf96
  v75 := Tryz.zeroValue96
  t76 := Tryz.underlying97
  a76 := Tryz.isAgg97
  z76 := Tryz.sizeOf97
  v76 := Tryz.zeroValue97
  t127 := Tryz.underlying127
  a127 := Tryz.isAgg127
  z127 := Tryz.sizeOf127
  v127 := Tryz.zeroValue127
  t164 := Tryz.underlying155
  a164 := Tryz.isAgg155
  z164 := Tryz.sizeOf155
  v164 := Tryz.zeroValue155 }
theorem Tryz.Builder_Extra_156 : Builder.Extra Tryz.prog Tryz.lays156_ren := {
  sizeBuilder := by kernel_rfl
  liesBuilder := by kernel_rfl
  t5 := Tryz.underlying5
  a5 := Tryz.isAgg5
  z5 := Tryz.sizeOf5
  v5 := Tryz.zeroValue5
  infoByte := by kernel_rfl
  cellsByte := by kernel_rfl
  sizeByte := by kernel_rfl
  neB5 := by decide }
open Go.RowKit in
theorem Tryz.strings_Join_none (a : Option Addr) (c : Nat) (sep : ByteArray) (w : World) :
    Calls Tryz.prog 33 #[.slice a 0 c, .string sep] w fun e w' => e = .returned (.string ⟨#[]⟩) ∧ w' = w := Any.strings_Join_none Tryz.lays156 Tryz.Builder_Extra_156 a c sep w
open Go.RowKit in
theorem Tryz.strings_Join (bk o c : Nat) (xs : List ByteArray) (sep : ByteArray) (w : World) (hcells : ∀ (j : Nat) x, xs[j]? = some x → w.cell? ⟨bk, o + j, none⟩ = some (.string x)) (hbk : bk < w.heap.size) (hN : xs.length ≤ 140737488355328) (hcap : xs.length ≤ c) (hlen : (Lib.join (xs.map (·.data.toList)) sep.data.toList).length ≤ 140737488355328) :
    Calls Tryz.prog 33 #[.slice (some ⟨bk, o, none⟩) xs.length c, .string sep] w fun e w' => e = .returned (.string ⟨(Lib.join (xs.map (·.data.toList)) sep.data.toList).toArray⟩) ∧ Below w.heap.size w w' := Any.strings_Join Tryz.lays156 Tryz.Builder_Extra_156 bk o c xs sep w hcells hbk hN hcap hlen
end Go.Proofs.YtpdlgiioahjhiaaGreat

namespace Go.Proofs.YtpdlgiioahjhiaaGreat
open Go.RowKit Go.Shelf
set_option linter.unusedVariables false

def byteS (l : List UInt8) (c : UInt8) (x : Nat × Int) : Nat × Int := if x.2 = 0 then (if atB l x.1 c then (x.1 + 1, 0) else (x.1, misL l.length x.1)) else x
def numS (l : List UInt8) (x : Nat × Int) : Nat × Int := if x.2 = 0 then (match numR l x.1 with | .ok a => (a, 0) | .error y => (y.2, y.1)) else x
theorem seg_run (l : List UInt8) (a d : Nat) : seg l a (a + d) = (l.drop a).take d := by
  unfold seg
  rw [List.drop_take]
  congr 1
  omega
theorem byte_48 (s : ByteArray) (a : Nat) (h : a < s.size) : (s.data.toList[a]? = some 48) ↔ (s[a].toNat : Int) = 48 := by
  have hg : s.data.toList[a]? = some s[a] := by rw [List.getElem?_eq_getElem (by rw [len_data]; exact h)]; rfl
  rw [hg, Option.some.injEq]
  exact ⟨fun h => by rw [h]; rfl, fun h => UInt8.toNat_inj.1 (by have : s[a].toNat = 48 := by omega
                                                                 rw [this]; rfl)⟩

theorem seg_self (l : List UInt8) (a : Nat) : seg l a a = [] := by unfold seg; rw [List.drop_eq_nil_iff, List.length_take]; omega

def rplace (W : World) (B : Nat) : Nat := (intOf ((W.cell? ⟨B, 1, none⟩).getD (.int .i64 0))).toNat
end Go.Proofs.YtpdlgiioahjhiaaGreat

namespace Go.Proofs.YtpdlgiioahjhiaaGreat
open Go.RowKit Go.Shelf
set_option linter.unusedVariables false

theorem Turn.grown {B : Nat} {w w' : World} (h : Turn B w w') : w.grownBy w' (some B) := ⟨h.os, h.tape, h.output, h.size, fun k hk hn => h.block k hk (fun e => hn (by rw [e]))⟩
theorem own_turn {B : Nat} {w w' : World} {base : Nat} {e : TypeId} {size : Nat} {v : Value} {n : Nat} {xs : List Value} (h : w.ownsRow base e size v n xs) (ht : Turn B w w') (hB : B < base) : w'.ownsRow base e size v n xs := by
  refine h.kept ht.grown ?_
  cases ho : v.ownBlock with
  | none => exact .inl rfl
  | some k => exact .inr (fun e => by have := (h.lt k ho).1; injection e with e; omega)

theorem misL_ne (n a : Nat) : misL n a ≠ 0 := by unfold misL; split <;> decide

theorem atB_iff (l : List UInt8) (a : Nat) (c : UInt8) : atB l a c = true ↔ l[a]? = some c := by unfold atB; simp

theorem ids_good (p : Bool) (l : List UInt8) (k j : Nat) (hne : seg l k j ≠ []) (hz : (p && zeroB (seg l k j)) = false) : wrongL p l (seg l k j) j = 0 := by
  unfold wrongL
  rw [if_neg hne, if_pos]
  cases p <;> simp_all
theorem seg_ne (s : ByteArray) (k j : Nat) (h : k < j) (hj : j ≤ s.size) : seg s.data.toList k j ≠ [] := by
  intro h0
  have := seg_len s.data.toList k j (by rw [len_data]; exact hj)
  rw [h0] at this
  simp at this
  omega

end Go.Proofs.YtpdlgiioahjhiaaGreat

namespace Go.Proofs.YtpdlgiioahjhiaaGreat
open Go.RowKit Go.Shelf
set_option linter.unusedVariables false

theorem Turn.alloc {B : Nat} {w W : World} (h : Turn B w W) (o : Obj) : Turn B w (W.alloc o) := h.trans (Turn.ofBelow ((Below.refl _ W).alloc (Nat.le_refl _) o))
theorem turn_grown {B : Nat} {w W W' : World} {row : Option Nat} (h : Turn B w W) (hg : W.grownBy W' row) (hr : ∀ k, row = some k → w.heap.size ≤ k) : Turn B w W' :=
  ⟨hg.os.trans h.os, hg.tape.trans h.tape, hg.output.trans h.output, Nat.le_trans h.size hg.size, fun k hk hn => (hg.block k (Nat.lt_of_lt_of_le hk h.size) (fun e => by have := hr k e.symm; omega)).trans (h.block k hk hn)⟩
end Go.Proofs.YtpdlgiioahjhiaaGreat

namespace Go.Proofs.YtpdlgiioahjhiaaGreat
open Go.RowKit Go.Shelf
set_option linter.unusedVariables false

def x1 (l : List UInt8) : Nat × Int := numS l (0, 0)
def x2 (l : List UInt8) : Nat × Int := byteS l 46 (x1 l)
def x3 (l : List UInt8) : Nat × Int := numS l (x2 l)
def x4 (l : List UInt8) : Nat × Int := byteS l 46 (x3 l)
def x5 (l : List UInt8) : Nat × Int := numS l (x4 l)
def SemF (n : Nat) (W : World) (v : Value) (x : SemL) : Prop :=
  ∃ vp vb, v = .agg #[.string (ofL x.maj), .string (ofL x.min), .string (ofL x.pat), vp, vb] ∧ Txt W vp x.pre ∧ Txt W vb x.bld ∧ Fresh n vp ∧ Fresh n vb
theorem SemF.toAt {n : Nat} {W : World} {v : Value} {x : SemL} (h : SemF n W v x) : SemAt W v x := by
  obtain ⟨vp, vb, h1, h2, h3, _⟩ := h
  exact ⟨vp, vb, h1, h2, h3⟩
theorem SemF.mono {n m : Nat} {W : World} {v : Value} {x : SemL} (h : SemF n W v x) (hm : m ≤ n) : SemF m W v x := by
  obtain ⟨vp, vb, h1, h2, h3, h4, h5⟩ := h
  exact ⟨vp, vb, h1, h2, h3, fun a i c e => Nat.le_trans hm (h4 a i c e), fun a i c e => Nat.le_trans hm (h5 a i c e)⟩

end Go.Proofs.YtpdlgiioahjhiaaGreat

namespace Go.Proofs.YtpdlgiioahjhiaaGreat

def dotted (ts : List (List UInt8)) : List UInt8 := ts.flatMap fun t => 46 :: t
def joinL : List (List UInt8) → List UInt8
  | [] => []
  | t :: r => t ++ dotted r
def textL (x : SemL) : List UInt8 := x.maj ++ [46] ++ x.min ++ [46] ++ x.pat ++ (if x.pre = [] then [] else 45 :: joinL x.pre) ++ (if x.bld = [] then [] else 43 :: joinL x.bld)

theorem seg_app (l : List UInt8) (a b c : Nat) (h1 : a ≤ b) (h2 : b ≤ c) : seg l a b ++ seg l b c = seg l a c := by
  unfold seg
  have : l.take b = (l.take c).take b := by rw [List.take_take]; congr 1; omega
  rw [this]
  by_cases hb : b ≤ (l.take c).length
  · have e : (l.take c).drop a = ((l.take c).take b ++ (l.take c).drop b).drop a := by rw [List.take_append_drop]
    rw [e, List.drop_append_of_le_length (by rw [List.length_take]; omega)]
  · rw [List.take_of_length_le (by omega), List.drop_eq_nil_of_le (by omega : (l.take c).length ≤ b), List.append_nil]
theorem seg_one (l : List UInt8) (a : Nat) (c : UInt8) (h : l[a]? = some c) : seg l a (a + 1) = [c] := by
  unfold seg
  have hlt := (List.getElem?_eq_some_iff.1 h).1
  have hx := (List.getElem?_eq_some_iff.1 h).2
  rw [List.take_succ_eq_append_getElem hlt, List.drop_append_of_le_length (by rw [List.length_take]; omega), List.drop_eq_nil_of_le (by rw [List.length_take]; omega), hx]
  rfl
theorem seg_all (l : List UInt8) : seg l 0 l.length = l := by simp [seg]

theorem join_segs (l : List UInt8) : ∀ (n a : Nat), l.length - a = n → a ≤ l.length → joinL ((segs l a).map fun x => seg l x.1 x.2) = seg l a (lastE a (segs l a)) ∧ a ≤ lastE a (segs l a) := by
  intro n
  induction n using Nat.strongRecOn with
  | _ n ih =>
    intro a hn ha
    have he := idL_le (l.drop a)
    rw [List.length_drop] at he
    by_cases h : l[a + idL (l.drop a)]? = some 46
    · have hlt := (List.getElem?_eq_some_iff.1 h).1
      obtain ⟨i1, i2⟩ := ih (l.length - (a + idL (l.drop a) + 1)) (by omega) (a + idL (l.drop a) + 1) rfl (by omega)
      have hs := segs_dot l a _ rfl h
      have hl : lastE a (segs l a) = lastE (a + idL (l.drop a) + 1) (segs l (a + idL (l.drop a) + 1)) := by
        rw [hs]
        unfold lastE
        rw [List.getLast?_cons]
        cases hx : (segs l (a + idL (l.drop a) + 1)).getLast? with
        | none => exact absurd (List.getLast?_eq_none_iff.1 hx) (segs_ne _ _)
        | some x => simp
      rw [hl]
      refine ⟨?_, by omega⟩
      rw [hs, List.map_cons, joinL]
      simp only
      have hne := segs_ne l (a + idL (l.drop a) + 1)
      cases hm : (segs l (a + idL (l.drop a) + 1)).map fun x => seg l x.1 x.2 with
      | nil => exact absurd (List.map_eq_nil_iff.1 hm) hne
      | cons t r =>
        rw [hm] at i1
        have : dotted (t :: r) = 46 :: joinL (t :: r) := by simp [dotted, joinL]
        have e1 := seg_app l a (a + idL (l.drop a)) _ (by omega) (Nat.le_trans (Nat.le_succ _) i2)
        have e2 := seg_app l (a + idL (l.drop a)) (a + idL (l.drop a) + 1) _ (by omega) i2
        rw [seg_one l _ 46 h] at e2
        rw [this, i1, ← e1, ← e2]
        rfl
    · have hs := segs_last l a _ rfl h
      rw [hs]
      simp [joinL, lastE, dotted]
theorem ids_join {p : Bool} {l : List UInt8} {a : Nat} {xs : List (Nat × Nat)} {q : Nat} (h : idsR p l a = .ok (xs, q)) (ha : a ≤ l.length) : joinL (xs.map fun x => seg l x.1 x.2) = seg l a q ∧ a ≤ q ∧ q ≤ l.length ∧ xs ≠ [] ∧ badOf p l xs = none := by
  unfold idsR at h
  split at h
  · cases h
  · rename_i hb
    cases h
    have := join_segs l _ a rfl ha
    exact ⟨this.1, this.2, (lastE_ends l a ha).1, segs_ne l a, hb⟩
theorem numR_okle {l : List UInt8} {a b : Nat} (h : numR l a = .ok b) : a ≤ b ∧ (a ≤ l.length → b ≤ l.length) ∧ numB (seg l a b) = true := by
  unfold numR at h
  split at h
  · cases h
  · rename_i h1
    split at h
    · cases h
    · rename_i h2
      cases h
      have hle := runL_le 1 (l.drop a)
      rw [List.length_drop] at hle
      refine ⟨by omega, by omega, ?_⟩
      have hd : digB (seg l a (a + runL 1 (l.drop a))) = true := by
        have e : seg l a (a + runL 1 (l.drop a)) = (l.drop a).take (runL 1 (l.drop a)) := by
          unfold seg; rw [List.drop_take]; congr 1; omega
        have hr : ∀ m : List UInt8, runL 1 (m.take (runL 1 m)) = runL 1 m := by
          intro m
          induction m with
          | nil => rfl
          | cons c r ih =>
            by_cases hc : isC (c.toNat : Int) 1 = true
            · have e : runL 1 (c :: r) = runL 1 r + 1 := by rw [runL, if_pos hc]
              rw [e, List.take_succ_cons, runL, if_pos hc, ih]
            · have e : runL 1 (c :: r) = 0 := by rw [runL, if_neg hc]
              rw [e, List.take_zero]; rfl
        have hlen : ((l.drop a).take (runL 1 (l.drop a))).length = runL 1 (l.drop a) := by rw [List.length_take, List.length_drop]; omega
        rw [e]
        unfold digB
        rw [hr, hlen]
        cases hx : (l.drop a).take (runL 1 (l.drop a)) with
        | nil => rw [hx] at hlen; simp at hlen; omega
        | cons _ _ => simp
      unfold numB
      rw [hd]
      simp only [Bool.not_eq_true] at h2
      rw [h2]
      rfl
theorem dotR_ok {l : List UInt8} {a b : Nat} (h : dotR l a = .ok b) : b = a + 1 ∧ l[a]? = some 46 := by
  unfold dotR at h
  split at h
  · rename_i h1; cases h; exact ⟨rfl, h1⟩
  · cases h
theorem build_join {l : List UInt8} {p : Nat} {pre pr b : List (Nat × Nat)} (h : buildR l p pre = .ok (pr, b)) (hp : p ≤ l.length) :
    seg l p l.length = (if b.map (fun x => seg l x.1 x.2) = [] then [] else 43 :: joinL (b.map fun x => seg l x.1 x.2)) ∧ (b ≠ [] → badOf false l b = none) := by
  unfold buildR at h
  split at h
  · rename_i h43
    have hlt := (List.getElem?_eq_some_iff.1 h43).1
    cases hi : idsR false l (p + 1) with
    | error x => rw [hi] at h; cases h
    | ok y =>
      obtain ⟨xs, q⟩ := y
      rw [hi] at h
      simp only at h
      split at h
      · cases h
      · cases h
        obtain ⟨j1, j2, j3, j4, j5⟩ := ids_join hi (by omega)
        obtain rfl : q = l.length := by omega
        refine ⟨?_, fun _ => j5⟩
        rw [if_neg (by simpa using j4), j1, ← seg_app l p (p + 1) _ (by omega) (by omega), seg_one l p 43 h43]
        rfl
  · split at h
    · cases h
    · cases h
      obtain rfl : p = l.length := by omega
      refine ⟨?_, fun h => absurd rfl h⟩
      simp [seg]
theorem tail_join {l : List UInt8} {e : Nat} {pr b : List (Nat × Nat)} (h : tailR l e = .ok (pr, b)) (he : e ≤ l.length) :
    seg l e l.length = (if pr.map (fun x => seg l x.1 x.2) = [] then [] else 45 :: joinL (pr.map fun x => seg l x.1 x.2)) ++ (if b.map (fun x => seg l x.1 x.2) = [] then [] else 43 :: joinL (b.map fun x => seg l x.1 x.2)) ∧ (pr ≠ [] → badOf true l pr = none) ∧ (b ≠ [] → badOf false l b = none) := by
  unfold tailR at h
  split at h
  · rename_i h45
    have hlt := (List.getElem?_eq_some_iff.1 h45).1
    cases hi : idsR true l (e + 1) with
    | error x => rw [hi] at h; cases h
    | ok y =>
      obtain ⟨xs, q⟩ := y
      rw [hi] at h
      simp only at h
      obtain ⟨j1, j2, j3, j4, j5⟩ := ids_join hi (by omega)
      obtain ⟨k1, k2⟩ := build_join h j3
      obtain ⟨rfl, _⟩ := build_lists h
      refine ⟨?_, fun _ => j5, k2⟩
      rw [← k1, if_neg (by simpa using j4), j1, ← seg_app l e (e + 1) _ (by omega) (by omega), seg_one l e 45 h45, ← seg_app l (e + 1) q _ j2 j3]
      rfl
  · obtain ⟨k1, k2⟩ := build_join h he
    obtain ⟨rfl, _⟩ := build_lists h
    exact ⟨by rw [k1]; rfl, fun h => absurd rfl h, k2⟩
theorem nums_join {l : List UInt8} {a b c d e : Nat} (h : numsR l = .ok (a, b, c, d, e)) : seg l 0 a ++ [46] ++ seg l b c ++ [46] ++ seg l d e = seg l 0 e ∧ e ≤ l.length ∧ numB (seg l 0 a) = true ∧ numB (seg l b c) = true ∧ numB (seg l d e) = true := by
  unfold numsR at h
  cases h1 : numR l 0 with
  | error y => rw [h1] at h; cases h
  | ok a' =>
    rw [h1] at h; simp only at h
    cases h2 : dotR l a' with
    | error y => rw [h2] at h; cases h
    | ok b' =>
      rw [h2] at h; simp only at h
      cases h3 : numR l b' with
      | error y => rw [h3] at h; cases h
      | ok c' =>
        rw [h3] at h; simp only at h
        cases h4 : dotR l c' with
        | error y => rw [h4] at h; cases h
        | ok d' =>
          rw [h4] at h; simp only at h
          cases h5 : numR l d' with
          | error y => rw [h5] at h; cases h
          | ok e' =>
            rw [h5] at h; simp only at h
            cases h
            have n1 := numR_okle h1
            have n3 := numR_okle h3
            have n5 := numR_okle h5
            obtain ⟨rfl, g2⟩ := dotR_ok h2
            obtain ⟨rfl, g4⟩ := dotR_ok h4
            have l2 := (List.getElem?_eq_some_iff.1 g2).1
            have l4 := (List.getElem?_eq_some_iff.1 g4).1
            refine ⟨?_, n5.2.1 (by omega), n1.2.2, n3.2.2, n5.2.2⟩
            have e1 : seg l 0 a ++ [46] = seg l 0 (a + 1) := by rw [← seg_one l a 46 g2, seg_app l 0 a (a + 1) (by omega) (by omega)]
            have e2 : seg l 0 c ++ [46] = seg l 0 (c + 1) := by rw [← seg_one l c 46 g4, seg_app l 0 c (c + 1) (by omega) (by omega)]
            rw [e1, seg_app l 0 (a + 1) c (by omega) (by omega), e2, seg_app l 0 (c + 1) e (by omega) (by omega)]

theorem parse_text {l : List UInt8} {c : Cuts} (h : parseR l = .ok c) : textL (semOf l c) = l := by
  unfold parseR at h
  split at h
  · cases h
  · cases hn : numsR l with
    | error y => rw [hn] at h; cases h
    | ok y =>
      obtain ⟨a, b, c', d, e⟩ := y
      rw [hn] at h
      simp only at h
      cases ht : tailR l e with
      | error y => rw [ht] at h; cases h
      | ok y =>
        obtain ⟨pr, bl⟩ := y
        rw [ht] at h
        simp only at h
        cases h
        obtain ⟨m1, m2, _⟩ := nums_join hn
        obtain ⟨t1, _⟩ := tail_join ht m2
        unfold textL semOf
        simp only
        rw [m1, List.append_assoc, ← t1, seg_app l 0 e _ (by omega) m2, seg_all]

theorem idB_seg (l : List UInt8) (a : Nat) : idL (seg l a (a + idL (l.drop a))) = (seg l a (a + idL (l.drop a))).length := by
  have e : seg l a (a + idL (l.drop a)) = (l.drop a).take (idL (l.drop a)) := by
    unfold seg; rw [List.drop_take]; congr 1; omega
  have hr : ∀ m : List UInt8, idL (m.take (idL m)) = (m.take (idL m)).length := by
    intro m
    induction m with
    | nil => rfl
    | cons c r ih =>
      by_cases hc : isId c = true
      · have e : idL (c :: r) = idL r + 1 := by rw [idL, if_pos hc]
        rw [e, List.take_succ_cons, idL, if_pos hc, ih]; rfl
      · have e : idL (c :: r) = 0 := by rw [idL, if_neg hc]
        rw [e, List.take_zero]; rfl
  rw [e]
  exact hr _
theorem segs_id (l : List UInt8) : ∀ (n a : Nat), l.length - a = n → a ≤ l.length → ∀ x ∈ segs l a, idL (seg l x.1 x.2) = (seg l x.1 x.2).length := by
  intro n
  induction n using Nat.strongRecOn with
  | _ n ih =>
    intro a hn ha x hx
    by_cases h : l[a + idL (l.drop a)]? = some 46
    · rw [segs_dot l a _ rfl h] at hx
      have hlt := (List.getElem?_eq_some_iff.1 h).1
      rcases List.mem_cons.1 hx with rfl | hx
      · exact idB_seg l a
      · exact ih (l.length - (a + idL (l.drop a) + 1)) (by omega) (a + idL (l.drop a) + 1) rfl (by omega) x hx
    · rw [segs_last l a _ rfl h] at hx
      obtain rfl : x = _ := List.mem_singleton.1 hx
      exact idB_seg l a
theorem parse_parts {l : List UInt8} {c : Cuts} (h : parseR l = .ok c) : numB (semOf l c).maj = true ∧ numB (semOf l c).min = true ∧ numB (semOf l c).pat = true ∧ (∀ t ∈ (semOf l c).pre, preB t = true) ∧ (∀ t ∈ (semOf l c).bld, idB t = true) := by
  have hl := parse_lists h
  unfold parseR at h
  split at h
  · cases h
  · cases hn : numsR l with
    | error y => rw [hn] at h; cases h
    | ok y =>
      obtain ⟨a, b, c', d, e⟩ := y
      rw [hn] at h
      simp only at h
      cases ht : tailR l e with
      | error y => rw [ht] at h; cases h
      | ok y =>
        obtain ⟨pr, bl⟩ := y
        rw [ht] at h
        simp only at h
        cases h
        obtain ⟨m1, m2, m3, m4, m5⟩ := nums_join hn
        obtain ⟨t1, t2, t3⟩ := tail_join ht m2
        have bad : ∀ (p : Bool) (xs : List (Nat × Nat)), badOf p l xs = none → ∀ x ∈ xs, wrongL p l (seg l x.1 x.2) x.2 = 0 := by
          intro p xs
          induction xs with
          | nil => intro _ x hx; cases hx
          | cons y r ih =>
            intro hb x hx
            unfold badOf at hb
            split at hb
            · rename_i h0
              rcases List.mem_cons.1 hx with rfl | hx
              · exact h0
              · exact ih hb x hx
            · cases hb
        have wr : ∀ (p : Bool) (x : Nat × Nat), wrongL p l (seg l x.1 x.2) x.2 = 0 → seg l x.1 x.2 ≠ [] ∧ (p && zeroB (seg l x.1 x.2)) = false := by
          intro p x h0
          unfold wrongL at h0
          split at h0
          · exfalso; unfold misL at h0; split at h0 <;> cases h0
          · rename_i hne
            refine ⟨hne, ?_⟩
            split at h0
            · rename_i hz; cases p <;> simp_all
            · exfalso
              split at h0
              · cases h0
              · unfold misL at h0; split at h0 <;> cases h0
        have ids : ∀ xs : List (Nat × Nat), (xs = [] ∨ ∃ a, xs = segs l a) → ∀ x ∈ xs, seg l x.1 x.2 ≠ [] → idB (seg l x.1 x.2) = true := by
          intro xs hxs x hx hne
          rcases hxs with rfl | ⟨a, rfl⟩
          · cases hx
          · have hal : a ≤ l.length := by
              rcases Nat.lt_or_ge l.length a with h | h
              · exfalso
                have hd : l.drop a = [] := List.drop_eq_nil_of_le (by omega)
                have hi : a + idL (l.drop a) = a := by rw [hd]; rfl
                have hg : ¬ l[a]? = some 46 := by rw [List.getElem?_eq_none (by omega)]; simp
                rw [segs_last l a a hi hg] at hx
                obtain rfl : x = _ := List.mem_singleton.1 hx
                apply hne
                unfold seg
                exact List.drop_eq_nil_of_le (by simp; omega)
              · exact h
            unfold idB
            rw [segs_id l _ a rfl hal x hx]
            cases hs : seg l x.1 x.2 with
            | nil => exact absurd hs hne
            | cons _ _ => simp
        refine ⟨m3, m4, m5, ?_, ?_⟩
        · intro t htm
          obtain ⟨x, hx, rfl⟩ := List.mem_map.1 htm
          have hne : pr ≠ [] := fun e => by rw [e] at hx; cases hx
          have w0 := wr true x (bad true pr (t2 hne) x hx)
          unfold preB
          rw [ids pr hl.1 x hx w0.1]
          simpa using w0.2
        · intro t htm
          obtain ⟨x, hx, rfl⟩ := List.mem_map.1 htm
          have hne : bl ≠ [] := fun e => by rw [e] at hx; cases hx
          have w0 := wr false x (bad false bl (t3 hne) x hx)
          exact ids bl hl.2 x hx w0.1

end Go.Proofs.YtpdlgiioahjhiaaGreat

namespace Go.Proofs.YtpdlgiioahjhiaaGreat
open Go.ChangeShapes Go.WideShapes Go.ChangeAt Go.RowKit
set_option linter.unusedVariables false

theorem lenI_ge : ∀ ts : List (List UInt8), ts.length ≤ lenI ts ∧ ∀ t ∈ ts, t.length ≤ lenI ts
  | [] => by simp [lenI]
  | t :: r => by
    have ih := lenI_ge r
    refine ⟨by simp only [List.length_cons, lenI]; omega, fun u hu => ?_⟩
    rcases List.mem_cons.1 hu with rfl | hu
    · simp only [lenI]; omega
    · have := ih.2 u hu; simp only [lenI]; omega

theorem short_of (x : SemL) (h : lenS x ≤ 1048576) : ShortS x := by
  have h1 := lenI_ge x.pre
  have h2 := lenI_ge x.bld
  unfold lenS at h
  exact ⟨by omega, by omega, by omega, ⟨by omega, fun t ht => by have := h1.2 t ht; omega⟩, ⟨by omega, fun t ht => by have := h2.2 t ht; omega⟩⟩
theorem len_wrap (x : SemL) (h : lenS x ≤ 1048576) : wrap64 (lenS x : Int) = (lenS x : Int) := wrap_id _ (by omega)

end Go.Proofs.YtpdlgiioahjhiaaGreat

namespace Go.Proofs.YtpdlgiioahjhiaaGreat
open Go.RowKit Go.Shelf
set_option linter.unusedVariables false

theorem Txt.drewN {W : World} {v : Value} {ts : List (List UInt8)} (h : Txt W v ts) (n : Nat) : Txt (W.drewN n) v ts := h.below (below_drewN _ _ _)

set_option maxHeartbeats 1000000 in
theorem Texts_eq (va vb : Value) (ts : List (List UInt8)) (w : World) (ha : Txt w va ts) (hb : Txt w vb ts) (hs : ts.length ≤ 9223372036854775806) :
    Calls Tryz.prog 23 #[va, vb] w fun e w' => e = .returned (.bool true) ∧ ∃ n, w' = w.drewN n := by
  obtain ⟨a1, c1, rfl, _⟩ := id ha
  obtain ⟨a2, c2, rfl, _⟩ := id hb
  have HA := hide ha
  have HB := hide hb
  clear ha hb
  go_enter Tryz.func23, Tryz.ntmps23
  go_wp2_with fail
  go_loopw [5] (fun i wr => ∃ k n : Nat, k ≤ ts.length ∧ i = .int .i64 k ∧ wr = w.drewN n) (fun i _ => ts.length - (intOf i).toNat)
  case atStart => exact ⟨0, 0, by omega, rfl, rfl⟩
  case round =>
    obtain ⟨k, n, hk, rfl, rfl⟩ := hrel
    by_cases hlt : k < ts.length
    · obtain ⟨b1, o1, rfl, h1⟩ := HA.out.some (by omega)
      obtain ⟨b2, o2, rfl, h2⟩ := HB.out.some (by omega)
      have g1 := h1 k hlt
      have g2 := h2 k hlt
      have hlt' : (k : Int) < (ts.length : Int) := by omega
      have hk0 : (0 : Int) ≤ (k : Int) := by omega
      clear h1 h2
      go_wp2_with fail
      go_quiet (fail)
      go_wp2_with fail
      go_roundw
      case rel => exact ⟨k + 1, n + nq, by omega, by go_num, by first | rfl | simp⟩
      case measure => simp [intOf]; omega
    · go_wp2_with fail
      go_ret
      exact ⟨rfl, n, rfl⟩

set_option maxHeartbeats 1000000 in
theorem Same_eq (va vb : Value) (x : SemL) (w : World) (ha : SemAt w va x) (hb : SemAt w vb x) (sx : ShortS x) :
    Calls Tryz.prog 31 #[va, vb] w fun e w' => e = .returned (.bool true) ∧ Below w.heap.size w w' := by
  obtain ⟨p1, q1, rfl, t1, u1⟩ := ha
  obtain ⟨p2, q2, rfl, t2, u2⟩ := hb
  have T1 := hide (fun W (hW : Below w.heap.size w W) => Texts_eq p1 p2 x.pre W (t1.below hW) (t2.below hW) sx.2.2.2.1.1)
  have T2 := hide (fun W (hW : Below w.heap.size w W) => Texts_eq q1 q2 x.bld W (u1.below hW) (u2.below hW) sx.2.2.2.2.1)
  obtain ⟨a1, c1, rfl, _⟩ := t1
  obtain ⟨a2, c2, rfl, _⟩ := t2
  obtain ⟨a3, c3, rfl, _⟩ := u1
  obtain ⟨a4, c4, rfl, _⟩ := u2
  clear sx
  go_enter Tryz.func31, Tryz.ntmps31
  go_wp2_with fail
  refine (T1.out _ (((Below.refl _ w).alloc (Nat.le_refl _) _).alloc (by simp) _)).mono ?_
  rintro e w1 ⟨rfl, n1, rfl⟩
  go_wp2_with fail
  refine (T2.out _ ((((Below.refl _ w).alloc (Nat.le_refl _) _).alloc (by simp) _).trans (below_drewN _ _ _))).mono ?_
  rintro e w2 ⟨rfl, n2, rfl⟩
  go_wp2_with fail
  go_ret
  exact ⟨rfl, (((Below.refl _ w).alloc (Nat.le_refl _) _).alloc (by simp) _).trans (below_drewN _ _ _)⟩

theorem joinL_len (ts : List (List UInt8)) : (joinL ts).length ≤ lenI ts := by
  cases ts with
  | nil => simp [joinL, lenI]
  | cons t r =>
    have hd : ∀ us : List (List UInt8), (dotted us).length = lenI us := by
      intro us
      induction us with
      | nil => rfl
      | cons u v ih => simp only [dotted, List.flatMap_cons, List.length_append, List.length_cons, lenI] at ih ⊢; omega
    simp only [joinL, List.length_append, lenI, hd]
    omega
theorem cat_step (a b : ByteArray) : ∃ c : ByteArray, a ++ b = c ∧ c.size = a.size + b.size ∧ c.data.toList = a.data.toList ++ b.data.toList :=
  ⟨_, rfl, by simp, by simp⟩
end Go.Proofs.YtpdlgiioahjhiaaGreat
