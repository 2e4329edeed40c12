/-
  Walks: a text is read, whatever its length; entries; the order of texts. · Walks: strings.Cut at "+", Canon, and the chapter's examples.
-/
import Derived.Test.YtaflflelcdcanaaGreatZSd
import Derived.Test.YtaflflelcdcanaaGreatZOa
import Derived.WalkSmall
namespace Go.Proofs.YtaflflelcdcanaaGreat
open Go.RowKit Go.Shelf
set_option linter.unusedVariables false

theorem txt_of_row {W : World} {base : Nat} {v : Value} {s : ByteArray} {xs : List (Nat × Nat)} (h : W.ownsRow base 9 1 v xs.length (strs s xs)) : Txt W v (xs.map fun x => seg s.data.toList x.1 x.2) := by
  rcases h.2 with ⟨rfl, h0⟩ | ⟨g, cap, cur, rfl, hg, hh, r1, r2, r3, r4⟩
  · refine ⟨none, 0, by simp [h0], .inl ?_⟩
    rw [List.length_eq_zero_iff.1 h0]; rfl
  · refine ⟨some ⟨g, 0, none⟩, cap, by simp, .inr ⟨g, 0, rfl, (Array.getElem?_eq_some_iff.1 hh).1, fun i hi => ?_⟩⟩
    have hi' : i < xs.length := by simpa using hi
    have hc : cur[i]? = some (.string (s.extract xs[i].1 xs[i].2)) := by
      have e1 : (cur.toList.take (xs.length * 1))[i]? = (strs s xs)[i]? := by rw [r4]
      rw [List.getElem?_take, if_pos (by omega)] at e1
      rw [← Array.getElem?_toList, e1, strs]
      simp [hi']
    rw [Nat.zero_add, cell_at i hh hc, extract_seg]
    simp

/-- A slice of a block of the call's own. -/
def Fresh (n : Nat) (v : Value) : Prop := ∀ a i c, v = .slice (some a) i c → n ≤ a.block
theorem fresh_row {W : World} {base : Nat} {v : Value} {k : Nat} {xs : List Value} (h : W.ownsRow base 9 1 v k xs) : Fresh base v := by
  rintro a i c rfl
  rcases h.2 with ⟨h1, _⟩ | ⟨g, cap, cur, h1, hg, _⟩
  · cases h1
  · cases h1; exact hg

/-- What Parse hands back, a version told by its parts; n: what is older. -/
def PRes (l : List UInt8) (n : Nat) (e : Ending) (w' : World) : Prop :=
  match parseR l with
  | .error x => e = .returned (.tuple #[semZ, .agg #[.int .i64 x.1, .int .i64 (x.2 : Int)]])
  | .ok c => ∃ vp vb, e = .returned (.tuple #[.agg #[.string (ofL (semOf l c).maj), .string (ofL (semOf l c).min), .string (ofL (semOf l c).pat), vp, vb], .agg #[.int .i64 0, .int .i64 0]]) ∧ Txt w' vp (semOf l c).pre ∧ Txt w' vb (semOf l c).bld ∧ Fresh n vp ∧ Fresh n vb

set_option maxRecDepth 100000 in
set_option maxHeartbeats 1000000 in
theorem Parse_long (s : ByteArray) (w : World) (hs : ¬ s.size ≤ 64) :
    Calls Tryz.prog 39 #[.string s] w fun e w' => Below w.heap.size w w' ∧ e = .returned (.tuple #[semZ, .agg #[.int .i64 12, .int .i64 64]]) := by
  have hl : (64 : Int) < (s.size : Int) := by omega
  go_enter Tryz.func39, Tryz.ntmps39
  go_wp2_with fail
  go_step3
  go_wp2_with fail
  try rw [Exit.noGoto_ret]
  refine bodyPost_ret (by simp [results, Tryz.results39, go_sem]; try rfl) rfl ?_
  exact ⟨(((Below.refl _ w).alloc (Nat.le_refl _) _).alloc (by simp) _).alloc (by simp; omega) _, rfl⟩

theorem Parse_sem (PA : ∀ (s : ByteArray) (w : World), s.size ≤ 64 → Calls Tryz.prog 39 #[.string s] w (PPost s w)) (s : ByteArray) (w : World) :
    Calls Tryz.prog 39 #[.string s] w fun e w' => Below w.heap.size w w' ∧ PRes s.data.toList w.heap.size e w' := by
  by_cases hs : s.size ≤ 64
  · refine (PA s w hs).mono ?_
    rintro e w' ⟨hb, h⟩
    refine ⟨hb, ?_⟩
    unfold PRes
    cases hp : parseR s.data.toList with
    | error x => rw [hp] at h; exact h
    | ok c =>
      rw [hp] at h
      obtain ⟨vp, vb, rfl, h1, h2⟩ := h
      refine ⟨vp, vb, ?_, txt_of_row h1, txt_of_row h2, fresh_row h1, fresh_row h2⟩
      simp only [semV, semOf, extract_seg]
  · refine (Parse_long s w hs).mono ?_
    rintro e w' ⟨hb, rfl⟩
    refine ⟨hb, ?_⟩
    unfold PRes parseR
    rw [if_pos (by rw [len_data]; omega)]
    rfl

theorem build_lists {l : List UInt8} {p : Nat} {pre pr b : List (Nat × Nat)} (h : buildR l p pre = .ok (pr, b)) : pr = pre ∧ (b = [] ∨ ∃ a, b = segs l a) := by
  unfold buildR at h
  split at h
  · unfold idsR at h
    split at h
    · cases h
    · rename_i b' q hq
      split at hq
      · cases hq
      · cases hq
        split at h
        · cases h
        · cases h; exact ⟨rfl, .inr ⟨_, rfl⟩⟩
  · split at h
    · cases h
    · cases h; exact ⟨rfl, .inl rfl⟩
theorem tail_lists {l : List UInt8} {e : Nat} {pr b : List (Nat × Nat)} (h : tailR l e = .ok (pr, b)) : (pr = [] ∨ ∃ a, pr = segs l a) ∧ (b = [] ∨ ∃ a, b = segs l a) := by
  unfold tailR at h
  split at h
  · unfold idsR at h
    split at h
    · cases h
    · rename_i b' q hq
      split at hq
      · cases hq
      · cases hq
        have := build_lists h
        exact ⟨.inr ⟨_, this.1⟩, this.2⟩
  · have := build_lists h
    exact ⟨.inl this.1, this.2⟩
theorem segs_short (l : List UInt8) (hl : l.length ≤ 64) (xs : List (Nat × Nat)) (h : xs = [] ∨ ∃ a, xs = segs l a) : xs.length ≤ 65 := by
  rcases h with rfl | ⟨a, rfl⟩
  · simp
  · have := segs_len l _ a rfl; omega
theorem seg_short (l : List UInt8) (hl : l.length ≤ 64) (a e : Nat) : (seg l a e).length ≤ 64 := by simp [seg]; omega
theorem parse_len {l : List UInt8} {c : Cuts} (h : parseR l = .ok c) : l.length ≤ 64 := by
  unfold parseR at h
  split at h
  · cases h
  · omega
theorem parse_lists {l : List UInt8} {c : Cuts} (h : parseR l = .ok c) : (c.pre = [] ∨ ∃ a, c.pre = segs l a) ∧ (c.bld = [] ∨ ∃ a, c.bld = segs l a) := by
  unfold parseR at h
  split at h
  · cases h
  · split at h
    · cases h
    · split at h
      · cases h
      · rename_i ht
        cases h
        exact tail_lists ht
theorem parse_short {l : List UInt8} {c : Cuts} (h : parseR l = .ok c) : ShortS (semOf l c) := by
  have hl := parse_len h
  have hs := parse_lists h
  have h1 := segs_short l hl _ hs.1
  have h2 := segs_short l hl _ hs.2
  have hq : ∀ a e, (seg l a e).length ≤ 9223372036854775806 := fun a e => Nat.le_trans (seg_short l hl a e) (by omega)
  refine ⟨hq _ _, hq _ _, hq _ _, ⟨by simp [semOf]; omega, ?_⟩, ⟨by simp [semOf]; omega, ?_⟩⟩
  · intro t ht
    simp only [semOf, List.mem_map] at ht
    obtain ⟨x, _, rfl⟩ := ht
    exact hq _ _
  · intro t ht
    simp only [semOf, List.mem_map] at ht
    obtain ⟨x, _, rfl⟩ := ht
    exact hq _ _

theorem bad_err {p : Bool} {l : List UInt8} {x : Int × Nat} : ∀ xs : List (Nat × Nat), badOf p l xs = some x → x.1 ≠ 0
  | [], h => by cases h
  | y :: r, h => by
    unfold badOf at h
    split at h
    · exact bad_err r h
    · rename_i hn; cases h; exact hn
theorem ids_err {p : Bool} {l : List UInt8} {a : Nat} {x : Int × Nat} (h : idsR p l a = .error x) : x.1 ≠ 0 := by
  unfold idsR at h
  split at h
  · rename_i hb; cases h; exact bad_err _ hb
  · cases h
theorem build_err {l : List UInt8} {p : Nat} {pre : List (Nat × Nat)} {x : Int × Nat} (h : buildR l p pre = .error x) : x.1 ≠ 0 := by
  unfold buildR at h
  split at h
  · split at h
    · rename_i hi; cases h; exact ids_err hi
    · split at h
      · cases h; simp
      · cases h
  · split at h
    · cases h; simp
    · cases h
theorem tail_err {l : List UInt8} {e : Nat} {x : Int × Nat} (h : tailR l e = .error x) : x.1 ≠ 0 := by
  unfold tailR at h
  split at h
  · split at h
    · rename_i hi; cases h; exact ids_err hi
    · exact build_err h
  · exact build_err h
theorem parse_err {l : List UInt8} {x : Int × Nat} (h : parseR l = .error x) : x.1 ≠ 0 := by
  unfold parseR at h
  split at h
  · cases h; simp
  · split at h
    · rename_i hn; cases h; exact nums_err hn
    · split at h
      · rename_i hn; cases h; exact tail_err hn
      · cases h

/-- An entry in memory: a text with the version that it is, if it is one. -/
def EntAt (W : World) (v : Value) (l : List UInt8) : Prop :=
  match parseR l with
  | .error _ => v = .agg #[.string (ofL l), .string ⟨#[]⟩, .string ⟨#[]⟩, .string ⟨#[]⟩, .slice none 0 0, .slice none 0 0, .bool false]
  | .ok c => ∃ vp vb, v = .agg #[.string (ofL l), .string (ofL (semOf l c).maj), .string (ofL (semOf l c).min), .string (ofL (semOf l c).pat), vp, vb, .bool true] ∧ Txt W vp (semOf l c).pre ∧ Txt W vb (semOf l c).bld
theorem EntAt.below {W W' : World} {v : Value} {l : List UInt8} (h : EntAt W v l) (hb : Below W.heap.size W W') : EntAt W' v l := by
  unfold EntAt at *
  cases hp : parseR l with
  | error x => rw [hp] at h; exact h
  | ok c =>
    rw [hp] at h
    obtain ⟨vp, vb, hv, h1, h2⟩ := h
    exact ⟨vp, vb, hv, h1.below hb, h2.below hb⟩

theorem seven_world {W : World} {B : Nat} {x0 x1 x2 x3 x4 x5 x6 : Value} (a b c d e f g : Value) (o1 o2 : Obj) (h : W.heap[B]? = some (.cells #[x0, x1, x2, x3, x4, x5, x6] 136 (0, 0))) :
    ∃ W', W' = ((((((((W.setCell ⟨B, 0, none⟩ a).setCell ⟨B, 1, none⟩ b).setCell ⟨B, 2, none⟩ c).setCell ⟨B, 3, none⟩ d).setCell ⟨B, 4, none⟩ e).setCell ⟨B, 5, none⟩ f).setCell ⟨B, 6, none⟩ g).alloc o1).alloc o2 ∧
      W'.heap[B]? = some (.cells #[a, b, c, d, e, f, g] 136 (0, 0)) ∧ (∀ n₀, n₀ ≤ B → Below n₀ W W') ∧ (∀ j, j < W.heap.size → j ≠ B → W'.heap[j]? = W.heap[j]?) ∧ W.heap.size ≤ W'.heap.size := by
  have hlt := (Array.getElem?_eq_some_iff.1 h).1
  have hB : ∀ n₀, n₀ ≤ B → Below n₀ W (((((((((W.setCell ⟨B, 0, none⟩ a).setCell ⟨B, 1, none⟩ b).setCell ⟨B, 2, none⟩ c).setCell ⟨B, 3, none⟩ d).setCell ⟨B, 4, none⟩ e).setCell ⟨B, 5, none⟩ f).setCell ⟨B, 6, none⟩ g).alloc o1).alloc o2) := fun n₀ hn => by
    have h1 := ((((((((Below.refl n₀ W).setCell (p := ⟨B, 0, none⟩) hn a).setCell (p := ⟨B, 1, none⟩) hn b).setCell (p := ⟨B, 2, none⟩) hn c).setCell (p := ⟨B, 3, none⟩) hn d).setCell (p := ⟨B, 4, none⟩) hn e).setCell (p := ⟨B, 5, none⟩) hn f).setCell (p := ⟨B, 6, none⟩) hn g)
    have h2 := h1.alloc (by have := h1.size; omega) o1
    exact h2.alloc (by have := h2.size; omega) o2
  have k1 : ∀ (X : World) (o : Nat) (u : Value) (j : Nat), j ≠ B → (X.setCell ⟨B, o, none⟩ u).heap[j]? = X.heap[j]? := fun X o u j hj => Below.heap_setCell _ _ _ j hj
  have hz : (((((((W.setCell ⟨B, 0, none⟩ a).setCell ⟨B, 1, none⟩ b).setCell ⟨B, 2, none⟩ c).setCell ⟨B, 3, none⟩ d).setCell ⟨B, 4, none⟩ e).setCell ⟨B, 5, none⟩ f).setCell ⟨B, 6, none⟩ g).heap.size = W.heap.size := by
    have k2 : ∀ (X : World) (o : Nat) (u : Value), (X.setCell ⟨B, o, none⟩ u).heap.size = X.heap.size := fun X o u => Array.size_modify
    rw [k2, k2, k2, k2, k2, k2, k2]
  refine ⟨_, rfl, ?_, hB, ?_, (hB 0 (Nat.zero_le _)).size⟩
  · rw [Below.heap_alloc _ _ _ (by rw [World.size_alloc, hz]; omega), Below.heap_alloc _ _ _ (by rw [hz]; omega)]
    have h0 : (W.setCell ⟨B, 0, none⟩ a).heap[B]? = some (.cells #[a, x1, x2, x3, x4, x5, x6] 136 (0, 0)) := set_lies 0 a h
    have h1 : ((W.setCell ⟨B, 0, none⟩ a).setCell ⟨B, 1, none⟩ b).heap[B]? = some (.cells #[a, b, x2, x3, x4, x5, x6] 136 (0, 0)) := set_lies 1 b h0
    generalize (W.setCell ⟨B, 0, none⟩ a).setCell ⟨B, 1, none⟩ b = W1 at *
    have h2 : (W1.setCell ⟨B, 2, none⟩ c).heap[B]? = some (.cells #[a, b, c, x3, x4, x5, x6] 136 (0, 0)) := set_lies 2 c h1
    generalize W1.setCell ⟨B, 2, none⟩ c = W2 at *
    have h3 : (W2.setCell ⟨B, 3, none⟩ d).heap[B]? = some (.cells #[a, b, c, d, x4, x5, x6] 136 (0, 0)) := set_lies 3 d h2
    generalize W2.setCell ⟨B, 3, none⟩ d = W3 at *
    have h4 : (W3.setCell ⟨B, 4, none⟩ e).heap[B]? = some (.cells #[a, b, c, d, e, x5, x6] 136 (0, 0)) := set_lies 4 e h3
    generalize W3.setCell ⟨B, 4, none⟩ e = W4 at *
    have h5 : (W4.setCell ⟨B, 5, none⟩ f).heap[B]? = some (.cells #[a, b, c, d, e, f, x6] 136 (0, 0)) := set_lies 5 f h4
    exact set_lies 6 g h5
  · intro j hj hne
    rw [Below.heap_alloc _ _ _ (by rw [World.size_alloc, hz]; omega), Below.heap_alloc _ _ _ (by rw [hz]; omega), k1 _ _ _ _ hne, k1 _ _ _ _ hne, k1 _ _ _ _ hne, k1 _ _ _ _ hne, k1 _ _ _ _ hne, k1 _ _ _ _ hne, k1 _ _ _ _ hne]

theorem fin33 {R : Ending → World → Prop} (tmps : Array Value) (W : World) (B : Nat) (a b c d : ByteArray) (vp vb : Value) (k : Bool) (op : ∃ a i c, vp = .slice a i c) (ob : ∃ a i c, vb = .slice a i c)
    (h2 : tmps.getD 4 undef = .pointer (some ⟨B, 0, none⟩)) (e1 : W.heap[B]? = some (.cells #[.string a, .string b, .string c, .string d, vp, vb, .bool k] 136 (0, 0)))
    (hR : R (.returned (.agg #[.string a, .string b, .string c, .string d, vp, vb, .bool k])) W) :
    bodyPost Tryz.prog Tryz.f110 R .ret { tmps := tmps, defers := [] } W := by
  obtain ⟨a1, i1, c1, rfl⟩ := op
  obtain ⟨a2, i2, c2, rfl⟩ := ob
  have r0 := cell_at 0 e1 rfl
  have r1 := cell_at 1 e1 rfl
  have r2 := cell_at 2 e1 rfl
  have r3 := cell_at 3 e1 rfl
  have r4 := cell_at 4 e1 rfl
  have r5 := cell_at 5 e1 rfl
  have r6 := cell_at 6 e1 rfl
  rw [Array.getD_eq_getD_getElem?] at h2
  refine ⟨rfl, _, ?_, hR⟩
  simp [results, Tryz.results110, go_sem, h2, r0, r1, r2, r3, r4, r5, r6]
  try rfl

theorem txt_kept {W W' : World} {v : Value} {ts : List (List UInt8)} {B : Nat} (h : Txt W v ts) (hk : ∀ j, j < W.heap.size → j ≠ B → W'.heap[j]? = W.heap[j]?) (hs : W.heap.size ≤ W'.heap.size) (hB : ∀ a n cap, v = .slice (some a) n cap → ts ≠ [] → a.block ≠ B) : Txt W' v ts := by
  obtain ⟨a, cap, hv, h0 | ⟨b, off, ha, hlt, hc⟩⟩ := h
  · exact ⟨a, cap, hv, .inl h0⟩
  · by_cases hn : ts = []
    · exact ⟨a, cap, hv, .inl hn⟩
    · have hne := hB _ _ _ (by rw [hv, ha]) hn
      exact ⟨a, cap, hv, .inr ⟨b, off, ha, Nat.lt_of_lt_of_le hlt hs, fun i hi => by rw [← hc i hi]; simp only [World.cell?]; rw [hk b hlt hne]⟩⟩

set_option maxRecDepth 100000 in
set_option maxHeartbeats 1000000 in
theorem read_any (PA : ∀ (s : ByteArray) (w : World), s.size ≤ 64 → Calls Tryz.prog 39 #[.string s] w (PPost s w)) (s : ByteArray) (w : World) :
    Calls Tryz.prog 110 #[.string s, .func (.func 39) #[] #[]] w fun e w' => Below w.heap.size w w' ∧ ∃ v, e = .returned v ∧ EntAt w' v s.data.toList := by
  cases hp : parseR s.data.toList with
  | error x =>
    have HX := hide (parse_err hp)
    have hxb : (x.1 == 0) = false := by simpa using HX.out
    go_enter Tryz.func110, Tryz.ntmps110
    go_wp2_with fail
    refine (Parse_sem PA s _).mono ?_
    rintro e w1 ⟨b1, h1⟩
    unfold PRes at h1
    rw [hp] at h1
    subst h1
    unfold semZ
    have eR := (b1.block w.heap.size (by simp)).trans (World.alloc_heap_new w _)
    have bw := (((Below.refl _ w).alloc (Nat.le_refl _) _)).trans (b1.mono (by simp))
    have hlt : w.heap.size < w1.heap.size := (Array.getElem?_eq_some_iff.1 eR).1
    have hlt1 : w.heap.size < w1.heap.size + 1 := by omega
    have hlt2 : w.heap.size < w1.heap.size + 1 + 1 := by omega
    have r0 := cell_at 0 eR rfl
    have r1 := cell_at 1 eR rfl
    have r2 := cell_at 2 eR rfl
    have r3 := cell_at 3 eR rfl
    have r4 := cell_at 4 eR rfl
    have r5 := cell_at 5 eR rfl
    have r6 := cell_at 6 eR rfl
    have z0 := one_free 0 eR
    have z1 := one_free 1 eR
    have z2 := one_free 2 eR
    have z3 := one_free 3 eR
    have z4 := one_free 4 eR
    have z5 := one_free 5 eR
    have z6 := one_free 6 eR
    clear b1
    go_wp2_with fail
    obtain ⟨W9, hW9, g1, hbl, hk, hs9⟩ := seven_world (.string s) (.string ⟨#[]⟩) (.string ⟨#[]⟩) (.string ⟨#[]⟩) (.slice none 0 0) (.slice none 0 0) (.bool false) (.cells #[.string ⟨#[]⟩, .string ⟨#[]⟩, .string ⟨#[]⟩, .slice none 0 0, .slice none 0 0] 33) (.cells #[.int .i64 x.1, .int .i64 (x.2 : Int)] 25) eR
    rw [← hW9]
    refine fin33 _ W9 w.heap.size _ _ _ _ _ _ _ ⟨_, _, _, rfl⟩ ⟨_, _, _, rfl⟩ rfl g1 ?_
    refine ⟨bw.trans (hbl _ (Nat.le_refl _)), _, rfl, ?_⟩
    unfold EntAt
    rw [hp, ofL_self]
  | ok c =>
    go_enter Tryz.func110, Tryz.ntmps110
    go_wp2_with fail
    refine (Parse_sem PA s _).mono ?_
    rintro e w1 ⟨b1, h1⟩
    unfold PRes at h1
    rw [hp] at h1
    obtain ⟨vp, vb, rfl, t1, t2, fr1, fr2⟩ := h1
    simp only [World.size_alloc] at fr1 fr2
    obtain ⟨a1, c1, rfl, q1⟩ := id t1
    obtain ⟨a2, c2, rfl, q2⟩ := id t2
    have eR := (b1.block w.heap.size (by simp)).trans (World.alloc_heap_new w _)
    have bw := (((Below.refl _ w).alloc (Nat.le_refl _) _)).trans (b1.mono (by simp))
    have hlt : w.heap.size < w1.heap.size := (Array.getElem?_eq_some_iff.1 eR).1
    have hlt1 : w.heap.size < w1.heap.size + 1 := by omega
    have hlt2 : w.heap.size < w1.heap.size + 1 + 1 := by omega
    have T1 : Hid (∀ (W' : World), (∀ j, j < w1.heap.size → j ≠ w.heap.size → W'.heap[j]? = w1.heap[j]?) → w1.heap.size ≤ W'.heap.size → Txt W' _ (semOf s.data.toList c).pre) := fun W' hk hs => txt_kept (B := w.heap.size) t1 hk hs (fun a n cap hv hn => by have := fr1 _ _ _ hv; omega)
    have T2 : Hid (∀ (W' : World), (∀ j, j < w1.heap.size → j ≠ w.heap.size → W'.heap[j]? = w1.heap[j]?) → w1.heap.size ≤ W'.heap.size → Txt W' _ (semOf s.data.toList c).bld) := fun W' hk hs => txt_kept (B := w.heap.size) t2 hk hs (fun a n cap hv hn => by have := fr2 _ _ _ hv; omega)
    have r0 := cell_at 0 eR rfl
    have r1 := cell_at 1 eR rfl
    have r2 := cell_at 2 eR rfl
    have r3 := cell_at 3 eR rfl
    have r4 := cell_at 4 eR rfl
    have r5 := cell_at 5 eR rfl
    have r6 := cell_at 6 eR rfl
    have z0 := one_free 0 eR
    have z1 := one_free 1 eR
    have z2 := one_free 2 eR
    have z3 := one_free 3 eR
    have z4 := one_free 4 eR
    have z5 := one_free 5 eR
    have z6 := one_free 6 eR
    clear b1 t1 t2 q1 q2 fr1 fr2
    go_wp2_with fail
    obtain ⟨W9, hW9, g1, hbl, hk, hs9⟩ := seven_world (.string s) (.string (ofL (semOf s.data.toList c).maj)) (.string (ofL (semOf s.data.toList c).min)) (.string (ofL (semOf s.data.toList c).pat)) (.slice a1 (semOf s.data.toList c).pre.length c1) (.slice a2 (semOf s.data.toList c).bld.length c2) (.bool true) (.cells #[.string (ofL (semOf s.data.toList c).maj), .string (ofL (semOf s.data.toList c).min), .string (ofL (semOf s.data.toList c).pat), .slice a1 (semOf s.data.toList c).pre.length c1, .slice a2 (semOf s.data.toList c).bld.length c2] 33) (.cells #[.int .i64 0, .int .i64 0] 25) eR
    rw [← hW9]
    refine fin33 _ W9 w.heap.size _ _ _ _ _ _ _ ⟨_, _, _, rfl⟩ ⟨_, _, _, rfl⟩ rfl g1 ?_
    refine ⟨bw.trans (hbl _ (Nat.le_refl _)), _, rfl, ?_⟩
    unfold EntAt
    rw [hp]
    exact ⟨_, _, by rw [ofL_self], T1.out _ hk hs9, T2.out _ hk hs9⟩

set_option maxRecDepth 100000 in
set_option maxHeartbeats 1000000 in
theorem compare_any (va vb : Value) (a b : List UInt8) (w : World) (ha : EntAt w va a) (hb : EntAt w vb b) :
    Calls Tryz.prog 109 #[va, vb, .func (.func 71) #[] #[], .func (.func 111) #[] #[]] w fun e w' => e = .returned (.int .i64 (cmpT a b)) ∧ Below w.heap.size w w' := by
  unfold EntAt at ha hb
  cases hp : parseR a with
  | error x =>
    rw [hp] at ha
    cases hq : parseR b with
    | error y =>
      rw [hq] at hb
      subst ha hb
      have HC : Hid (cmpT a b = Lib.compareBytes a b) := by show _ = _; unfold cmpT; rw [hp, hq]
      have S := StrCompare_any (ofL a) (ofL b)
      rw [ofL_data, ofL_data] at S
      have HS := hide S
      clear S hp hq
      go_enter Tryz.func109, Tryz.ntmps109
      go_wp2_with fail
      refine (HS.out _).mono ?_
      rintro e w' ⟨rfl, rfl⟩
      go_wp2_with fail
      go_ret
      exact ⟨ret_i HC.out.symm, ((Below.refl _ w).alloc (Nat.le_refl _) _).alloc (by simp) _⟩
    | ok y =>
      rw [hq] at hb
      obtain ⟨vp, vb, rfl, t1, t2⟩ := hb
      obtain ⟨a1, c1, rfl, _⟩ := t1
      obtain ⟨a2, c2, rfl, _⟩ := t2
      subst ha
      have HC : Hid (cmpT a b = -1) := by show _ = _; unfold cmpT; rw [hp, hq]
      clear hp hq
      go_enter Tryz.func109, Tryz.ntmps109
      go_wp2_with fail
      go_ret
      exact ⟨ret_i HC.out.symm, ((Below.refl _ w).alloc (Nat.le_refl _) _).alloc (by simp) _⟩
  | ok x =>
    rw [hp] at ha
    obtain ⟨vp, vb', rfl, t1, t2⟩ := ha
    obtain ⟨a1, c1, rfl, _⟩ := id t1
    obtain ⟨a2, c2, rfl, _⟩ := id t2
    cases hq : parseR b with
    | error y =>
      rw [hq] at hb
      subst hb
      have HC : Hid (cmpT a b = 1) := by show _ = _; unfold cmpT; rw [hp, hq]
      clear hp hq t1 t2
      go_enter Tryz.func109, Tryz.ntmps109
      go_wp2_with fail
      go_ret
      exact ⟨ret_i HC.out.symm, ((Below.refl _ w).alloc (Nat.le_refl _) _).alloc (by simp) _⟩
    | ok y =>
      rw [hq] at hb
      obtain ⟨wp, wb, rfl, u1, u2⟩ := hb
      obtain ⟨a3, c3, rfl, _⟩ := id u1
      obtain ⟨a4, c4, rfl, _⟩ := id u2
      have HC : Hid (cmpT a b = ordO (semOf a x) (semOf b y)) := by show _ = _; unfold cmpT; rw [hp, hq]
      have HO := hide (fun W (hW : Below w.heap.size w W) => order_any _ _ (semOf a x) (semOf b y) W (SemAt.below ⟨_, _, rfl, t1, t2⟩ hW) (SemAt.below ⟨_, _, rfl, u1, u2⟩ hW) (parse_short hp) (parse_short hq))
      clear hp hq t1 t2 u1 u2
      go_enter Tryz.func109, Tryz.ntmps109
      go_wp2_with fail
      refine (HO.out _ (((Below.refl _ w).alloc (Nat.le_refl _) _).alloc (by simp) _)).mono ?_
      rintro e w' ⟨rfl, b1⟩
      go_wp2_with fail
      go_ret
      exact ⟨ret_i HC.out.symm, (((Below.refl _ w).alloc (Nat.le_refl _) _).alloc (by simp) _).trans (b1.mono (by simp; omega))⟩

set_option maxRecDepth 100000 in
set_option maxHeartbeats 1000000 in
theorem TextsCompare_any (PA : ∀ (s : ByteArray) (w : World), s.size ≤ 64 → Calls Tryz.prog 39 #[.string s] w (PPost s w)) (s t : ByteArray) (w : World) :
    Calls Tryz.prog 75 #[.string s, .string t, .func (.func 39) #[] #[], .func (.func 71) #[] #[]] w fun e w' => e = .returned (.int .i64 (cmpT s.data.toList t.data.toList)) ∧ Below w.heap.size w w' := by
  go_enter Tryz.func75, Tryz.ntmps75
  go_wp2_with fail
  refine (read_any PA _ _).mono ?_
  rintro e w1 ⟨b1, v1, rfl, h1⟩
  go_wp2_with fail
  refine (read_any PA _ _).mono ?_
  rintro e w2 ⟨b2, v2, rfl, h2⟩
  have C := hide (compare_any v1 v2 _ _ w2 (h1.below b2) h2)
  clear h1 h2
  go_wp2_with fail
  refine C.out.mono ?_
  rintro e w3 ⟨rfl, b3⟩
  go_wp2_with fail
  go_ret
  exact ⟨rfl, b1.trans ((b2.mono b1.size).trans (b3.mono (Nat.le_trans b1.size b2.size)))⟩

set_option maxHeartbeats 400000 in
theorem CompareT_any (PA : ∀ (s : ByteArray) (w : World), s.size ≤ 64 → Calls Tryz.prog 39 #[.string s] w (PPost s w)) (s t : ByteArray) (w : World) :
    Calls Tryz.prog 42 #[.string s, .string t] w fun e w' => e = .returned (.int .i64 (cmpT s.data.toList t.data.toList)) ∧ Below w.heap.size w w' := by
  go_enter Tryz.func42, Tryz.ntmps42
  go_wp2_with fail
  refine (TextsCompare_any PA _ _ _).mono ?_
  rintro e w1 ⟨rfl, b1⟩
  go_wp2_with fail
  go_ret
  exact ⟨rfl, b1⟩

end Go.Proofs.YtaflflelcdcanaaGreat

namespace Go.Proofs.YtaflflelcdcanaaGreat
open Go.RowKit Go.Shelf
set_option linter.unusedVariables false

/-- What stands ahead of the first "+". -/
def cutP (l : List UInt8) : List UInt8 := l.takeWhile (fun c => c != 43)
theorem cutP_none : ∀ l : List UInt8, Lib.indexByte l 43 = -1 → cutP l = l
  | [], _ => rfl
  | c :: r, h => by
    unfold Lib.indexByte at h
    by_cases hc : (c == 43) = true
    · rw [if_pos hc] at h; cases h
    · rw [if_neg hc] at h
      by_cases hi : (Lib.indexByte r 43 == -1) = true
      · have := cutP_none r (by simpa using hi)
        unfold cutP at *
        rw [List.takeWhile_cons, if_pos (by simpa [bne] using hc), this]
      · rw [if_neg hi] at h
        have := Lib.indexByte_ge r 43
        have hi' : ¬ Lib.indexByte r 43 = -1 := by simpa using hi
        omega
theorem cutP_some : ∀ (l : List UInt8) (i : Nat), Lib.indexByte l 43 = i → cutP l = l.take i ∧ i < l.length
  | [], i, h => by have h' : (-1 : Int) = i := h; omega
  | c :: r, i, h => by
    unfold Lib.indexByte at h
    by_cases hc : (c == 43) = true
    · rw [if_pos hc] at h
      have : i = 0 := by omega
      subst this
      refine ⟨?_, by simp⟩
      unfold cutP
      rw [List.takeWhile_cons, if_neg (by simpa [bne] using hc)]
      rfl
    · rw [if_neg hc] at h
      by_cases hi : (Lib.indexByte r 43 == -1) = true
      · rw [if_pos hi] at h; omega
      · rw [if_neg hi] at h
        have hi' : ¬ Lib.indexByte r 43 = -1 := by simpa using hi
        have hge := Lib.indexByte_ge r 43
        obtain ⟨j, hj⟩ := Int.eq_ofNat_of_zero_le (show 0 ≤ Lib.indexByte r 43 by omega)
        obtain ⟨h1, h2⟩ := cutP_some r j hj
        have : i = j + 1 := by omega
        subst this
        refine ⟨?_, by simp; omega⟩
        unfold cutP at *
        rw [List.takeWhile_cons, if_pos (by simpa [bne] using hc), h1]
        rfl

set_option maxRecDepth 100000 in
set_option maxHeartbeats 400000 in
theorem IndexByte_any (s : ByteArray) (c : Int) (w : World) :
    Calls Tryz.prog 166 #[.string s, .int .u8 c] w fun e w' => e = .returned (.int .i64 (Lib.indexByte s.data.toList c.toNat.toUInt8)) ∧ w' = w := by
  go_enter Tryz.func166, Tryz.ntmps166
  go_wp2
  rw [run_callFunc_extern Tryz.func170 (by kernel_rfl) (by kernel_rfl) (by kernel_rfl) (e := Extern.BytealgIndexByte.indexByte) (by kernel_rfl), Lib.run_indexByteString]
  simp only [Result.andThen]
  rw [Oper.upon_value]
  go_wp2
  go_ret
  exact ⟨rfl, rfl⟩

/-- A version's text without its build; none of what is none. -/
def canonL (l : List UInt8) : List UInt8 := match parseR l with | .error _ => [] | .ok _ => cutP l

/-- The chapter's row of versions. -/
def exs : List (List UInt8) := [[49, 46, 48, 46, 48, 45, 97, 108, 112, 104, 97], [49, 46, 48, 46, 48, 45, 97, 108, 112, 104, 97, 46, 49], [49, 46, 48, 46, 48, 45, 97, 108, 112, 104, 97, 46, 98, 101, 116, 97], [49, 46, 48, 46, 48, 45, 98, 101, 116, 97], [49, 46, 48, 46, 48, 45, 98, 101, 116, 97, 46, 50], [49, 46, 48, 46, 48, 45, 98, 101, 116, 97, 46, 49, 49], [49, 46, 48, 46, 48, 45, 114, 99, 46, 49], [49, 46, 48, 46, 48]]
theorem exl0 : cmpT (exs.getD 0 []) (exs.getD 1 []) = -1 := by kernel_rfl
theorem exl1 : cmpT (exs.getD 1 []) (exs.getD 2 []) = -1 := by kernel_rfl
theorem exl2 : cmpT (exs.getD 2 []) (exs.getD 3 []) = -1 := by kernel_rfl
theorem exl3 : cmpT (exs.getD 3 []) (exs.getD 4 []) = -1 := by kernel_rfl
theorem exl4 : cmpT (exs.getD 4 []) (exs.getD 5 []) = -1 := by kernel_rfl
theorem exl5 : cmpT (exs.getD 5 []) (exs.getD 6 []) = -1 := by kernel_rfl
theorem exl6 : cmpT (exs.getD 6 []) (exs.getD 7 []) = -1 := by kernel_rfl
theorem exs_less : ∀ k, k < 7 → cmpT (exs.getD k []) (exs.getD (k + 1) []) = -1 := by
  intro k hk
  match k, hk with
  | 0, _ => exact exl0
  | 1, _ => exact exl1
  | 2, _ => exact exl2
  | 3, _ => exact exl3
  | 4, _ => exact exl4
  | 5, _ => exact exl5
  | 6, _ => exact exl6
theorem ex1 : parseR [48, 49, 46, 50, 46, 51] = .error (14, 1) := by kernel_rfl
theorem ex2 : parseR [49, 46, 50, 46, 51, 45, 48, 49, 46, 120] = .error (14, 8) := by kernel_rfl
theorem ex3 : parseR [49, 46, 50] = .error (11, 3) := by kernel_rfl
theorem ex4 : canonL [49, 46, 50, 46, 51, 43, 120] = [49, 46, 50, 46, 51] := by kernel_rfl

end Go.Proofs.YtaflflelcdcanaaGreat
