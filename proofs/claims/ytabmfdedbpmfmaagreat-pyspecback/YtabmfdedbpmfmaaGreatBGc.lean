/-
  Walks: texts read and compared. · Plain: specifiers, clause by clause.
-/
import Derived.Test.YtabmfdedbpmfmaaGreatBPq
import Derived.Test.YtabmfdedbpmfmaaGreatBGd
namespace Go.Proofs.YtabmfdedbpmfmaaGreat
open Go.RowKit Go.Shelf
set_option linter.unusedVariables false

theorem txt_vals {W : World} {base : Nat} {v : Value} {u : List UInt8} {xs : List (Nat × Nat)} (h : W.ownsRow base 9 1 v (vals u xs).length (vals u xs)) : Txt W v (rowL u xs) := by
  rw [vals_len] at h
  rcases h.2 with ⟨rfl, h0⟩ | ⟨g, cap, cur, rfl, hg, hh, r1, r2, r3, r4⟩
  · refine ⟨none, 0, by simp [rowL, h0], .inl ?_⟩
    rw [List.length_eq_zero_iff.1 h0]; rfl
  · refine ⟨some ⟨g, 0, none⟩, cap, by simp [rowL], .inr ⟨g, 0, rfl, (Array.getElem?_eq_some_iff.1 hh).1, fun i hi => ?_⟩⟩
    have hi' : i < xs.length := by simpa [rowL] using hi
    have hc : cur[i]? = some (.string (ofL (plainL (seg u xs[i].1 xs[i].2)))) := by
      have e1 : (cur.toList.take (xs.length * 1))[i]? = (vals u xs)[i]? := by rw [r4]
      rw [List.getElem?_take, if_pos (by omega)] at e1
      rw [← Array.getElem?_toList, e1, vals]
      simp [hi']
    rw [Nat.zero_add, cell_at i hh hc]
    simp [rowL]
theorem plain_len (t : List UInt8) : (plainL t).length ≤ t.length + 1 := by
  unfold plainL
  split
  · exact trimL_le t
  · omega
theorem seg_le (l : List UInt8) (a e : Nat) : (seg l a e).length ≤ l.length := by
  unfold seg
  rw [List.length_drop, List.length_take]
  omega
theorem digT_le (l : List UInt8) (a : Nat) : (trimL (digT l a)).length ≤ l.length + 1 := Nat.le_trans (trimL_le _) (Nat.succ_le_succ (seg_le l _ _))
theorem stN_le (l : List UInt8) (a : Nat) (ws : List (List UInt8)) : (stN l a ws).length ≤ l.length + 1 := by
  unfold stN
  split
  · simp
  · exact digT_le l _
theorem posN_le (l : List UInt8) (a : Nat) : (posN l a).length ≤ l.length + 1 := by
  unfold posN
  split
  · exact digT_le l _
  · exact stN_le l _ _
theorem epoT_le (l : List UInt8) (a : Nat) : (epoT l a).length ≤ l.length + 1 := by
  unfold epoT
  split
  · have h1 := trimL_le (cutB (l.drop a))
    have h2 : (cutB (l.drop a)).length ≤ (l.drop a).length := by unfold cutB; exact (List.takeWhile_sublist _).length_le
    rw [List.length_drop] at h2
    omega
  · simp
theorem row_short (u : List UInt8) (hu : u.length ≤ 64) (xs : List (Nat × Nat)) (hx : xs.length ≤ 65) : (rowL u xs).length ≤ 65 ∧ ∀ t ∈ rowL u xs, t.length ≤ 65 := by
  refine ⟨by simp [rowL]; exact hx, fun t ht => ?_⟩
  obtain ⟨x, _, rfl⟩ := List.mem_map.1 ht
  have := plain_len (seg u x.1 x.2)
  have := seg_le u x.1 x.2
  omega
theorem short65 {ts : List (List UInt8)} (h : ts.length ≤ 1048576 ∧ ∀ t ∈ ts, t.length ≤ 1048576) : Short ts := ⟨by omega, fun t ht => by have := h.2 t ht; omega⟩
theorem lenI_65 {ts : List (List UInt8)} (h : ts.length ≤ 65 ∧ ∀ t ∈ ts, t.length ≤ 65) : lenI ts ≤ 5000 := by
  have : ∀ us : List (List UInt8), (∀ t ∈ us, t.length ≤ 65) → lenI us ≤ 66 * us.length := by
    intro us
    induction us with
    | nil => intro _; simp [lenI]
    | cons t r ih =>
      intro hh
      have h1 := hh t List.mem_cons_self
      have h2 := ih (fun u hu => hh u (List.mem_cons_of_mem _ hu))
      simp only [lenI, List.length_cons]
      omega
  have := this ts h.2
  omega
theorem wide65 {ts : List (List UInt8)} (h : ts.length ≤ 65 ∧ ∀ t ∈ ts, t.length ≤ 65) : ts.length ≤ 1048576 ∧ ∀ t ∈ ts, t.length ≤ 1048576 := ⟨by omega, fun t ht => by have := h.2 t ht; omega⟩
structure SmallP (x : PepL) : Prop where
  e : x.ep.length ≤ 1048576
  n : x.n.length ≤ 1048576
  m : x.m.length ≤ 1048576
  k : x.k.length ≤ 1048576
  r : x.rel.length ≤ 1048576 ∧ ∀ t ∈ x.rel, t.length ≤ 1048576
  l : x.loc.length ≤ 1048576 ∧ ∀ t ∈ x.loc, t.length ≤ 1048576
  rI : lenI x.rel ≤ 1048576
  lI : lenI x.loc ≤ 1048576
theorem SmallP.short {x : PepL} (h : SmallP x) : ShortP x := ⟨by have := h.e; omega, by have := h.n; omega, by have := h.m; omega, by have := h.k; omega, short65 h.r, short65 h.l⟩
theorem pep_small (u : List UInt8) (hu : u.length ≤ 64) : SmallP (pepOf u) := by
  have h1 := epoT_le u (vp1 u)
  have h2 := stN_le u (vp3 u) preWs
  have h3 := posN_le u (vp4 u)
  have h4 := stN_le u (vp5 u) devWs
  have r1 := runs_len u 1 [46] _ (vp2 u) rfl
  have r2 := runs_len u 5 [45, 95, 46] _ (vp7 u) rfl
  have R := row_short u hu (vrel u) (by unfold vrel; omega)
  have L := row_short u hu (vlocs u) (by
    unfold vlocs
    split
    · unfold vloc
      omega
    · simp)
  refine ⟨?_, ?_, ?_, ?_, wide65 R, wide65 L, ?_, ?_⟩
  · show (epoT u (vp1 u)).length ≤ 1048576; omega
  · show (stN u (vp3 u) preWs).length ≤ 1048576; omega
  · show (posN u (vp4 u)).length ≤ 1048576; omega
  · show (stN u (vp5 u) devWs).length ≤ 1048576; omega
  · have := lenI_65 R
    show lenI (rowL u (vrel u)) ≤ 1048576
    omega
  · have := lenI_65 L
    show lenI (rowL u (vlocs u)) ≤ 1048576
    omega
def errX (l : List UInt8) : Int × Nat := if 64 < l.length then (12, 64) else verX (lowL l)

theorem Parse_new (s : ByteArray) (w : World) (h : okP s.data.toList = true) :
    Calls Tryz.prog 67 #[.string s] w fun e w' => ∃ vr vl, e = .returned (.tuple #[pepV (ofL (pepOf (lowL s.data.toList)).ep) vr (pepOf (lowL s.data.toList)).c (ofL (pepOf (lowL s.data.toList)).n) (pepOf (lowL s.data.toList)).b (ofL (pepOf (lowL s.data.toList)).m) (pepOf (lowL s.data.toList)).d (ofL (pepOf (lowL s.data.toList)).k) vl, .agg #[.int .i64 0, .int .i64 0]]) ∧
      Txt w' vr (pepOf (lowL s.data.toList)).rel ∧ Txt w' vl (pepOf (lowL s.data.toList)).loc ∧ Fresh w.heap.size vr ∧ Fresh w.heap.size vl ∧ Below w.heap.size w w' := by
  unfold okP at h
  simp only [Bool.and_eq_true, decide_eq_true_eq] at h
  have hl := h.1
  rw [len_data] at hl
  refine (Parse_any s w (by unfold maxLen; omega)).mono ?_
  rintro e w' ⟨hb, hp⟩
  rw [if_neg (by omega), if_pos h.2] at hp
  obtain ⟨v, rfl, ⟨vr, vl, rfl, h1, h2⟩⟩ := hp
  exact ⟨vr, vl, rfl, txt_vals h1, txt_vals h2, fresh_row h1, fresh_row h2, hb⟩
theorem Parse_no (s : ByteArray) (w : World) (hs : s.size ≤ 140737488351232) (h : okP s.data.toList = false) :
    Calls Tryz.prog 67 #[.string s] w fun e w' => e = .returned (.tuple #[.agg pepZ, .agg #[.int .i64 (errX s.data.toList).1, .int .i64 ((errX s.data.toList).2 : Int)]]) ∧ Below w.heap.size w w' := by
  refine (Parse_any s w (by unfold maxLen; omega)).mono ?_
  rintro e w' ⟨hb, hp⟩
  unfold okP at h
  unfold errX
  by_cases hl : 64 < s.data.toList.length
  · rw [if_pos hl] at hp ⊢
    exact ⟨hp, hb⟩
  · rw [if_neg hl] at hp ⊢
    have hx : ¬ (verX (lowL s.data.toList)).1 = 0 := fun he => by
      rw [decide_eq_true (show s.data.toList.length ≤ 64 by omega), decide_eq_true he] at h
      cases h
    rw [if_neg hx] at hp
    exact ⟨hp, hb⟩
theorem errX_ne (l : List UInt8) (h : okP l = false) : ((errX l).1 == 0) = false := by
  unfold okP at h
  unfold errX
  by_cases hl : 64 < l.length
  · rw [if_pos hl]; rfl
  · rw [if_neg hl]
    have hx : ¬ (verX (lowL l)).1 = 0 := fun he => by
      rw [decide_eq_true (show l.length ≤ 64 by omega), decide_eq_true he] at h
      cases h
    simpa using hx
theorem eleven_world {W : World} {B : Nat} {z0 z1 z2 z3 z4 z5 z6 z7 z8 z9 z10 : Value} (a b c d e f g h i j k : Value) (o1 o2 : Obj) (hh : W.heap[B]? = some (.cells #[z0, z1, z2, z3, z4, z5, z6, z7, z8, z9, z10] 129 (0, 0))) :
    ∃ W', W' = ((((((((((((W.setCell ⟨B, 0, none⟩ a).setCell ⟨B, 1, none⟩ b).setCell ⟨B, 2, none⟩ c).setCell ⟨B, 3, none⟩ d).setCell ⟨B, 4, none⟩ e).setCell ⟨B, 5, none⟩ f).setCell ⟨B, 6, none⟩ g).setCell ⟨B, 7, none⟩ h).setCell ⟨B, 8, none⟩ i).setCell ⟨B, 9, none⟩ j).setCell ⟨B, 10, none⟩ k).alloc o1).alloc o2 ∧ W'.heap[B]? = some (.cells #[a, b, c, d, e, f, g, h, i, j, k] 129 (0, 0)) ∧ (∀ n₀, n₀ ≤ B → Below n₀ W W') ∧ (∀ j, j < W.heap.size → j ≠ B → W'.heap[j]? = W.heap[j]?) ∧ W.heap.size ≤ W'.heap.size := by
  have k0 : (W.setCell ⟨B, 0, none⟩ a).heap[B]? = some (.cells #[a, z1, z2, z3, z4, z5, z6, z7, z8, z9, z10] 129 (0, 0)) := set_lies 0 a hh
  have t0 : Turn B W (W.setCell ⟨B, 0, none⟩ a) := Turn.set B _ _ _
  obtain ⟨W0, hW0⟩ : ∃ W0, W0 = W.setCell ⟨B, 0, none⟩ a := ⟨_, rfl⟩
  rw [← hW0] at k0 t0
  have k1 : (W0.setCell ⟨B, 1, none⟩ b).heap[B]? = some (.cells #[a, b, z2, z3, z4, z5, z6, z7, z8, z9, z10] 129 (0, 0)) := set_lies 1 b k0
  have t1 : Turn B W (W0.setCell ⟨B, 1, none⟩ b) := t0.trans (Turn.set B _ _ _)
  obtain ⟨W1, hW1⟩ : ∃ W1, W1 = W0.setCell ⟨B, 1, none⟩ b := ⟨_, rfl⟩
  rw [← hW1] at k1 t1
  have k2 : (W1.setCell ⟨B, 2, none⟩ c).heap[B]? = some (.cells #[a, b, c, z3, z4, z5, z6, z7, z8, z9, z10] 129 (0, 0)) := set_lies 2 c k1
  have t2 : Turn B W (W1.setCell ⟨B, 2, none⟩ c) := t1.trans (Turn.set B _ _ _)
  obtain ⟨W2, hW2⟩ : ∃ W2, W2 = W1.setCell ⟨B, 2, none⟩ c := ⟨_, rfl⟩
  rw [← hW2] at k2 t2
  have k3 : (W2.setCell ⟨B, 3, none⟩ d).heap[B]? = some (.cells #[a, b, c, d, z4, z5, z6, z7, z8, z9, z10] 129 (0, 0)) := set_lies 3 d k2
  have t3 : Turn B W (W2.setCell ⟨B, 3, none⟩ d) := t2.trans (Turn.set B _ _ _)
  obtain ⟨W3, hW3⟩ : ∃ W3, W3 = W2.setCell ⟨B, 3, none⟩ d := ⟨_, rfl⟩
  rw [← hW3] at k3 t3
  have k4 : (W3.setCell ⟨B, 4, none⟩ e).heap[B]? = some (.cells #[a, b, c, d, e, z5, z6, z7, z8, z9, z10] 129 (0, 0)) := set_lies 4 e k3
  have t4 : Turn B W (W3.setCell ⟨B, 4, none⟩ e) := t3.trans (Turn.set B _ _ _)
  obtain ⟨W4, hW4⟩ : ∃ W4, W4 = W3.setCell ⟨B, 4, none⟩ e := ⟨_, rfl⟩
  rw [← hW4] at k4 t4
  have k5 : (W4.setCell ⟨B, 5, none⟩ f).heap[B]? = some (.cells #[a, b, c, d, e, f, z6, z7, z8, z9, z10] 129 (0, 0)) := set_lies 5 f k4
  have t5 : Turn B W (W4.setCell ⟨B, 5, none⟩ f) := t4.trans (Turn.set B _ _ _)
  obtain ⟨W5, hW5⟩ : ∃ W5, W5 = W4.setCell ⟨B, 5, none⟩ f := ⟨_, rfl⟩
  rw [← hW5] at k5 t5
  have k6 : (W5.setCell ⟨B, 6, none⟩ g).heap[B]? = some (.cells #[a, b, c, d, e, f, g, z7, z8, z9, z10] 129 (0, 0)) := set_lies 6 g k5
  have t6 : Turn B W (W5.setCell ⟨B, 6, none⟩ g) := t5.trans (Turn.set B _ _ _)
  obtain ⟨W6, hW6⟩ : ∃ W6, W6 = W5.setCell ⟨B, 6, none⟩ g := ⟨_, rfl⟩
  rw [← hW6] at k6 t6
  have k7 : (W6.setCell ⟨B, 7, none⟩ h).heap[B]? = some (.cells #[a, b, c, d, e, f, g, h, z8, z9, z10] 129 (0, 0)) := set_lies 7 h k6
  have t7 : Turn B W (W6.setCell ⟨B, 7, none⟩ h) := t6.trans (Turn.set B _ _ _)
  obtain ⟨W7, hW7⟩ : ∃ W7, W7 = W6.setCell ⟨B, 7, none⟩ h := ⟨_, rfl⟩
  rw [← hW7] at k7 t7
  have k8 : (W7.setCell ⟨B, 8, none⟩ i).heap[B]? = some (.cells #[a, b, c, d, e, f, g, h, i, z9, z10] 129 (0, 0)) := set_lies 8 i k7
  have t8 : Turn B W (W7.setCell ⟨B, 8, none⟩ i) := t7.trans (Turn.set B _ _ _)
  obtain ⟨W8, hW8⟩ : ∃ W8, W8 = W7.setCell ⟨B, 8, none⟩ i := ⟨_, rfl⟩
  rw [← hW8] at k8 t8
  have k9 : (W8.setCell ⟨B, 9, none⟩ j).heap[B]? = some (.cells #[a, b, c, d, e, f, g, h, i, j, z10] 129 (0, 0)) := set_lies 9 j k8
  have t9 : Turn B W (W8.setCell ⟨B, 9, none⟩ j) := t8.trans (Turn.set B _ _ _)
  obtain ⟨W9, hW9⟩ : ∃ W9, W9 = W8.setCell ⟨B, 9, none⟩ j := ⟨_, rfl⟩
  rw [← hW9] at k9 t9
  have k10 : (W9.setCell ⟨B, 10, none⟩ k).heap[B]? = some (.cells #[a, b, c, d, e, f, g, h, i, j, k] 129 (0, 0)) := set_lies 10 k k9
  have t10 : Turn B W (W9.setCell ⟨B, 10, none⟩ k) := t9.trans (Turn.set B _ _ _)
  obtain ⟨W10, hW10⟩ : ∃ W10, W10 = W9.setCell ⟨B, 10, none⟩ k := ⟨_, rfl⟩
  rw [← hW10] at k10 t10
  have hlt := (Array.getElem?_eq_some_iff.1 k10).1
  refine ⟨(W10.alloc o1).alloc o2, by rw [hW10, hW9, hW8, hW7, hW6, hW5, hW4, hW3, hW2, hW1, hW0], ?_, ?_, ?_, ?_⟩
  · rw [Below.heap_alloc _ _ _ (by simp; omega), Below.heap_alloc _ _ _ hlt]; exact k10
  · intro n₀ hn
    have h1 : Below n₀ W W10 := ⟨t10.os, t10.tape, t10.output, t10.size, fun q hq => by
      by_cases hqs : q < W.heap.size
      · exact t10.block q hqs (by omega)
      · have := (Array.getElem?_eq_some_iff.1 hh).1; omega⟩
    have h2 := h1.alloc (by have := t10.size; have := (Array.getElem?_eq_some_iff.1 hh).1; omega) o1
    exact h2.alloc (by have := h2.size; have := (Array.getElem?_eq_some_iff.1 hh).1; omega) o2
  · intro q hq hne
    have := t10.size
    rw [Below.heap_alloc _ _ _ (by simp; omega), Below.heap_alloc _ _ _ (by omega)]
    exact t10.block q hq hne
  · have := t10.size; simp only [World.size_alloc]; omega

def EntP (W : World) (v : Value) (l : List UInt8) : Prop :=
  (okP l = false ∧ v = .agg #[.string (ofL l), .string ⟨#[]⟩, .slice none 0 0, .int .u8 0, .string ⟨#[]⟩, .bool false, .string ⟨#[]⟩, .bool false, .string ⟨#[]⟩, .slice none 0 0, .bool false]) ∨
  (okP l = true ∧ ∃ vr vl, v = .agg #[.string (ofL l), .string (ofL (pepOf (lowL l)).ep), vr, .int .u8 (pepOf (lowL l)).c, .string (ofL (pepOf (lowL l)).n), .bool (pepOf (lowL l)).b, .string (ofL (pepOf (lowL l)).m), .bool (pepOf (lowL l)).d, .string (ofL (pepOf (lowL l)).k), vl, .bool true] ∧ Txt W vr (pepOf (lowL l)).rel ∧ Txt W vl (pepOf (lowL l)).loc)
theorem EntP.below {W W' : World} {v : Value} {l : List UInt8} (h : EntP W v l) (hb : Below W.heap.size W W') : EntP W' v l := by
  rcases h with h | ⟨h0, vr, vl, h1, h2, h3⟩
  · exact .inl h
  · exact .inr ⟨h0, vr, vl, h1, h2.below hb, h3.below hb⟩

theorem finRd {R : Ending → World → Prop} (tmps : Array Value) (W : World) (B : Nat) (a e n m k : ByteArray) (vr vl : Value) (c : Int) (b d z : Bool) (op : ∃ a i c, vr = .slice a i c) (ob : ∃ a i c, vl = .slice a i c)
    (h2 : tmps.getD 4 undef = .pointer (some ⟨B, 0, none⟩)) (e1 : W.heap[B]? = some (.cells #[.string a, .string e, vr, .int .u8 c, .string n, .bool b, .string m, .bool d, .string k, vl, .bool z] 129 (0, 0)))
    (hR : R (.returned (.agg #[.string a, .string e, vr, .int .u8 c, .string n, .bool b, .string m, .bool d, .string k, vl, .bool z])) W) :
    bodyPost Tryz.prog Tryz.f103 R .ret { tmps := tmps, defers := [] } W := by
  obtain ⟨a1, i1, c1, rfl⟩ := op
  obtain ⟨a2, i2, c2, rfl⟩ := ob
  have r0 := cell_at 0 e1 rfl
  have r1 := cell_at 1 e1 rfl
  have r2 := cell_at 2 e1 rfl
  have r3 := cell_at 3 e1 rfl
  have r4 := cell_at 4 e1 rfl
  have r5 := cell_at 5 e1 rfl
  have r6 := cell_at 6 e1 rfl
  have r7 := cell_at 7 e1 rfl
  have r8 := cell_at 8 e1 rfl
  have r9 := cell_at 9 e1 rfl
  have r10 := cell_at 10 e1 rfl
  rw [Array.getD_eq_getD_getElem?] at h2
  refine ⟨rfl, _, ?_, hR⟩
  simp [results, Tryz.results103, go_sem, h2, r0, r1, r2, r3, r4, r5, r6, r7, r8, r9, r10]
  try rfl

set_option maxRecDepth 100000 in
set_option maxHeartbeats 2000000 in
theorem read_any (s : ByteArray) (w : World) (hs : s.size ≤ 140737488351232) :
    Calls Tryz.prog 103 #[.string s, .func (.func 67) #[] #[]] w fun e w' => Below w.heap.size w w' ∧ ∃ v, e = .returned v ∧ EntP w' v s.data.toList := by
  cases ha : okP s.data.toList
  · have P1 := fun w => Parse_no s w hs ha
    have n1 := errX_ne _ ha
    generalize (errX s.data.toList).1 = e1 at *
    generalize ((errX s.data.toList).2 : Int) = p1 at *
    unfold pepZ at P1
    have P1 := hide P1
    have HA := hide ha
    clear ha
    go_enter Tryz.func103, Tryz.ntmps103
    go_wp2_with fail
    refine (P1.out _).mono ?_
    rintro e w1 ⟨rfl, b1⟩
    have eR := (b1.block w.heap.size (by simp)).trans (World.alloc_heap_new w _)
    have bw := (((Below.refl _ w).alloc (Nat.le_refl _) _)).trans (b1.mono (by simp))
    have hlt : w.heap.size < w1.heap.size := (Array.getElem?_eq_some_iff.1 eR).1
    have hlt1 : w.heap.size < w1.heap.size + 1 := by omega
    have hlt2 : w.heap.size < w1.heap.size + 1 + 1 := by omega
    have r0 := cell_at 0 eR rfl
    have r1 := cell_at 1 eR rfl
    have r2 := cell_at 2 eR rfl
    have r3 := cell_at 3 eR rfl
    have r4 := cell_at 4 eR rfl
    have r5 := cell_at 5 eR rfl
    have r6 := cell_at 6 eR rfl
    have r7 := cell_at 7 eR rfl
    have r8 := cell_at 8 eR rfl
    have r9 := cell_at 9 eR rfl
    have r10 := cell_at 10 eR rfl
    have y0 := one_free 0 eR
    have y1 := one_free 1 eR
    have y2 := one_free 2 eR
    have y3 := one_free 3 eR
    have y4 := one_free 4 eR
    have y5 := one_free 5 eR
    have y6 := one_free 6 eR
    have y7 := one_free 7 eR
    have y8 := one_free 8 eR
    have y9 := one_free 9 eR
    have y10 := one_free 10 eR
    clear b1
    go_wp2_with fail
    obtain ⟨W9, hW9, g1, hbl, hk, hs9⟩ := eleven_world (.string s) (.string ⟨#[]⟩) (.slice none 0 0) (.int .u8 0) (.string ⟨#[]⟩) (.bool false) (.string ⟨#[]⟩) (.bool false) (.string ⟨#[]⟩) (.slice none 0 0) (.bool false) (.cells #[.string ⟨#[]⟩, .slice none 0 0, .int .u8 0, .string ⟨#[]⟩, .bool false, .string ⟨#[]⟩, .bool false, .string ⟨#[]⟩, .slice none 0 0] 44) (.cells #[.int .i64 e1, .int .i64 p1] 25) eR
    rw [← hW9]
    refine finRd _ W9 w.heap.size _ _ _ _ _ _ _ _ _ _ _ ⟨_, _, _, rfl⟩ ⟨_, _, _, rfl⟩ rfl g1 ?_
    exact ⟨bw.trans (hbl _ (Nat.le_refl _)), _, rfl, .inl ⟨HA.out, by rw [ofL_self]⟩⟩
  · have P1 := fun w => Parse_new s w ha
    have HA := hide ha
    have HX : Hid (∀ W v, (∃ vr vl, v = .agg #[.string s, .string (ofL (pepOf (lowL s.data.toList)).ep), vr, .int .u8 (pepOf (lowL s.data.toList)).c, .string (ofL (pepOf (lowL s.data.toList)).n), .bool (pepOf (lowL s.data.toList)).b, .string (ofL (pepOf (lowL s.data.toList)).m), .bool (pepOf (lowL s.data.toList)).d, .string (ofL (pepOf (lowL s.data.toList)).k), vl, .bool true] ∧ Txt W vr (pepOf (lowL s.data.toList)).rel ∧ Txt W vl (pepOf (lowL s.data.toList)).loc) → EntP W v s.data.toList) := fun W v ⟨vr, vl, h1, h2, h3⟩ => .inr ⟨HA.out, vr, vl, by rw [h1, ofL_self], h2, h3⟩
    generalize pepOf (lowL s.data.toList) = X at *
    have P1 := hide P1
    clear ha HA
    go_enter Tryz.func103, Tryz.ntmps103
    go_wp2_with fail
    refine (P1.out _).mono ?_
    rintro e w1 ⟨vr, vl, rfl, t1, t2, fr1, fr2, b1⟩
    simp only [World.size_alloc] at fr1 fr2
    obtain ⟨r1', c1, rfl, _⟩ := id t1
    obtain ⟨q1', d1, rfl, _⟩ := id t2
    try unfold pepV
    have eR := (b1.block w.heap.size (by simp)).trans (World.alloc_heap_new w _)
    have bw := (((Below.refl _ w).alloc (Nat.le_refl _) _)).trans (b1.mono (by simp))
    have hlt : w.heap.size < w1.heap.size := (Array.getElem?_eq_some_iff.1 eR).1
    have hlt1 : w.heap.size < w1.heap.size + 1 := by omega
    have hlt2 : w.heap.size < w1.heap.size + 1 + 1 := by omega
    have T1 : Hid (∀ (W' : World), (∀ j, j < w1.heap.size → j ≠ w.heap.size → W'.heap[j]? = w1.heap[j]?) → w1.heap.size ≤ W'.heap.size → Txt W' _ X.rel) := fun W' hk hs => txt_kept (B := w.heap.size) t1 hk hs (fun a n cap hv hn => by have := fr1 _ _ _ hv; omega)
    have T2 : Hid (∀ (W' : World), (∀ j, j < w1.heap.size → j ≠ w.heap.size → W'.heap[j]? = w1.heap[j]?) → w1.heap.size ≤ W'.heap.size → Txt W' _ X.loc) := fun W' hk hs => txt_kept (B := w.heap.size) t2 hk hs (fun a n cap hv hn => by have := fr2 _ _ _ hv; omega)
    have r0 := cell_at 0 eR rfl
    have r1 := cell_at 1 eR rfl
    have r2 := cell_at 2 eR rfl
    have r3 := cell_at 3 eR rfl
    have r4 := cell_at 4 eR rfl
    have r5 := cell_at 5 eR rfl
    have r6 := cell_at 6 eR rfl
    have r7 := cell_at 7 eR rfl
    have r8 := cell_at 8 eR rfl
    have r9 := cell_at 9 eR rfl
    have r10 := cell_at 10 eR rfl
    have y0 := one_free 0 eR
    have y1 := one_free 1 eR
    have y2 := one_free 2 eR
    have y3 := one_free 3 eR
    have y4 := one_free 4 eR
    have y5 := one_free 5 eR
    have y6 := one_free 6 eR
    have y7 := one_free 7 eR
    have y8 := one_free 8 eR
    have y9 := one_free 9 eR
    have y10 := one_free 10 eR
    clear b1 t1 t2 fr1 fr2
    go_wp2_with fail
    obtain ⟨W9, hW9, g1, hbl, hk, hs9⟩ := eleven_world (.string s) (.string (ofL X.ep)) (.slice r1' X.rel.length c1) (.int .u8 X.c) (.string (ofL X.n)) (.bool X.b) (.string (ofL X.m)) (.bool X.d) (.string (ofL X.k)) (.slice q1' X.loc.length d1) (.bool true) (.cells #[.string (ofL X.ep), .slice r1' X.rel.length c1, .int .u8 X.c, .string (ofL X.n), .bool X.b, .string (ofL X.m), .bool X.d, .string (ofL X.k), .slice q1' X.loc.length d1] 44) (.cells #[.int .i64 0, .int .i64 0] 25) eR
    rw [← hW9]
    refine finRd _ W9 w.heap.size _ _ _ _ _ _ _ _ _ _ _ ⟨_, _, _, rfl⟩ ⟨_, _, _, rfl⟩ rfl g1 ?_
    exact ⟨bw.trans (hbl _ (Nat.le_refl _)), _, rfl, HX.out _ _ ⟨_, _, rfl, T1.out _ hk hs9, T2.out _ hk hs9⟩⟩

set_option maxHeartbeats 400000 in
theorem alike_any (s t : ByteArray) (w : World) : Calls Tryz.prog 104 #[.string s, .string t] w fun e w' => e = .returned (.int .i64 0) ∧ w' = w := by
  go_enter Tryz.func104, Tryz.ntmps104
  go_wp2_with fail
  go_ret
  exact ⟨rfl, rfl⟩

set_option maxRecDepth 100000 in
set_option maxHeartbeats 2000000 in
theorem compareR_any (va vb : Value) (a b : List UInt8) (w : World) (ha : EntP w va a) (hb : EntP w vb b) :
    Calls Tryz.prog 102 #[va, vb, .func (.func 81) #[] #[], .func (.func 104) #[] #[]] w fun e w' => e = .returned (.int .i64 (cmpT a b)) ∧ Below w.heap.size w w' := by
  have HC : Hid (cmpT a b = if okP a then (if okP b then ordP (pepOf (lowL a)) (pepOf (lowL b)) else 1) else if okP b then -1 else 0) := rfl
  generalize cmpT a b = C at *
  rcases ha with ⟨ha, rfl⟩ | ⟨ha, vr, vl, rfl, t1, t2⟩
  · rcases hb with ⟨hb, rfl⟩ | ⟨hb, vr', vl', rfl, t1', t2'⟩
    · have HZ : Hid (C = 0) := by show _ = _; rw [HC.out, ha, hb]; rfl
      have AL := hide (fun w => alike_any (ofL a) (ofL b) w)
      clear HC ha hb
      go_enter Tryz.func102, Tryz.ntmps102
      go_wp2_with fail
      refine (AL.out _).mono ?_
      rintro e w' ⟨rfl, hw'⟩
      rw [hw']
      go_wp2_with fail
      go_ret
      exact ⟨ret_i HZ.out.symm, ((Below.refl _ w).alloc (Nat.le_refl _) _).alloc (by simp) _⟩
    · have HZ : Hid (C = -1) := by show _ = _; rw [HC.out, ha, hb]; rfl
      obtain ⟨r2, c2, rfl, _⟩ := t1'
      obtain ⟨q2, d2, rfl, _⟩ := t2'
      clear HC ha hb
      generalize pepOf (lowL b) = Y at *
      go_enter Tryz.func102, Tryz.ntmps102
      go_wp2_with fail
      go_ret
      exact ⟨ret_i HZ.out.symm, ((Below.refl _ w).alloc (Nat.le_refl _) _).alloc (by simp) _⟩
  · have SX : SmallP (pepOf (lowL a)) := pep_small _ (by rw [lowL_len]; unfold okP at ha; simp only [Bool.and_eq_true, decide_eq_true_eq] at ha; exact ha.1)
    obtain ⟨r1, c1, rfl, _⟩ := id t1
    obtain ⟨q1, d1, rfl, _⟩ := id t2
    rcases hb with ⟨hb, rfl⟩ | ⟨hb, vr', vl', rfl, t1', t2'⟩
    · have HZ : Hid (C = 1) := by show _ = _; rw [HC.out, ha, hb]; rfl
      clear HC ha hb t1 t2
      generalize pepOf (lowL a) = X at *
      go_enter Tryz.func102, Tryz.ntmps102
      go_wp2_with fail
      go_ret
      exact ⟨ret_i HZ.out.symm, ((Below.refl _ w).alloc (Nat.le_refl _) _).alloc (by simp) _⟩
    · have SY : SmallP (pepOf (lowL b)) := pep_small _ (by rw [lowL_len]; unfold okP at hb; simp only [Bool.and_eq_true, decide_eq_true_eq] at hb; exact hb.1)
      have HZ : Hid (C = ordP (pepOf (lowL a)) (pepOf (lowL b))) := by show _ = _; rw [HC.out, ha, hb]; rfl
      obtain ⟨r2, c2, rfl, _⟩ := id t1'
      obtain ⟨q2, d2, rfl, _⟩ := id t2'
      clear HC ha hb
      generalize pepOf (lowL a) = X at *
      generalize pepOf (lowL b) = Y at *
      have OO := fun W (hW : Below w.heap.size w W) => order_any _ _ X Y W ⟨_, _, rfl, t1.below hW, t2.below hW⟩ ⟨_, _, rfl, t1'.below hW, t2'.below hW⟩ SX.short SY.short
      unfold pepV at OO
      have OO := hide OO
      clear t1 t2 t1' t2'
      go_enter Tryz.func102, Tryz.ntmps102
      go_wp2_with fail
      refine (OO.out _ (((Below.refl _ w).alloc (Nat.le_refl _) _).alloc (by simp) _)).mono ?_
      rintro e w' ⟨rfl, b1⟩
      go_wp2_with fail
      go_ret
      exact ⟨ret_i HZ.out.symm, (((Below.refl _ w).alloc (Nat.le_refl _) _).alloc (by simp) _).trans (b1.mono (by simp; omega))⟩

set_option maxHeartbeats 400000 in
theorem Loosely_any (s t : ByteArray) (w : World) (hs : s.size ≤ 140737488351232) (ht : t.size ≤ 140737488351232) :
    Calls Tryz.prog 80 #[.string s, .string t, .func (.func 67) #[] #[], .func (.func 81) #[] #[]] w fun e w' => e = .returned (.int .i64 (cmpT s.data.toList t.data.toList)) ∧ Below w.heap.size w w' := by
  go_enter Tryz.func80, Tryz.ntmps80
  go_wp2_with fail
  refine (read_any _ _ hs).mono ?_
  rintro e w1 ⟨b1, v1, rfl, h1⟩
  go_wp2_with fail
  refine (read_any _ _ ht).mono ?_
  rintro e w2 ⟨b2, v2, rfl, h2⟩
  have C := hide (compareR_any v1 v2 _ _ w2 (h1.below b2) h2)
  clear h1 h2
  go_wp2_with fail
  refine C.out.mono ?_
  rintro e w3 ⟨rfl, b3⟩
  go_wp2_with fail
  go_ret
  exact ⟨rfl, b1.trans ((b2.mono b1.size).trans (b3.mono (Nat.le_trans b1.size b2.size)))⟩

set_option maxHeartbeats 400000 in
theorem CompareT_any (s t : ByteArray) (w : World) (hs : s.size ≤ 140737488351232) (ht : t.size ≤ 140737488351232) :
    Calls Tryz.prog 50 #[.string s, .string t] w fun e w' => e = .returned (.int .i64 (cmpT s.data.toList t.data.toList)) ∧ Below w.heap.size w w' := by
  go_enter Tryz.func50, Tryz.ntmps50
  go_wp2_with fail
  refine (Loosely_any _ _ _ hs ht).mono ?_
  rintro e w1 ⟨rfl, b1⟩
  go_wp2_with fail
  go_ret
  exact ⟨rfl, b1⟩

end Go.Proofs.YtabmfdedbpmfmaaGreat

namespace Go.Proofs.YtabmfdedbpmfmaaGreat
open Go.RowKit Go.Shelf
set_option linter.unusedVariables false

inductive Wd where
  | bad (e : Int) (p : Nat)
  | ok (x : PepL) (t : List UInt8) (st : Bool)
def pep0 : PepL := ⟨[], [], 0, [], false, [], false, [], []⟩
def onlyW (may : PepL → Bool) (u : List UInt8) : Wd :=
  if okP u then (if may (pepOf (lowL u)) then .ok (pepOf (lowL u)) u false else .bad 19 0) else .bad (errX u).1 (errX u).2
def pubB (x : PepL) : Bool := x.loc.isEmpty
def bareB (x : PepL) : Bool := pubB x && (x.c == 0) && !x.b && !x.d
def endsW (u : List UInt8) : Bool := decide (2 ≤ u.length) && (u.drop (u.length - 2) == [46, 42])
def starW (w : Wd) : Wd := match w with
  | .ok x t _ => .ok x t true
  | y => y
def badN : List UInt8 → Nat
  | [] => 0
  | c :: r => if decide (c < 33) || decide (126 < c) then 0 else badN r + 1
def textW (u : List UInt8) : Wd := if badN u < u.length then .bad 10 (badN u) else .ok pep0 u false
def wdR (k : Nat) (u : List UInt8) : Wd :=
  if k = 0 then onlyW (fun x => pubB x && decide (1 < x.rel.length)) u
  else if k = 1 ∨ k = 2 then (if endsW u then starW (onlyW bareB (u.take (u.length - 2))) else onlyW (fun _ => true) u)
  else if k = 7 then textW u
  else onlyW pubB u
structure Cl where
  k : Nat
  x : PepL
  t : List UInt8
  st : Bool
  s : Nat
  e : Nat
  er : Int
def rwL (l : List UInt8) (k b : Nat) : Wd × Nat :=
  if wdN (l.drop b) = 0 then (.bad (misL l.length b) 0, b) else
  match wdR k (seg l b (b + wdN (l.drop b))) with
  | .bad e p => (.bad e 0, b + p)
  | .ok x t st => (.ok x t st, b + wdN (l.drop b))
def clP (l : List UInt8) (a : Nat) : Cl :=
  if (opGo (l.drop a) 8).1 = 8 then ⟨8, pep0, [], false, a, a + (opGo (l.drop a) 8).2, misL l.length (a + (opGo (l.drop a) 8).2)⟩ else
  match rwL l (opGo (l.drop a) 8).1 (skL l (a + (sgn (opGo (l.drop a) 8).1).length)) with
  | (.bad e _, z) => ⟨(opGo (l.drop a) 8).1, pep0, [], false, a, z, e⟩
  | (.ok x t st, z) => ⟨(opGo (l.drop a) 8).1, x, t, st, a, skL l z, if skL l z < l.length ∧ l[skL l z]? ≠ some 44 then 10 else 0⟩
def pyGo (l : List UInt8) : Nat → Nat → List Cl → Int × Nat × List Cl
  | 0, a, _ => (12, a, [])
  | n + 1, a, acc =>
    if acc.length = 32 ∧ skL l a < l.length then (12, skL l a, []) else
    if (clP l (skL l a)).er ≠ 0 then ((clP l (skL l a)).er, (clP l (skL l a)).e, []) else
    if (clP l (skL l a)).e < l.length then pyGo l n ((clP l (skL l a)).e + 1) (acc ++ [clP l (skL l a)]) else (0, 0, acc ++ [clP l (skL l a)])
def pyL (l : List UInt8) : Int × Nat × List Cl :=
  if 256 < l.length then (12, 256, []) else if runL 6 l = l.length then (0, 0, []) else pyGo l 33 0 []

end Go.Proofs.YtabmfdedbpmfmaaGreat
