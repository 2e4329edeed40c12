/-
  Walks: the document's next version behind a partial's number. · Walks: the document's comparator that nothing meets. · Walks: the document's between.
-/
import Derived.Test.YtpdlgiioahjhiaaGreatQLf
import Derived.Test.YtpdlgiioahjhiaaGreatQEt
import Derived.Deep.AppendLies
import Derived.Test.YtpdlgiioahjhiaaGreatQEzc
namespace Go.Proofs.YtpdlgiioahjhiaaGreat
open Go.RowKit Go.Shelf
set_option linter.unusedVariables false

theorem fin136 {R : Ending → World → Prop} (tmps : Array Value) (W : World) (B : Nat) (x y z : ByteArray) (p q : Value) (hp : ∃ a n c, p = .slice a n c) (hq : ∃ a n c, q = .slice a n c)
    (h2 : tmps.getD 6 undef = .pointer (some ⟨B, 0, none⟩)) (e1 : W.heap[B]? = some (.cells #[.string x, .string y, .string z, p, q] 33 (0, 0)))
    (hR : R (.returned (.agg #[.string x, .string y, .string z, p, q])) W) : bodyPost Tryz.prog Tryz.f136 R .ret { tmps := tmps, defers := [] } W := by
  obtain ⟨pa, pn, pc, rfl⟩ := hp
  obtain ⟨qa, qn, qc, rfl⟩ := hq
  have r0 := cell_at 0 e1 rfl
  have r1 := cell_at 1 e1 rfl
  have r2 := cell_at 2 e1 rfl
  have r3 := cell_at 3 e1 rfl
  have r4 := cell_at 4 e1 rfl
  rw [Array.getD_eq_getD_getElem?] at h2
  refine ⟨rfl, _, ?_, hR⟩
  simp [results, Tryz.results136, go_sem, h2, r0, r1, r2, r3, r4]
  try rfl

set_option maxRecDepth 100000 in
set_option maxHeartbeats 2000000 in
theorem rnext0_any (a b c : List UInt8) (x : Option Addr) (n k : Nat) (N : Int) (y : Option Addr) (m j : Nat) (w : World) (hl : a.length ≤ 1024) :
    Calls Tryz.prog 136 #[.agg #[.string (ofL a), .string (ofL b), .string (ofL c), .slice x n k, .int .i64 N], .int .i64 0, .slice y m j] w fun e w' => e = .returned (.agg #[.string (ofL (zN (nextL a))), .string (ofL (zN [])), .string (ofL (zN [])), .slice y m j, .slice none 0 0]) ∧ Below w.heap.size w w' := by
  have NX := hide (fun W => rnext_ofL a W (by omega))
  have SM := hide (fun W => rsem_any (nextL a) [] [] y m j W)
  obtain ⟨za, hza⟩ : ∃ q, zN (nextL a) = q := ⟨_, rfl⟩
  obtain ⟨zb, hzb⟩ : ∃ q, zN [] = q := ⟨_, rfl⟩
  obtain ⟨zc, hzc⟩ : ∃ q, zN [] = q := ⟨_, rfl⟩
  rw [hza, hzb] at SM ⊢
  clear hza hzb hzc
  generalize nextL a = nl at *
  go_enter Tryz.func136, Tryz.ntmps136
  go_wp2_with fail
  have e0 := heap_b1 w (.cells #[.string (ofL a), .string (ofL b), .string (ofL c), .slice x n k, .int .i64 N] 123) (.cells #[.string ⟨#[]⟩, .string ⟨#[]⟩, .string ⟨#[]⟩, .slice none 0 0, .slice none 0 0] 33)
  have o0 := heap_b0 w (.cells #[.string (ofL a), .string (ofL b), .string (ofL c), .slice x n k, .int .i64 N] 123) (.cells #[.string ⟨#[]⟩, .string ⟨#[]⟩, .string ⟨#[]⟩, .slice none 0 0, .slice none 0 0] 33)
  have B0 := hide (below_a2 w (.cells #[.string (ofL a), .string (ofL b), .string (ofL c), .slice x n k, .int .i64 N] 123) (.cells #[.string ⟨#[]⟩, .string ⟨#[]⟩, .string ⟨#[]⟩, .slice none 0 0, .slice none 0 0] 33))
  generalize (w.alloc (.cells #[.string (ofL a), .string (ofL b), .string (ofL c), .slice x n k, .int .i64 N] 123)).alloc (.cells #[.string ⟨#[]⟩, .string ⟨#[]⟩, .string ⟨#[]⟩, .slice none 0 0, .slice none 0 0] 33) = W0 at *
  refine (NX.out _).mono ?_
  rintro e w1 ⟨rfl, b1⟩
  have e1 := (b1.block _ (Array.getElem?_eq_some_iff.1 e0).1).trans e0
  have o1 := (b1.block _ (Array.getElem?_eq_some_iff.1 o0).1).trans o0
  have B1 := hide (B0.out.trans (b1.mono B0.out.size))
  have q0 := cell_at 0 o1 rfl
  have q1 := cell_at 1 o1 rfl
  have q2 := cell_at 2 o1 rfl
  have E1 := hide e1
  clear e0 o0 b1 e1 o1
  go_wp2_with fail
  refine (SM.out _).mono ?_
  rintro e w2 ⟨rfl, b2⟩
  have e2 := (b2.block _ (Array.getElem?_eq_some_iff.1 E1.out).1).trans E1.out
  have B2 := hide (B1.out.trans (b2.mono B1.out.size))
  have E2 := hide e2
  have g0 := one_free 0 e2
  have g1 := one_free 1 e2
  have g2 := one_free 2 e2
  have g3 := one_free 3 e2
  have g4 := one_free 4 e2
  have r0 := cell_at 0 e2 rfl
  have r1 := cell_at 1 e2 rfl
  have r2 := cell_at 2 e2 rfl
  have r3 := cell_at 3 e2 rfl
  have r4 := cell_at 4 e2 rfl
  clear e2 b2 q0 q1 q2
  go_wp2_with fail
  exact fin136 _ _ (w.heap.size + 1) _ _ _ _ _ ⟨_, _, _, rfl⟩ ⟨_, _, _, rfl⟩ rfl (put5 _ _ _ _ _ E2.out) ⟨rfl, below5 B2.out (by omega) _ _ _ _ _⟩

set_option maxRecDepth 100000 in
set_option maxHeartbeats 2000000 in
theorem rnext1_any (a b c : List UInt8) (x : Option Addr) (n k : Nat) (N : Int) (y : Option Addr) (m j : Nat) (w : World) (hl : b.length ≤ 1024) :
    Calls Tryz.prog 136 #[.agg #[.string (ofL a), .string (ofL b), .string (ofL c), .slice x n k, .int .i64 N], .int .i64 1, .slice y m j] w fun e w' => e = .returned (.agg #[.string (ofL (zN a)), .string (ofL (zN (nextL b))), .string (ofL (zN [])), .slice y m j, .slice none 0 0]) ∧ Below w.heap.size w w' := by
  have NX := hide (fun W => rnext_ofL b W (by omega))
  have SM := hide (fun W => rsem_any a (nextL b) [] y m j W)
  obtain ⟨za, hza⟩ : ∃ q, zN a = q := ⟨_, rfl⟩
  obtain ⟨zb, hzb⟩ : ∃ q, zN (nextL b) = q := ⟨_, rfl⟩
  obtain ⟨zc, hzc⟩ : ∃ q, zN [] = q := ⟨_, rfl⟩
  rw [hza, hzb, hzc] at SM ⊢
  clear hza hzb hzc
  generalize nextL b = nl at *
  go_enter Tryz.func136, Tryz.ntmps136
  go_wp2_with fail
  have e0 := heap_b1 w (.cells #[.string (ofL a), .string (ofL b), .string (ofL c), .slice x n k, .int .i64 N] 123) (.cells #[.string ⟨#[]⟩, .string ⟨#[]⟩, .string ⟨#[]⟩, .slice none 0 0, .slice none 0 0] 33)
  have o0 := heap_b0 w (.cells #[.string (ofL a), .string (ofL b), .string (ofL c), .slice x n k, .int .i64 N] 123) (.cells #[.string ⟨#[]⟩, .string ⟨#[]⟩, .string ⟨#[]⟩, .slice none 0 0, .slice none 0 0] 33)
  have B0 := hide (below_a2 w (.cells #[.string (ofL a), .string (ofL b), .string (ofL c), .slice x n k, .int .i64 N] 123) (.cells #[.string ⟨#[]⟩, .string ⟨#[]⟩, .string ⟨#[]⟩, .slice none 0 0, .slice none 0 0] 33))
  generalize (w.alloc (.cells #[.string (ofL a), .string (ofL b), .string (ofL c), .slice x n k, .int .i64 N] 123)).alloc (.cells #[.string ⟨#[]⟩, .string ⟨#[]⟩, .string ⟨#[]⟩, .slice none 0 0, .slice none 0 0] 33) = W0 at *
  refine (NX.out _).mono ?_
  rintro e w1 ⟨rfl, b1⟩
  have e1 := (b1.block _ (Array.getElem?_eq_some_iff.1 e0).1).trans e0
  have o1 := (b1.block _ (Array.getElem?_eq_some_iff.1 o0).1).trans o0
  have B1 := hide (B0.out.trans (b1.mono B0.out.size))
  have q0 := cell_at 0 o1 rfl
  have q1 := cell_at 1 o1 rfl
  have q2 := cell_at 2 o1 rfl
  have E1 := hide e1
  clear e0 o0 b1 e1 o1
  go_wp2_with fail
  refine (SM.out _).mono ?_
  rintro e w2 ⟨rfl, b2⟩
  have e2 := (b2.block _ (Array.getElem?_eq_some_iff.1 E1.out).1).trans E1.out
  have B2 := hide (B1.out.trans (b2.mono B1.out.size))
  have E2 := hide e2
  have g0 := one_free 0 e2
  have g1 := one_free 1 e2
  have g2 := one_free 2 e2
  have g3 := one_free 3 e2
  have g4 := one_free 4 e2
  have r0 := cell_at 0 e2 rfl
  have r1 := cell_at 1 e2 rfl
  have r2 := cell_at 2 e2 rfl
  have r3 := cell_at 3 e2 rfl
  have r4 := cell_at 4 e2 rfl
  clear e2 b2 q0 q1 q2
  go_wp2_with fail
  exact fin136 _ _ (w.heap.size + 1) _ _ _ _ _ ⟨_, _, _, rfl⟩ ⟨_, _, _, rfl⟩ rfl (put5 _ _ _ _ _ E2.out) ⟨rfl, below5 B2.out (by omega) _ _ _ _ _⟩

set_option maxRecDepth 100000 in
set_option maxHeartbeats 2000000 in
theorem rnext2_any (a b c : List UInt8) (x : Option Addr) (n k : Nat) (N : Int) (y : Option Addr) (m j : Nat) (w : World) (hl : c.length ≤ 1024) :
    Calls Tryz.prog 136 #[.agg #[.string (ofL a), .string (ofL b), .string (ofL c), .slice x n k, .int .i64 N], .int .i64 2, .slice y m j] w fun e w' => e = .returned (.agg #[.string (ofL (zN a)), .string (ofL (zN b)), .string (ofL (zN (nextL c))), .slice y m j, .slice none 0 0]) ∧ Below w.heap.size w w' := by
  have NX := hide (fun W => rnext_ofL c W (by omega))
  have SM := hide (fun W => rsem_any a b (nextL c) y m j W)
  obtain ⟨za, hza⟩ : ∃ q, zN a = q := ⟨_, rfl⟩
  obtain ⟨zb, hzb⟩ : ∃ q, zN b = q := ⟨_, rfl⟩
  obtain ⟨zc, hzc⟩ : ∃ q, zN (nextL c) = q := ⟨_, rfl⟩
  rw [hza, hzb, hzc] at SM ⊢
  clear hza hzb hzc
  generalize nextL c = nl at *
  go_enter Tryz.func136, Tryz.ntmps136
  go_wp2_with fail
  have e0 := heap_b1 w (.cells #[.string (ofL a), .string (ofL b), .string (ofL c), .slice x n k, .int .i64 N] 123) (.cells #[.string ⟨#[]⟩, .string ⟨#[]⟩, .string ⟨#[]⟩, .slice none 0 0, .slice none 0 0] 33)
  have o0 := heap_b0 w (.cells #[.string (ofL a), .string (ofL b), .string (ofL c), .slice x n k, .int .i64 N] 123) (.cells #[.string ⟨#[]⟩, .string ⟨#[]⟩, .string ⟨#[]⟩, .slice none 0 0, .slice none 0 0] 33)
  have B0 := hide (below_a2 w (.cells #[.string (ofL a), .string (ofL b), .string (ofL c), .slice x n k, .int .i64 N] 123) (.cells #[.string ⟨#[]⟩, .string ⟨#[]⟩, .string ⟨#[]⟩, .slice none 0 0, .slice none 0 0] 33))
  generalize (w.alloc (.cells #[.string (ofL a), .string (ofL b), .string (ofL c), .slice x n k, .int .i64 N] 123)).alloc (.cells #[.string ⟨#[]⟩, .string ⟨#[]⟩, .string ⟨#[]⟩, .slice none 0 0, .slice none 0 0] 33) = W0 at *
  refine (NX.out _).mono ?_
  rintro e w1 ⟨rfl, b1⟩
  have e1 := (b1.block _ (Array.getElem?_eq_some_iff.1 e0).1).trans e0
  have o1 := (b1.block _ (Array.getElem?_eq_some_iff.1 o0).1).trans o0
  have B1 := hide (B0.out.trans (b1.mono B0.out.size))
  have q0 := cell_at 0 o1 rfl
  have q1 := cell_at 1 o1 rfl
  have q2 := cell_at 2 o1 rfl
  have E1 := hide e1
  clear e0 o0 b1 e1 o1
  go_wp2_with fail
  refine (SM.out _).mono ?_
  rintro e w2 ⟨rfl, b2⟩
  have e2 := (b2.block _ (Array.getElem?_eq_some_iff.1 E1.out).1).trans E1.out
  have B2 := hide (B1.out.trans (b2.mono B1.out.size))
  have E2 := hide e2
  have g0 := one_free 0 e2
  have g1 := one_free 1 e2
  have g2 := one_free 2 e2
  have g3 := one_free 3 e2
  have g4 := one_free 4 e2
  have r0 := cell_at 0 e2 rfl
  have r1 := cell_at 1 e2 rfl
  have r2 := cell_at 2 e2 rfl
  have r3 := cell_at 3 e2 rfl
  have r4 := cell_at 4 e2 rfl
  clear e2 b2 q0 q1 q2
  go_wp2_with fail
  exact fin136 _ _ (w.heap.size + 1) _ _ _ _ _ ⟨_, _, _, rfl⟩ ⟨_, _, _, rfl⟩ rfl (put5 _ _ _ _ _ E2.out) ⟨rfl, below5 B2.out (by omega) _ _ _ _ _⟩

end Go.Proofs.YtpdlgiioahjhiaaGreat

namespace Go.Proofs.YtpdlgiioahjhiaaGreat
open Go.RowKit Go.Shelf
set_option linter.unusedVariables false
variable {A : Nat → Prop}

theorem zero_txt (w : World) : Txt (w.alloc (.cells #[.string ⟨#[48]⟩] 9)) (.slice (some ⟨w.heap.size, 0, none⟩) 1 1) [[48]] :=
  ⟨_, 1, rfl, .inr ⟨w.heap.size, 0, rfl, by simp, fun i hi => by
    have : i = 0 := by simpa using hi
    subst this
    exact cell_at 0 (World.alloc_heap_new w _) rfl⟩⟩

set_option maxRecDepth 100000 in
set_option maxHeartbeats 2000000 in
theorem rnever_any (w : World) (hA : ∀ b, w.heap.size ≤ b → A b) : Calls Tryz.prog 135 #[] w (CompsP A w noneL) := by
  have HA := hide hA
  clear hA
  have Z := hide (fun W => rzero_any W)
  have S := hide (fun W => rsem_any [] [] [] (some ⟨w.heap.size, 0, none⟩) 1 1 W)
  have z0 : zN [] = [48] := rfl
  rw [z0] at S
  have TX := hide (zero_txt w)
  have b0 : Below w.heap.size w (w.alloc (.cells #[.string ⟨#[48]⟩] 9)) := (Below.refl _ w).alloc (Nat.le_refl _) _
  have B0 := hide b0
  clear b0 z0
  go_enter Tryz.func135, Tryz.ntmps135
  go_wp2_with fail
  refine (Z.out _).mono ?_
  rintro e w1 ⟨rfl, hw1⟩
  rw [← hw1] at TX B0
  clear hw1
  try dsimp only
  go_wp2_with fail
  refine (S.out _).mono ?_
  rintro e w2 ⟨rfl, b2⟩
  have TX2 := hide (TX.out.below b2)
  have B2 := hide (B0.out.trans (b2.mono B0.out.size))
  clear b2
  try dsimp only
  go_wp2_with fail
  go_ret
  have b3 : Below w2.heap.size w2 (w2.alloc (.cells #[.int .i64 1, .string (ofL [48]), .string (ofL [48]), .string (ofL [48]), .slice (some ⟨w.heap.size, 0, none⟩) 1 1, .slice none 0 0] 35)) := (Below.refl _ w2).alloc (Nat.le_refl _) _
  refine ⟨B2.out.trans (b3.mono B2.out.size), .inr ⟨w2.heap.size, [.int .i64 1, .string (ofL [48]), .string (ofL [48]), .string (ofL [48]), .slice (some ⟨w.heap.size, 0, none⟩) 1 1, .slice none 0 0], rfl, B2.out.size, World.alloc_heap_new w2 _, ?_⟩⟩
  exact ⟨_, [], by rw [List.append_nil], ⟨_, _, rfl, TX2.out.below b3, txt_nil _, capA_one (HA.out _ (Nat.le_refl _)), capZ (txt_nil w)⟩, rfl⟩

end Go.Proofs.YtpdlgiioahjhiaaGreat

namespace Go.Proofs.YtpdlgiioahjhiaaGreat
open Go.RowKit Go.Shelf
set_option linter.unusedVariables false


variable {A : Nat → Prop}
def CompsR (A : Nat → Prop) (w : World) (cs : List Comp) (e : Ending) (w' : World) : Prop :=
  Below w.heap.size w w' ∧ ∃ v xs, e = .returned v ∧ w'.ownsRow w.heap.size 35 6 v cs.length xs ∧ CompsC A w' cs xs
theorem own_block {W : World} {base b n : Nat} {e : TypeId} {size : Nat} {xs : List Value} (hb : base ≤ b) (h : W.heap[b]? = some (.cells (List.toArray xs) e (0, 0))) (hl : xs.length = n * size) (hn : n ≤ maxLen) :
    W.ownsRow base e size (.slice (some ⟨b, 0, none⟩) n n) n xs :=
  ⟨hl, .inr ⟨b, n, _, rfl, hb, h, Nat.le_refl _, hn, by simpa using hl, by rw [List.toList_toArray, ← hl, List.take_length]⟩⟩
theorem CompsP.toR {w w' : World} {cs : List Comp} {e : Ending} (h : CompsP A w cs e w') (hn : cs.length ≤ 1000) : CompsR A w cs e w' := by
  obtain ⟨h1, ⟨rfl, rfl⟩ | ⟨b, xs, rfl, h4, h5, h6⟩⟩ := h
  · exact ⟨h1, _, [], rfl, World.ownsRow_nil _ _ _ _, rfl⟩
  · exact ⟨h1, _, xs, rfl, own_block h4 h5 h6.len (by unfold maxLen; omega), h6⟩
theorem own_mono {w : World} {base base' : Nat} {e : TypeId} {size : Nat} {v : Value} {n : Nat} {xs : List Value} (h : w.ownsRow base e size v n xs) (hb : base' ≤ base) : w.ownsRow base' e size v n xs :=
  ⟨h.1, h.2.imp id fun ⟨g, cap, cur, h1, h2, h3⟩ => ⟨g, cap, cur, h1, Nat.le_trans hb h2, h3⟩⟩
theorem CompsR.back {w W W' : World} {cs : List Comp} {e : Ending} (h : CompsR A W cs e W') (hb : Below w.heap.size w W) : CompsR A w cs e W' := by
  obtain ⟨h1, v, xs, h2, h3, h4⟩ := h
  exact ⟨hb.trans (h1.mono hb.size), v, xs, h2, own_mono h3 hb.size, h4⟩
def nxD (a b c : List UInt8) (k : Nat) : SemL :=
  match k with
  | 0 => ⟨zN (nextL a), zN [], zN [], [[48]], []⟩
  | 1 => ⟨zN a, zN (nextL b), zN [], [[48]], []⟩
  | _ => ⟨zN a, zN b, zN (nextL c), [[48]], []⟩
theorem rnextK_any (a b c : List UInt8) (x : Option Addr) (n m : Nat) (N : Int) (k : Nat) (hk : k ≤ 2) (y : Option Addr) (i j : Nat) (w : World) (ha : a.length ≤ 1024) (hb : b.length ≤ 1024) (hc : c.length ≤ 1024) :
    Calls Tryz.prog 136 #[.agg #[.string (ofL a), .string (ofL b), .string (ofL c), .slice x n m, .int .i64 N], .int .i64 (k : Int), .slice y i j] w fun e w' => e = .returned (.agg #[.string (ofL (nxD a b c k).maj), .string (ofL (nxD a b c k).min), .string (ofL (nxD a b c k).pat), .slice y i j, .slice none 0 0]) ∧ Below w.heap.size w w' := by
  rcases (by omega : k = 0 ∨ k = 1 ∨ k = 2) with rfl | rfl | rfl
  · exact rnext0_any a b c x n m N y i j w ha
  · exact rnext1_any a b c x n m N y i j w hb
  · exact rnext2_any a b c x n m N y i j w hc
theorem txt_z {W : World} {z : Nat} (h : W.heap[z]? = some (.cells #[.string ⟨#[48]⟩] 9 (0, 0))) : Txt W (.slice (some ⟨z, 0, none⟩) 1 1) [[48]] := by
  refine ⟨_, 1, rfl, .inr ⟨z, 0, rfl, (Array.getElem?_eq_some_iff.1 h).1, fun i hi => ?_⟩⟩
  obtain rfl : i = 0 := by simpa using hi
  exact cell_at 0 h rfl
theorem keep_grown {W W' : World} {row : Option Nat} (hg : W.grownBy W' row) (hA : ∀ b, A b → row ≠ some b) : Keep A W W' :=
  ⟨hg.size, fun b cs t m hb h => (hg.block b (Array.getElem?_eq_some_iff.1 h).1 (fun e => hA b hb e.symm)).trans h⟩
theorem b1_lt {n b q : Nat} (h1 : n ≤ b) (h2 : q < n) (h : b = q) : False := by omega
theorem b1_ge {n m b q : Nat} (h1 : n ≤ b) (h2 : m ≤ n) (h : b = q) : m ≤ q := by omega
theorem one_cells {W : World} {c : Comp} {xs : List Value} (h : CompsC A W [c] xs) : xs.length = 6 ∧ (∀ u ∈ xs, u.oneCell' = true) := ⟨h.len, one6 h⟩

theorem comp_one {w w' : World} {c : Comp} {e : Ending} (h : CompsP A w [c] e w') : ∃ b xs, e = .returned (.slice (some ⟨b, 0, none⟩) 1 1) ∧ w.heap.size ≤ b ∧ w'.heap[b]? = some (.cells (List.toArray xs) 35 (0, 0)) ∧ CompsC A w' [c] xs ∧ Below w.heap.size w w' := by
  obtain ⟨h1, ⟨h2, _⟩ | ⟨b, xs, h3, h4, h5, h6⟩⟩ := h
  · cases h2
  · exact ⟨b, xs, h3, h4, h5, h6, h1⟩

set_option maxRecDepth 100000 in
set_option maxHeartbeats 4000000 in
theorem between_any (a b c : List UInt8) (pr : List (List UInt8)) (x : Option Addr) (n m : Nat) (N : Int) (k : Nat) (hk : k ≤ 2) (w : World) (hA : ∀ b, w.heap.size ≤ b → A b) (ht : Txt w (.slice x n m) pr) (hc : CapA A (.slice x n m)) (l1 : a.length ≤ 1024) (l2 : b.length ≤ 1024) (l3 : c.length ≤ 1024) :
    Calls Tryz.prog 133 #[.agg #[.string (ofL a), .string (ofL b), .string (ofL c), .slice x n m, .int .i64 N], .int .i64 (k : Int)] w (CompsR A w [(4, ⟨zN a, zN b, zN c, pr, []⟩), (1, nxD a b c k)]) := by
  obtain ⟨i0, hi, hz0, hz1, hz2⟩ := info_parts infoC
  have HA := hide hA
  have T0 := hide ht
  have C0 := hide hc
  have BG := hide (fun W => rbegin_any a b c x n m N W)
  have NX := hide (fun y i j W => rnextK_any a b c x n m N k hk y i j W l1 l2 l3)
  obtain ⟨y, hy⟩ : ∃ y, nxD a b c k = y := ⟨_, rfl⟩
  have HY : Hid (y.pre = [[48]] ∧ y.bld = []) := by
    show _ ∧ _
    rw [← hy]
    unfold nxD
    split <;> exact ⟨rfl, rfl⟩
  rw [hy] at NX ⊢
  clear hy hA ht hc hk l1 l2 l3
  have b0 := hide ((Below.refl _ w).alloc (Nat.le_refl _) (.cells #[.string (ofL a), .string (ofL b), .string (ofL c), .slice x n m, .int .i64 N] 123))
  have n0 := World.alloc_heap_new w (.cells #[.string (ofL a), .string (ofL b), .string (ofL c), .slice x n m, .int .i64 N] 123)
  go_enter Tryz.func133, Tryz.ntmps133
  go_wp2_with fail
  generalize w.alloc _ = W0 at *
  have q0 := cell_at 0 n0 rfl
  have q1 := cell_at 1 n0 rfl
  have q2 := cell_at 2 n0 rfl
  have q3 := cell_at 3 n0 rfl
  have q4 := cell_at 4 n0 rfl
  have hl0 := hide (Array.getElem?_eq_some_iff.1 n0).1
  have bD := hide (b0.out.trans (drew_below w.heap.size W0))
  have N0 := hide n0
  clear n0
  go_region_held3 (fun W' => W'.cell? ⟨w.heap.size, 0, none⟩ = some (.string (ofL a)) ∧ W'.cell? ⟨w.heap.size, 1, none⟩ = some (.string (ofL b)) ∧ W'.cell? ⟨w.heap.size, 2, none⟩ = some (.string (ofL c)) ∧ W'.cell? ⟨w.heap.size, 3, none⟩ = some (.slice x n m) ∧ W'.cell? ⟨w.heap.size, 4, none⟩ = some (.int .i64 N)) (go_keep) ((first
    | (refine step_append_lies _ (by rfl) _ _ _ (by rfl) w.heap.size 35 i0 (.agg #[.int .i64 0, .string ⟨#[]⟩, .string ⟨#[]⟩, .string ⟨#[]⟩, .slice none 0 0, .slice none 0 0]) 6 104 Tryz.underlying39 hi hz0 hz1 hz2 rfl (by omega) (.slice (some ⟨b1, 0, none⟩) 1 1) 1 x1 (by rfl) O5.out ⟨b5, 0, none⟩ 1 1 x5 (by rfl) (by exact (one_cells E5.out).1) (fun j u hu => cell_add (cell_at j D5.out (by rw [List.getElem?_toArray]; exact hu))) (one_cells E5.out).2 (by omega) (by unfold maxLen; omega) (by omega) B5.out.size w5.heap.size rfl ?_
       intro g6 cap6 w6 hown6 hgrow6 hat6 hlt6
       have P6 : Hid (w6.heap[w.heap.size]? = some (.cells #[.string (ofL a), .string (ofL b), .string (ofL c), .slice x n m, .int .i64 N] 123 (0, 0))) := (hgrow6.block w.heap.size LT5.out (fun h => NB1.out (Option.some.inj h))).trans P5.out
       have e0 : w6.cell? ⟨w.heap.size, 0, none⟩ = some (.string (ofL a)) := cell_at 0 P6.out rfl
       have e1 : w6.cell? ⟨w.heap.size, 1, none⟩ = some (.string (ofL b)) := cell_at 1 P6.out rfl
       have e2 : w6.cell? ⟨w.heap.size, 2, none⟩ = some (.string (ofL c)) := cell_at 2 P6.out rfl
       have e3 : w6.cell? ⟨w.heap.size, 3, none⟩ = some (.slice x n m) := cell_at 3 P6.out rfl
       have e4 : w6.cell? ⟨w.heap.size, 4, none⟩ = some (.int .i64 N) := cell_at 4 P6.out rfl
       skip)
    | (go_at_call 131
       have R4 := hide (rcomp_any (A := fun q => A q ∧ q < w4.heap.size ∧ q ≠ b1) 1 (.agg #[.string (ofL y.maj), .string (ofL y.min), .string (ofL y.pat), .slice (some ⟨zb, 0, none⟩) 1 1, .slice none 0 0]) y w4 ⟨_, _, rfl, by rw [HY.out.1]; exact txt_z Z4.out, by rw [HY.out.2]; exact txt_nil _, capA_one ⟨HAz.out, ZL4.out, ZN.out⟩, capZ (txt_nil w)⟩)
       refine R4.out.mono ?_
       rintro e w5 h5
       obtain ⟨b5, x5, rfl, hc5, hd5, he5, hf5⟩ := comp_one h5
       have B5 := hide (B4.out.trans (hf5.mono B4.out.size))
       have F5 := hide hf5
       have C5 := hide hc5
       have D5 := hide hd5
       have E5 := hide he5
       have P5 : Hid (w5.heap[w.heap.size]? = some (.cells #[.string (ofL a), .string (ofL b), .string (ofL c), .slice x n m, .int .i64 N] 123 (0, 0))) := (hf5.block w.heap.size LT4.out).trans P4.out
       have LT5 := hide (Nat.lt_of_lt_of_le LT4.out hf5.size)
       have O5 : Hid (w5.ownsRow w.heap.size 35 6 (.slice (some ⟨b1, 0, none⟩) 1 1) 1 x1) := own_block (by have := CB1.out; have := B1.out.size; omega) ((F25.out hf5).trans D1.out) (one_cells E1.out).1 (by unfold maxLen; omega)
       have e0 : w5.cell? ⟨w.heap.size, 0, none⟩ = some (.string (ofL a)) := cell_at 0 P5.out rfl
       have e1 : w5.cell? ⟨w.heap.size, 1, none⟩ = some (.string (ofL b)) := cell_at 1 P5.out rfl
       have e2 : w5.cell? ⟨w.heap.size, 2, none⟩ = some (.string (ofL c)) := cell_at 2 P5.out rfl
       have e3 : w5.cell? ⟨w.heap.size, 3, none⟩ = some (.slice x n m) := cell_at 3 P5.out rfl
       have e4 : w5.cell? ⟨w.heap.size, 4, none⟩ = some (.int .i64 N) := cell_at 4 P5.out rfl
       clear h5 hc5 hd5 he5 hf5 R4)
    | (go_at_call 136
       refine (NX.out (some ⟨zb, 0, none⟩) 1 1 w3).mono ?_
       rintro e w4 ⟨rfl, hf4⟩
       have B4 := hide (B3.out.trans (hf4.mono B3.out.size))
       have F4 := hide hf4
       have Z4 : Hid (w4.heap[zb]? = some (.cells #[.string ⟨#[48]⟩] 9 (0, 0))) := (hf4.block zb (Array.getElem?_eq_some_iff.1 Z3.out).1).trans Z3.out
       have ZL4 : Hid (zb < w4.heap.size) := (Array.getElem?_eq_some_iff.1 Z4.out).1
       have P4 : Hid (w4.heap[w.heap.size]? = some (.cells #[.string (ofL a), .string (ofL b), .string (ofL c), .slice x n m, .int .i64 N] 123 (0, 0))) := (hf4.block w.heap.size LT3.out).trans P3.out
       have LT4 := hide (Nat.lt_of_lt_of_le LT3.out hf4.size)
       have F25 : Hid (∀ {W : World}, Below w4.heap.size w4 W → W.heap[b1]? = w2.heap[b1]?) := fun hW => (hW.block b1 (by have := F3.out.size; have := hf4.size; have := BL2.out; omega)).trans ((hf4.block b1 (by have := F3.out.size; have := BL2.out; omega)).trans (F3.out.block b1 BL2.out))
       have e0 : w4.cell? ⟨w.heap.size, 0, none⟩ = some (.string (ofL a)) := cell_at 0 P4.out rfl
       have e1 : w4.cell? ⟨w.heap.size, 1, none⟩ = some (.string (ofL b)) := cell_at 1 P4.out rfl
       have e2 : w4.cell? ⟨w.heap.size, 2, none⟩ = some (.string (ofL c)) := cell_at 2 P4.out rfl
       have e3 : w4.cell? ⟨w.heap.size, 3, none⟩ = some (.slice x n m) := cell_at 3 P4.out rfl
       have e4 : w4.cell? ⟨w.heap.size, 4, none⟩ = some (.int .i64 N) := cell_at 4 P4.out rfl
       clear hf4)
    | (go_at_call 137
       refine (rzero_any w2).mono ?_
       rintro e w3 ⟨rfl, hw3⟩
       have F3 : Hid (Below w2.heap.size w2 w3) := (hw3 ▸ (Below.refl _ w2).alloc (Nat.le_refl _) _)
       have Z3' : w3.heap[w2.heap.size]? = some (.cells #[.string ⟨#[48]⟩] 9 (0, 0)) := hw3 ▸ World.alloc_heap_new w2 _
       obtain ⟨zb, hzb⟩ : ∃ zb, w2.heap.size = zb := ⟨_, rfl⟩
       rw [hzb] at Z3' ⊢
       have Z3 := hide Z3'
       have ZN : Hid (zb ≠ b1) := (fun h => by have h8 := BL2.out; omega)
       have HAz : Hid (A zb) := HA.out zb (by have := B2.out.size; omega)
       have B3 := hide (B2.out.trans (F3.out.mono B2.out.size))
       have P3 : Hid (w3.heap[w.heap.size]? = some (.cells #[.string (ofL a), .string (ofL b), .string (ofL c), .slice x n m, .int .i64 N] 123 (0, 0))) := (F3.out.block w.heap.size LT2.out).trans P2.out
       have LT3 := hide (Nat.lt_of_lt_of_le LT2.out F3.out.size)
       have e0 : w3.cell? ⟨w.heap.size, 0, none⟩ = some (.string (ofL a)) := cell_at 0 P3.out rfl
       have e1 : w3.cell? ⟨w.heap.size, 1, none⟩ = some (.string (ofL b)) := cell_at 1 P3.out rfl
       have e2 : w3.cell? ⟨w.heap.size, 2, none⟩ = some (.string (ofL c)) := cell_at 2 P3.out rfl
       have e3 : w3.cell? ⟨w.heap.size, 3, none⟩ = some (.slice x n m) := cell_at 3 P3.out rfl
       have e4 : w3.cell? ⟨w.heap.size, 4, none⟩ = some (.int .i64 N) := cell_at 4 P3.out rfl
       clear hw3 Z3' hzb)
    | (go_at_call 131
       have R1 := hide (rcomp_any (A := fun q => A q ∧ q < w1.heap.size) 4 (.agg #[.string (ofL (zN a)), .string (ofL (zN b)), .string (ofL (zN c)), .slice x n m, .slice none 0 0]) ⟨zN a, zN b, zN c, pr, []⟩ w1 ⟨_, _, rfl, T0.out.below B1.out, txt_nil _, cap_to T0.out C0.out (fun q h1 h2 => ⟨h1, by have := B1.out.size; omega⟩), capZ (txt_nil w)⟩)
       refine R1.out.mono ?_
       rintro e w2 h2
       obtain ⟨b1, x1, rfl, hc1, hd1, he1, hf1⟩ := comp_one h2
       have B2 := hide (B1.out.trans (hf1.mono B1.out.size))
       have CB1 := hide hc1
       have D1 := hide hd1
       have E1 := hide he1
       have BL2 : Hid (b1 < w2.heap.size) := (Array.getElem?_eq_some_iff.1 hd1).1
       have NB1 : Hid (w.heap.size ≠ b1) := (fun h => by have h8 := LT1.out; omega)
       have P2 : Hid (w2.heap[w.heap.size]? = some (.cells #[.string (ofL a), .string (ofL b), .string (ofL c), .slice x n m, .int .i64 N] 123 (0, 0))) := (hf1.block w.heap.size LT1.out).trans P1.out
       have LT2 := hide (Nat.lt_of_lt_of_le LT1.out hf1.size)
       have e0 : w2.cell? ⟨w.heap.size, 0, none⟩ = some (.string (ofL a)) := cell_at 0 P2.out rfl
       have e1 : w2.cell? ⟨w.heap.size, 1, none⟩ = some (.string (ofL b)) := cell_at 1 P2.out rfl
       have e2 : w2.cell? ⟨w.heap.size, 2, none⟩ = some (.string (ofL c)) := cell_at 2 P2.out rfl
       have e3 : w2.cell? ⟨w.heap.size, 3, none⟩ = some (.slice x n m) := cell_at 3 P2.out rfl
       have e4 : w2.cell? ⟨w.heap.size, 4, none⟩ = some (.int .i64 N) := cell_at 4 P2.out rfl
       clear h2 hc1 hd1 he1 hf1 R1)
    | (go_at_call 132
       refine (BG.out _).mono ?_
       rintro e w1 ⟨rfl, hf0⟩
       have B1 := hide (bD.out.trans (hf0.mono bD.out.size))
       have P1 : Hid (w1.heap[w.heap.size]? = some (.cells #[.string (ofL a), .string (ofL b), .string (ofL c), .slice x n m, .int .i64 N] 123 (0, 0))) := (hf0.block w.heap.size hl0.out).trans N0.out
       have LT1 : Hid (w.heap.size < w1.heap.size) := (Array.getElem?_eq_some_iff.1 P1.out).1
       have e0 : w1.cell? ⟨w.heap.size, 0, none⟩ = some (.string (ofL a)) := cell_at 0 P1.out rfl
       have e1 : w1.cell? ⟨w.heap.size, 1, none⟩ = some (.string (ofL b)) := cell_at 1 P1.out rfl
       have e2 : w1.cell? ⟨w.heap.size, 2, none⟩ = some (.string (ofL c)) := cell_at 2 P1.out rfl
       have e3 : w1.cell? ⟨w.heap.size, 3, none⟩ = some (.slice x n m) := cell_at 3 P1.out rfl
       have e4 : w1.cell? ⟨w.heap.size, 4, none⟩ = some (.int .i64 N) := cell_at 4 P1.out rfl
       clear hf0)
    | fail))

  try dsimp only
  go_wp2_with fail
  go_ret
  have K5 : Keep (fun q => A q ∧ q < w4.heap.size ∧ q ≠ b1) w5 w6 := keep_grown hgrow6 (fun q hq e => hq.2.2 (Option.some.inj e).symm)
  have K2 : Keep (fun q => A q ∧ q < w1.heap.size) w2 w6 := (keep_below (F3.out.trans ((F4.out.trans (F5.out.mono F4.out.size)).mono F3.out.size))).trans (keep_grown hgrow6 (fun q hq e => b1_lt CB1.out hq.2 (Option.some.inj e)))
  refine ⟨B5.out.grown hgrow6 B5.out.size (fun q hq => b1_ge CB1.out B1.out.size (Option.some.inj hq)), _, _, rfl, hown6, ?_⟩
  have h1 := E1.out.keep (A' := A) K2 (fun q h _ => h.1)
  have h2 := E5.out.keep (A' := A) K5 (fun q h _ => h.1)
  exact h1.app h2

end Go.Proofs.YtpdlgiioahjhiaaGreat
