/-
  Plain: the sets that a range is read as can be written, and are read back. · Plain: what a range means can be written, and is read back as the same. · Walks: what the document's operators mean is what the program's do. · Plain: identifiers of a partial as the document reads them, none beyond a place. · Plain: what stands behind a partial's numbers, as the document reads it and as the program does.
-/
import Derived.Test.YtpdlgiioahjhiaaGreatQLf
import Derived.Test.YtpdlgiioahjhiaaGreatQKj
import Derived.Test.YtpdlgiioahjhiaaGreatQLv
import Derived.Test.YtpdlgiioahjhiaaGreatQRh
import Derived.Test.YtpdlgiioahjhiaaGreatQLc
import Derived.Test.YtpdlgiioahjhiaaGreatQEj
namespace Go.Proofs.YtpdlgiioahjhiaaGreat
open Go.RowKit
set_option linter.unusedVariables false

def Wt (sg : List (Nat × Nat)) : Nat := (sg.map (fun x => x.2 - x.1)).sum
theorem np_num {l : List UInt8} {a : Nat} (h : (npL l a).2.2 = 0) : a < (npL l a).1 ∧ ((npL l a).2.1 = false → numB (seg l a (npL l a).1) = true) := by
  unfold npL at h ⊢
  split
  · exact ⟨by simp, by simp⟩
  · rename_i h1
    rw [if_neg h1] at h
    split
    · rename_i h2
      rw [if_pos h2] at h
      exact absurd h (by show misL l.length a ≠ 0; unfold misL; split <;> decide)
    · rename_i h2
      rw [if_neg h2] at h
      split
      · rename_i h3
        rw [if_pos h3] at h
        cases h
      · rename_i h3
        dsimp only
        refine ⟨by omega, fun _ => ?_⟩
        have hz : zeroB (seg l a (a + runL 1 (l.drop a))) = false := by
          rw [Bool.eq_false_iff]
          intro hz
          unfold zeroB at hz
          simp only [Bool.and_eq_true, decide_eq_true_eq, beq_iff_eq] at hz
          apply h3
          have hh : (seg l a (a + runL 1 (l.drop a))).head? = l[a]? := by
            unfold seg
            rw [List.head?_drop, List.getElem?_take, if_pos (by omega)]
          have hlen : (seg l a (a + runL 1 (l.drop a))).length ≤ runL 1 (l.drop a) := by
            unfold seg
            rw [List.length_drop, List.length_take]
            omega
          rw [hh] at hz
          exact ⟨hz.1.2, by omega⟩
        have : numR l a = .ok (a + runL 1 (l.drop a)) := by
          unfold numR
          rw [if_neg h2, hz, if_neg (by simp)]
        exact (numR_okle this).2.2
theorem add_inv {l : List UInt8} {a i : Nat} {segs : List (Nat × Nat)} (h : (npL l a).2.2 = 0) (hs : ∀ x ∈ segs, numB (seg l x.1 x.2) = true) (hi : segs.length ≤ i) :
    segs.length ≤ (addS segs i (npL l a).2.1 a (npL l a).1).length ∧ (addS segs i (npL l a).2.1 a (npL l a).1).length ≤ i + 1 ∧ (∀ x ∈ addS segs i (npL l a).2.1 a (npL l a).1, numB (seg l x.1 x.2) = true) ∧
      Wt (addS segs i (npL l a).2.1 a (npL l a).1) + (addS segs i (npL l a).2.1 a (npL l a).1).length + a ≤ Wt segs + segs.length + (npL l a).1 + 1 := by
  obtain ⟨h1, h2⟩ := np_num h
  unfold addS
  split
  · rename_i h3
    simp only [Bool.and_eq_true, Bool.not_eq_true', beq_iff_eq] at h3
    refine ⟨by simp, by simp; omega, ?_, ?_⟩
    · intro x hx
      rcases List.mem_append.1 hx with hx | hx
      · exact hs x hx
      · simp at hx
        subst hx
        exact h2 h3.1
    · unfold Wt
      simp
      omega
  · exact ⟨Nat.le_refl _, by omega, hs, by omega⟩
theorem rn_inv {l : List UInt8} : ∀ (k i a : Nat) (segs sg : List (Nat × Nat)) (e : Nat), rnGo l k i a segs = .ok (sg, e) → (∀ x ∈ segs, numB (seg l x.1 x.2) = true) → segs.length ≤ i →
    a ≤ e ∧ sg.length ≤ i + k + 1 ∧ (∀ x ∈ sg, numB (seg l x.1 x.2) = true) ∧ Wt sg + sg.length + a ≤ Wt segs + segs.length + e + 1
  | 0, i, a, segs, sg, e, h, hs, hi => by
    unfold rnGo at h
    split at h
    · cases h
    · rename_i h0
      have h0 : (npL l a).2.2 = 0 := by simpa using h0
      obtain ⟨q1, q2, q3, q4⟩ := add_inv (i := i) h0 hs hi
      have hlt := (np_num h0).1
      injection h with h
      injection h with h1 h2
      subst h1 h2
      exact ⟨by omega, by omega, q3, q4⟩
  | k + 1, i, a, segs, sg, e, h, hs, hi => by
    rw [rnGo] at h
    split at h
    · cases h
    · rename_i h0
      have h0 : (npL l a).2.2 = 0 := by simpa using h0
      obtain ⟨q1, q2, q3, q4⟩ := add_inv (i := i) h0 hs hi
      have hlt := (np_num h0).1
      split at h
      · obtain ⟨r1, r2, r3, r4⟩ := rn_inv k (i + 1) _ _ sg e h q3 q2
        exact ⟨by omega, by omega, r3, by omega⟩
      · injection h with h
        injection h with h1 h2
        subst h1 h2
        exact ⟨by omega, by omega, q3, q4⟩

structure GoodP (p : PartL) : Prop where
  a : numB p.maj = true
  b : numB p.min = true
  c : numB p.pat = true
  d : ∀ t ∈ p.pre, preB t = true
  t : p.told ≤ 3
  n : p.told ≠ 3 → p.pre = []
  w : p.told ≠ 0 → p.maj.length + p.min.length + p.pat.length ≤ 50
  s : lenS (begL p) ≤ 54
theorem seg_w (l : List UInt8) (a e : Nat) : (seg l a e).length ≤ e - a := by
  unfold seg
  simp
  omega
end Go.Proofs.YtpdlgiioahjhiaaGreat

namespace Go.Proofs.YtpdlgiioahjhiaaGreat
open Go.RowKit
set_option linter.unusedVariables false

def FitL (x : SemL) : Prop := fitW x = true ∧ lenS x ≤ 64
theorem fit_of {x : SemL} (hl : lenS x ≤ 64) (h1 : numB x.maj = true) (h2 : numB x.min = true) (h3 : numB x.pat = true) (h4 : ∀ t ∈ x.pre, preB t = true) (h5 : x.bld = []) : FitL x := by
  refine ⟨fit_mk ?_ h1 h2 h3 (List.all_eq_true.2 h4) (by rw [h5]; rfl), hl⟩
  rw [wrap_id _ (by omega)]
  omega
end Go.Proofs.YtpdlgiioahjhiaaGreat

namespace Go.Proofs.YtpdlgiioahjhiaaGreat
open Go.RowKit Go.Shelf
set_option linter.unusedVariables false


variable {A : Nat → Prop}
theorem zN_self {a : List UInt8} (h : a ≠ []) : zN a = a := if_neg h
theorem incR_ne (l : List UInt8) : incR l ≠ [] := by
  cases l with
  | nil => simp [incR]
  | cons c r => unfold incR; split <;> simp
theorem nextL_ne (l : List UInt8) : nextL l ≠ [] := by
  unfold nextL
  split
  · unfold incL
    simpa using incR_ne _
  · simp
theorem next_is {p : PartL} (h : GoodP p) (h0 : p.told ≠ 0) {k : Int} (hk : k = 0 ∨ k = 1 ∨ k = 2) : nextW (begL p) k = rais (begL p) k := by
  have hf : fitW (begL p) = true := (fit_of (by have := h.s; omega) h.a h.b h.c h.d rfl).1
  have hw := h.w h0
  have hr : fitW (rais (begL p) k) = true := by
    cases hx : fitW (rais (begL p) k)
    · have := next_none (begL p) k hk (by have := h.s; omega) hf hx
      simp only [begL] at this
      omega
    · rfl
  unfold nextW
  rw [if_pos hf, if_pos hk, if_pos hr]
def pD (a b c : List UInt8) (pr : List (List UInt8)) (n : Nat) : PartL := ⟨zN a, zN b, zN c, pr, n⟩
theorem nx_0 {a b c : List UInt8} {pr : List (List UInt8)} {n : Nat} (ha : a ≠ []) (hG : GoodP (pD a b c pr n)) (hn : n ≠ 0) : nextW (begL (pD a b c pr n)) 0 = ⟨(nxD a b c 0).maj, (nxD a b c 0).min, (nxD a b c 0).pat, [], []⟩ := by
  rw [next_is hG hn (k := 0) (by decide)]
  unfold rais pD begL nxD
  simp [zN, ha, nextL_ne a]
theorem nx_1 {a b c : List UInt8} {pr : List (List UInt8)} {n : Nat} (hb : b ≠ []) (hG : GoodP (pD a b c pr n)) (hn : n ≠ 0) : nextW (begL (pD a b c pr n)) 1 = ⟨(nxD a b c 1).maj, (nxD a b c 1).min, (nxD a b c 1).pat, [], []⟩ := by
  rw [next_is hG hn (k := 1) (by decide)]
  unfold rais pD begL nxD
  simp [zN, hb, nextL_ne b]
theorem nx_2 {a b c : List UInt8} {pr : List (List UInt8)} {n : Nat} (hc : c ≠ []) (hG : GoodP (pD a b c pr n)) (hn : n ≠ 0) : nextW (begL (pD a b c pr n)) 2 = ⟨(nxD a b c 2).maj, (nxD a b c 2).min, (nxD a b c 2).pat, [], []⟩ := by
  rw [next_is hG hn (k := 2) (by decide)]
  unfold rais pD begL nxD
  simp [zN, hc, nextL_ne c]
theorem beh_0 {a b c : List UInt8} {pr : List (List UInt8)} {n : Nat} (ha : a ≠ []) (hG : GoodP (pD a b c pr n)) (hn : n ≠ 0) : behL (pD a b c pr n) 0 = nxD a b c 0 := by unfold behL; rw [nx_0 ha hG hn]; rfl
theorem beh_1 {a b c : List UInt8} {pr : List (List UInt8)} {n : Nat} (hb : b ≠ []) (hG : GoodP (pD a b c pr n)) (hn : n ≠ 0) : behL (pD a b c pr n) 1 = nxD a b c 1 := by unfold behL; rw [nx_1 hb hG hn]; rfl
theorem beh_2 {a b c : List UInt8} {pr : List (List UInt8)} {n : Nat} (hc : c ≠ []) (hG : GoodP (pD a b c pr n)) (hn : n ≠ 0) : behL (pD a b c pr n) 2 = nxD a b c 2 := by unfold behL; rw [nx_2 hc hG hn]; rfl
theorem caret_hi {p : PartL} (h0 : p.told ≠ 0) (h : p.told = 1 ∨ p.maj ≠ [48]) : caretL p = withL p 0 := by unfold caretL; rw [if_neg h0, if_pos h]
theorem caret_mid {p : PartL} (h0 : p.told ≠ 0) (h : ¬ (p.told = 1 ∨ p.maj ≠ [48])) (h2 : p.told = 2 ∨ p.min ≠ [48]) : caretL p = withL p 1 := by unfold caretL; rw [if_neg h0, if_neg h, if_pos h2]
theorem caret_lo {p : PartL} (h0 : p.told ≠ 0) (h : ¬ (p.told = 1 ∨ p.maj ≠ [48])) (h2 : ¬ (p.told = 2 ∨ p.min ≠ [48])) : caretL p = withL p 2 := by unfold caretL; rw [if_neg h0, if_neg h, if_neg h2]
theorem mean_164 (p : PartL) : meanL 164 p = caretL p := by unfold meanL; rw [if_neg (by decide), if_neg (by decide), if_neg (by decide), if_neg (by decide), if_neg (by decide), if_neg (by decide)]
theorem told_pD (a b c : List UInt8) (pr : List (List UInt8)) (n : Nat) : (pD a b c pr n).told = n := rfl
theorem maj_pD {a b c : List UInt8} {pr : List (List UInt8)} {n : Nat} (h : a ≠ []) : (pD a b c pr n).maj = a := zN_self h
theorem min_pD {a b c : List UInt8} {pr : List (List UInt8)} {n : Nat} (h : b ≠ []) : (pD a b c pr n).min = b := zN_self h
def opFn (op : List UInt8) (f : Nat) : Prop := (op, f) ∈ ([([], 160), ([61], 160), ([60], 161), ([60, 61], 87), ([62], 162), ([62, 61], 85), ([126], 163), ([94], 164)] : List (List UInt8 × Nat))

theorem mean_e_eq0_0 (a b c : List UInt8) (pr : List (List UInt8)) (hG : GoodP (pD a b c pr 0)) : meanL 160 (pD a b c pr 0) = [] := by
  show equalL (pD a b c pr 0) = _
  rfl

theorem mean_eq0_0 (a b c : List UInt8) (pr : List (List UInt8)) (x : Option Addr) (n m : Nat) (w : World) (hA : ∀ b, w.heap.size ≤ b → A b) (ht : Txt w (.slice x n m) pr) (hc : CapA A (.slice x n m)) (l1 : a.length ≤ 1024) (l2 : b.length ≤ 1024) (l3 : c.length ≤ 1024) (hG : GoodP (pD a b c pr 0)) :
    Calls Tryz.prog 98 #[.string (ofL []), .agg #[.string (ofL a), .string (ofL b), .string (ofL c), .slice x n m, .int .i64 (0 : Nat)]] w (CompsR A w (meanL 160 (pD a b c pr 0))) := by
  have h := means_eq0_0 (A := A) (ofL []) (ofL_data _) a b c pr x n m w hA ht hc l1 l2 l3
  have e : meanL 160 (pD a b c pr 0) = _ := mean_e_eq0_0 a b c pr hG
  rw [e]
  exact h

theorem mean_e_eq0_1 (a b c : List UInt8) (pr : List (List UInt8)) (ha : a ≠ []) (hG : GoodP (pD a b c pr 1)) : meanL 160 (pD a b c pr 1) = [(4, (⟨zN a, zN b, zN c, pr, []⟩ : SemL)), (1, nxD a b c 0)] := by
  show equalL (pD a b c pr 1) = _
  show [((4 : Int), begL (pD a b c pr 1)), (1, behL (pD a b c pr 1) 0)] = _
  rw [beh_0 ha hG (by decide)]
  rfl

theorem mean_eq0_1 (a b c : List UInt8) (pr : List (List UInt8)) (x : Option Addr) (n m : Nat) (w : World) (hA : ∀ b, w.heap.size ≤ b → A b) (ht : Txt w (.slice x n m) pr) (hc : CapA A (.slice x n m)) (l1 : a.length ≤ 1024) (l2 : b.length ≤ 1024) (l3 : c.length ≤ 1024) (ha : a ≠ []) (hG : GoodP (pD a b c pr 1)) :
    Calls Tryz.prog 98 #[.string (ofL []), .agg #[.string (ofL a), .string (ofL b), .string (ofL c), .slice x n m, .int .i64 (1 : Nat)]] w (CompsR A w (meanL 160 (pD a b c pr 1))) := by
  have h := means_eq0_1 (A := A) (ofL []) (ofL_data _) a b c pr x n m w hA ht hc l1 l2 l3
  have e : meanL 160 (pD a b c pr 1) = _ := mean_e_eq0_1 a b c pr ha hG
  rw [e]
  exact h

theorem mean_e_eq0_2 (a b c : List UInt8) (pr : List (List UInt8)) (ha : a ≠ []) (hb : b ≠ []) (hG : GoodP (pD a b c pr 2)) : meanL 160 (pD a b c pr 2) = [(4, (⟨zN a, zN b, zN c, pr, []⟩ : SemL)), (1, nxD a b c 1)] := by
  show equalL (pD a b c pr 2) = _
  show [((4 : Int), begL (pD a b c pr 2)), (1, behL (pD a b c pr 2) 1)] = _
  rw [beh_1 hb hG (by decide)]
  rfl

theorem mean_eq0_2 (a b c : List UInt8) (pr : List (List UInt8)) (x : Option Addr) (n m : Nat) (w : World) (hA : ∀ b, w.heap.size ≤ b → A b) (ht : Txt w (.slice x n m) pr) (hc : CapA A (.slice x n m)) (l1 : a.length ≤ 1024) (l2 : b.length ≤ 1024) (l3 : c.length ≤ 1024) (ha : a ≠ []) (hb : b ≠ []) (hG : GoodP (pD a b c pr 2)) :
    Calls Tryz.prog 98 #[.string (ofL []), .agg #[.string (ofL a), .string (ofL b), .string (ofL c), .slice x n m, .int .i64 (2 : Nat)]] w (CompsR A w (meanL 160 (pD a b c pr 2))) := by
  have h := means_eq0_2 (A := A) (ofL []) (ofL_data _) a b c pr x n m w hA ht hc l1 l2 l3
  have e : meanL 160 (pD a b c pr 2) = _ := mean_e_eq0_2 a b c pr ha hb hG
  rw [e]
  exact h

theorem mean_e_eq0_3 (a b c : List UInt8) (pr : List (List UInt8)) (ha : a ≠ []) (hb : b ≠ []) (h3 : c ≠ []) (hG : GoodP (pD a b c pr 3)) : meanL 160 (pD a b c pr 3) = [(5, (⟨zN a, zN b, zN c, pr, []⟩ : SemL))] := by
  show equalL (pD a b c pr 3) = _
  rfl

theorem mean_eq0_3 (a b c : List UInt8) (pr : List (List UInt8)) (x : Option Addr) (n m : Nat) (w : World) (hA : ∀ b, w.heap.size ≤ b → A b) (ht : Txt w (.slice x n m) pr) (hc : CapA A (.slice x n m)) (l1 : a.length ≤ 1024) (l2 : b.length ≤ 1024) (l3 : c.length ≤ 1024) (ha : a ≠ []) (hb : b ≠ []) (h3 : c ≠ []) (hG : GoodP (pD a b c pr 3)) :
    Calls Tryz.prog 98 #[.string (ofL []), .agg #[.string (ofL a), .string (ofL b), .string (ofL c), .slice x n m, .int .i64 (3 : Nat)]] w (CompsR A w (meanL 160 (pD a b c pr 3))) := by
  have h := means_eq0_3 (A := A) (ofL []) (ofL_data _) a b c pr x n m w hA ht hc l1 l2 l3
  have e : meanL 160 (pD a b c pr 3) = _ := mean_e_eq0_3 a b c pr ha hb h3 hG
  rw [e]
  exact h

theorem mean_e_eq1_0 (a b c : List UInt8) (pr : List (List UInt8)) (hG : GoodP (pD a b c pr 0)) : meanL 160 (pD a b c pr 0) = [] := by
  show equalL (pD a b c pr 0) = _
  rfl

theorem mean_eq1_0 (a b c : List UInt8) (pr : List (List UInt8)) (x : Option Addr) (n m : Nat) (w : World) (hA : ∀ b, w.heap.size ≤ b → A b) (ht : Txt w (.slice x n m) pr) (hc : CapA A (.slice x n m)) (l1 : a.length ≤ 1024) (l2 : b.length ≤ 1024) (l3 : c.length ≤ 1024) (hG : GoodP (pD a b c pr 0)) :
    Calls Tryz.prog 98 #[.string (ofL [61]), .agg #[.string (ofL a), .string (ofL b), .string (ofL c), .slice x n m, .int .i64 (0 : Nat)]] w (CompsR A w (meanL 160 (pD a b c pr 0))) := by
  have h := means_eq1_0 (A := A) (ofL [61]) (ofL_data _) a b c pr x n m w hA ht hc l1 l2 l3
  have e : meanL 160 (pD a b c pr 0) = _ := mean_e_eq1_0 a b c pr hG
  rw [e]
  exact h

theorem mean_e_eq1_1 (a b c : List UInt8) (pr : List (List UInt8)) (ha : a ≠ []) (hG : GoodP (pD a b c pr 1)) : meanL 160 (pD a b c pr 1) = [(4, (⟨zN a, zN b, zN c, pr, []⟩ : SemL)), (1, nxD a b c 0)] := by
  show equalL (pD a b c pr 1) = _
  show [((4 : Int), begL (pD a b c pr 1)), (1, behL (pD a b c pr 1) 0)] = _
  rw [beh_0 ha hG (by decide)]
  rfl

theorem mean_eq1_1 (a b c : List UInt8) (pr : List (List UInt8)) (x : Option Addr) (n m : Nat) (w : World) (hA : ∀ b, w.heap.size ≤ b → A b) (ht : Txt w (.slice x n m) pr) (hc : CapA A (.slice x n m)) (l1 : a.length ≤ 1024) (l2 : b.length ≤ 1024) (l3 : c.length ≤ 1024) (ha : a ≠ []) (hG : GoodP (pD a b c pr 1)) :
    Calls Tryz.prog 98 #[.string (ofL [61]), .agg #[.string (ofL a), .string (ofL b), .string (ofL c), .slice x n m, .int .i64 (1 : Nat)]] w (CompsR A w (meanL 160 (pD a b c pr 1))) := by
  have h := means_eq1_1 (A := A) (ofL [61]) (ofL_data _) a b c pr x n m w hA ht hc l1 l2 l3
  have e : meanL 160 (pD a b c pr 1) = _ := mean_e_eq1_1 a b c pr ha hG
  rw [e]
  exact h

theorem mean_e_eq1_2 (a b c : List UInt8) (pr : List (List UInt8)) (ha : a ≠ []) (hb : b ≠ []) (hG : GoodP (pD a b c pr 2)) : meanL 160 (pD a b c pr 2) = [(4, (⟨zN a, zN b, zN c, pr, []⟩ : SemL)), (1, nxD a b c 1)] := by
  show equalL (pD a b c pr 2) = _
  show [((4 : Int), begL (pD a b c pr 2)), (1, behL (pD a b c pr 2) 1)] = _
  rw [beh_1 hb hG (by decide)]
  rfl

theorem mean_eq1_2 (a b c : List UInt8) (pr : List (List UInt8)) (x : Option Addr) (n m : Nat) (w : World) (hA : ∀ b, w.heap.size ≤ b → A b) (ht : Txt w (.slice x n m) pr) (hc : CapA A (.slice x n m)) (l1 : a.length ≤ 1024) (l2 : b.length ≤ 1024) (l3 : c.length ≤ 1024) (ha : a ≠ []) (hb : b ≠ []) (hG : GoodP (pD a b c pr 2)) :
    Calls Tryz.prog 98 #[.string (ofL [61]), .agg #[.string (ofL a), .string (ofL b), .string (ofL c), .slice x n m, .int .i64 (2 : Nat)]] w (CompsR A w (meanL 160 (pD a b c pr 2))) := by
  have h := means_eq1_2 (A := A) (ofL [61]) (ofL_data _) a b c pr x n m w hA ht hc l1 l2 l3
  have e : meanL 160 (pD a b c pr 2) = _ := mean_e_eq1_2 a b c pr ha hb hG
  rw [e]
  exact h

theorem mean_e_eq1_3 (a b c : List UInt8) (pr : List (List UInt8)) (ha : a ≠ []) (hb : b ≠ []) (h3 : c ≠ []) (hG : GoodP (pD a b c pr 3)) : meanL 160 (pD a b c pr 3) = [(5, (⟨zN a, zN b, zN c, pr, []⟩ : SemL))] := by
  show equalL (pD a b c pr 3) = _
  rfl

theorem mean_eq1_3 (a b c : List UInt8) (pr : List (List UInt8)) (x : Option Addr) (n m : Nat) (w : World) (hA : ∀ b, w.heap.size ≤ b → A b) (ht : Txt w (.slice x n m) pr) (hc : CapA A (.slice x n m)) (l1 : a.length ≤ 1024) (l2 : b.length ≤ 1024) (l3 : c.length ≤ 1024) (ha : a ≠ []) (hb : b ≠ []) (h3 : c ≠ []) (hG : GoodP (pD a b c pr 3)) :
    Calls Tryz.prog 98 #[.string (ofL [61]), .agg #[.string (ofL a), .string (ofL b), .string (ofL c), .slice x n m, .int .i64 (3 : Nat)]] w (CompsR A w (meanL 160 (pD a b c pr 3))) := by
  have h := means_eq1_3 (A := A) (ofL [61]) (ofL_data _) a b c pr x n m w hA ht hc l1 l2 l3
  have e : meanL 160 (pD a b c pr 3) = _ := mean_e_eq1_3 a b c pr ha hb h3 hG
  rw [e]
  exact h

theorem mean_e_less_0 (a b c : List UInt8) (pr : List (List UInt8)) (hG : GoodP (pD a b c pr 0)) : meanL 161 (pD a b c pr 0) = noneL := by
  show lessL (pD a b c pr 0) = _
  rfl

theorem mean_less_0 (a b c : List UInt8) (pr : List (List UInt8)) (x : Option Addr) (n m : Nat) (w : World) (hA : ∀ b, w.heap.size ≤ b → A b) (ht : Txt w (.slice x n m) pr) (hc : CapA A (.slice x n m)) (l1 : a.length ≤ 1024) (l2 : b.length ≤ 1024) (l3 : c.length ≤ 1024) (hG : GoodP (pD a b c pr 0)) :
    Calls Tryz.prog 98 #[.string (ofL [60]), .agg #[.string (ofL a), .string (ofL b), .string (ofL c), .slice x n m, .int .i64 (0 : Nat)]] w (CompsR A w (meanL 161 (pD a b c pr 0))) := by
  have h := means_less_0 (A := A) (ofL [60]) (ofL_data _) a b c pr x n m w hA ht hc l1 l2 l3
  have e : meanL 161 (pD a b c pr 0) = _ := mean_e_less_0 a b c pr hG
  rw [e]
  exact h

theorem mean_e_less_1 (a b c : List UInt8) (pr : List (List UInt8)) (ha : a ≠ []) (hG : GoodP (pD a b c pr 1)) : meanL 161 (pD a b c pr 1) = [(1, (⟨zN a, zN b, zN c, [[48]], []⟩ : SemL))] := by
  show lessL (pD a b c pr 1) = _
  rfl

theorem mean_less_1 (a b c : List UInt8) (pr : List (List UInt8)) (x : Option Addr) (n m : Nat) (w : World) (hA : ∀ b, w.heap.size ≤ b → A b) (ht : Txt w (.slice x n m) pr) (hc : CapA A (.slice x n m)) (l1 : a.length ≤ 1024) (l2 : b.length ≤ 1024) (l3 : c.length ≤ 1024) (ha : a ≠ []) (hG : GoodP (pD a b c pr 1)) :
    Calls Tryz.prog 98 #[.string (ofL [60]), .agg #[.string (ofL a), .string (ofL b), .string (ofL c), .slice x n m, .int .i64 (1 : Nat)]] w (CompsR A w (meanL 161 (pD a b c pr 1))) := by
  have h := means_less_1 (A := A) (ofL [60]) (ofL_data _) a b c pr x n m w hA ht hc l1 l2 l3
  have e : meanL 161 (pD a b c pr 1) = _ := mean_e_less_1 a b c pr ha hG
  rw [e]
  exact h

theorem mean_e_less_2 (a b c : List UInt8) (pr : List (List UInt8)) (ha : a ≠ []) (hb : b ≠ []) (hG : GoodP (pD a b c pr 2)) : meanL 161 (pD a b c pr 2) = [(1, (⟨zN a, zN b, zN c, [[48]], []⟩ : SemL))] := by
  show lessL (pD a b c pr 2) = _
  rfl

theorem mean_less_2 (a b c : List UInt8) (pr : List (List UInt8)) (x : Option Addr) (n m : Nat) (w : World) (hA : ∀ b, w.heap.size ≤ b → A b) (ht : Txt w (.slice x n m) pr) (hc : CapA A (.slice x n m)) (l1 : a.length ≤ 1024) (l2 : b.length ≤ 1024) (l3 : c.length ≤ 1024) (ha : a ≠ []) (hb : b ≠ []) (hG : GoodP (pD a b c pr 2)) :
    Calls Tryz.prog 98 #[.string (ofL [60]), .agg #[.string (ofL a), .string (ofL b), .string (ofL c), .slice x n m, .int .i64 (2 : Nat)]] w (CompsR A w (meanL 161 (pD a b c pr 2))) := by
  have h := means_less_2 (A := A) (ofL [60]) (ofL_data _) a b c pr x n m w hA ht hc l1 l2 l3
  have e : meanL 161 (pD a b c pr 2) = _ := mean_e_less_2 a b c pr ha hb hG
  rw [e]
  exact h

theorem mean_e_less_3 (a b c : List UInt8) (pr : List (List UInt8)) (ha : a ≠ []) (hb : b ≠ []) (h3 : c ≠ []) (hG : GoodP (pD a b c pr 3)) : meanL 161 (pD a b c pr 3) = [(1, (⟨zN a, zN b, zN c, pr, []⟩ : SemL))] := by
  show lessL (pD a b c pr 3) = _
  rfl

theorem mean_less_3 (a b c : List UInt8) (pr : List (List UInt8)) (x : Option Addr) (n m : Nat) (w : World) (hA : ∀ b, w.heap.size ≤ b → A b) (ht : Txt w (.slice x n m) pr) (hc : CapA A (.slice x n m)) (l1 : a.length ≤ 1024) (l2 : b.length ≤ 1024) (l3 : c.length ≤ 1024) (ha : a ≠ []) (hb : b ≠ []) (h3 : c ≠ []) (hG : GoodP (pD a b c pr 3)) :
    Calls Tryz.prog 98 #[.string (ofL [60]), .agg #[.string (ofL a), .string (ofL b), .string (ofL c), .slice x n m, .int .i64 (3 : Nat)]] w (CompsR A w (meanL 161 (pD a b c pr 3))) := by
  have h := means_less_3 (A := A) (ofL [60]) (ofL_data _) a b c pr x n m w hA ht hc l1 l2 l3
  have e : meanL 161 (pD a b c pr 3) = _ := mean_e_less_3 a b c pr ha hb h3 hG
  rw [e]
  exact h

theorem mean_e_upto_0 (a b c : List UInt8) (pr : List (List UInt8)) (hG : GoodP (pD a b c pr 0)) : meanL 87 (pD a b c pr 0) = [] := by
  show upToL (pD a b c pr 0) = _
  rfl

theorem mean_upto_0 (a b c : List UInt8) (pr : List (List UInt8)) (x : Option Addr) (n m : Nat) (w : World) (hA : ∀ b, w.heap.size ≤ b → A b) (ht : Txt w (.slice x n m) pr) (hc : CapA A (.slice x n m)) (l1 : a.length ≤ 1024) (l2 : b.length ≤ 1024) (l3 : c.length ≤ 1024) (hG : GoodP (pD a b c pr 0)) :
    Calls Tryz.prog 98 #[.string (ofL [60, 61]), .agg #[.string (ofL a), .string (ofL b), .string (ofL c), .slice x n m, .int .i64 (0 : Nat)]] w (CompsR A w (meanL 87 (pD a b c pr 0))) := by
  have h := means_upto_0 (A := A) (ofL [60, 61]) (ofL_data _) a b c pr x n m w hA ht hc l1 l2 l3
  have e : meanL 87 (pD a b c pr 0) = _ := mean_e_upto_0 a b c pr hG
  rw [e]
  exact h

theorem mean_e_upto_1 (a b c : List UInt8) (pr : List (List UInt8)) (ha : a ≠ []) (hG : GoodP (pD a b c pr 1)) : meanL 87 (pD a b c pr 1) = [(1, (⟨(nxD a b c 0).maj, (nxD a b c 0).min, (nxD a b c 0).pat, [[48]], []⟩ : SemL))] := by
  show upToL (pD a b c pr 1) = _
  show [((1 : Int), behL (pD a b c pr 1) 0)] = _
  rw [beh_0 ha hG (by decide)]
  rfl

theorem mean_upto_1 (a b c : List UInt8) (pr : List (List UInt8)) (x : Option Addr) (n m : Nat) (w : World) (hA : ∀ b, w.heap.size ≤ b → A b) (ht : Txt w (.slice x n m) pr) (hc : CapA A (.slice x n m)) (l1 : a.length ≤ 1024) (l2 : b.length ≤ 1024) (l3 : c.length ≤ 1024) (ha : a ≠ []) (hG : GoodP (pD a b c pr 1)) :
    Calls Tryz.prog 98 #[.string (ofL [60, 61]), .agg #[.string (ofL a), .string (ofL b), .string (ofL c), .slice x n m, .int .i64 (1 : Nat)]] w (CompsR A w (meanL 87 (pD a b c pr 1))) := by
  have h := means_upto_1 (A := A) (ofL [60, 61]) (ofL_data _) a b c pr x n m w hA ht hc l1 l2 l3
  have e : meanL 87 (pD a b c pr 1) = _ := mean_e_upto_1 a b c pr ha hG
  rw [e]
  exact h

theorem mean_e_upto_2 (a b c : List UInt8) (pr : List (List UInt8)) (ha : a ≠ []) (hb : b ≠ []) (hG : GoodP (pD a b c pr 2)) : meanL 87 (pD a b c pr 2) = [(1, (⟨(nxD a b c 1).maj, (nxD a b c 1).min, (nxD a b c 1).pat, [[48]], []⟩ : SemL))] := by
  show upToL (pD a b c pr 2) = _
  show [((1 : Int), behL (pD a b c pr 2) 1)] = _
  rw [beh_1 hb hG (by decide)]
  rfl

theorem mean_upto_2 (a b c : List UInt8) (pr : List (List UInt8)) (x : Option Addr) (n m : Nat) (w : World) (hA : ∀ b, w.heap.size ≤ b → A b) (ht : Txt w (.slice x n m) pr) (hc : CapA A (.slice x n m)) (l1 : a.length ≤ 1024) (l2 : b.length ≤ 1024) (l3 : c.length ≤ 1024) (ha : a ≠ []) (hb : b ≠ []) (hG : GoodP (pD a b c pr 2)) :
    Calls Tryz.prog 98 #[.string (ofL [60, 61]), .agg #[.string (ofL a), .string (ofL b), .string (ofL c), .slice x n m, .int .i64 (2 : Nat)]] w (CompsR A w (meanL 87 (pD a b c pr 2))) := by
  have h := means_upto_2 (A := A) (ofL [60, 61]) (ofL_data _) a b c pr x n m w hA ht hc l1 l2 l3
  have e : meanL 87 (pD a b c pr 2) = _ := mean_e_upto_2 a b c pr ha hb hG
  rw [e]
  exact h

theorem mean_e_upto_3 (a b c : List UInt8) (pr : List (List UInt8)) (ha : a ≠ []) (hb : b ≠ []) (h3 : c ≠ []) (hG : GoodP (pD a b c pr 3)) : meanL 87 (pD a b c pr 3) = [(2, (⟨zN a, zN b, zN c, pr, []⟩ : SemL))] := by
  show upToL (pD a b c pr 3) = _
  rfl

theorem mean_upto_3 (a b c : List UInt8) (pr : List (List UInt8)) (x : Option Addr) (n m : Nat) (w : World) (hA : ∀ b, w.heap.size ≤ b → A b) (ht : Txt w (.slice x n m) pr) (hc : CapA A (.slice x n m)) (l1 : a.length ≤ 1024) (l2 : b.length ≤ 1024) (l3 : c.length ≤ 1024) (ha : a ≠ []) (hb : b ≠ []) (h3 : c ≠ []) (hG : GoodP (pD a b c pr 3)) :
    Calls Tryz.prog 98 #[.string (ofL [60, 61]), .agg #[.string (ofL a), .string (ofL b), .string (ofL c), .slice x n m, .int .i64 (3 : Nat)]] w (CompsR A w (meanL 87 (pD a b c pr 3))) := by
  have h := means_upto_3 (A := A) (ofL [60, 61]) (ofL_data _) a b c pr x n m w hA ht hc l1 l2 l3
  have e : meanL 87 (pD a b c pr 3) = _ := mean_e_upto_3 a b c pr ha hb h3 hG
  rw [e]
  exact h

theorem mean_e_more_0 (a b c : List UInt8) (pr : List (List UInt8)) (hG : GoodP (pD a b c pr 0)) : meanL 162 (pD a b c pr 0) = noneL := by
  show moreL (pD a b c pr 0) = _
  rfl

theorem mean_more_0 (a b c : List UInt8) (pr : List (List UInt8)) (x : Option Addr) (n m : Nat) (w : World) (hA : ∀ b, w.heap.size ≤ b → A b) (ht : Txt w (.slice x n m) pr) (hc : CapA A (.slice x n m)) (l1 : a.length ≤ 1024) (l2 : b.length ≤ 1024) (l3 : c.length ≤ 1024) (hG : GoodP (pD a b c pr 0)) :
    Calls Tryz.prog 98 #[.string (ofL [62]), .agg #[.string (ofL a), .string (ofL b), .string (ofL c), .slice x n m, .int .i64 (0 : Nat)]] w (CompsR A w (meanL 162 (pD a b c pr 0))) := by
  have h := means_more_0 (A := A) (ofL [62]) (ofL_data _) a b c pr x n m w hA ht hc l1 l2 l3
  have e : meanL 162 (pD a b c pr 0) = _ := mean_e_more_0 a b c pr hG
  rw [e]
  exact h

theorem mean_e_more_1 (a b c : List UInt8) (pr : List (List UInt8)) (ha : a ≠ []) (hG : GoodP (pD a b c pr 1)) : meanL 162 (pD a b c pr 1) = [(4, (⟨(nxD a b c 0).maj, (nxD a b c 0).min, (nxD a b c 0).pat, [], []⟩ : SemL))] := by
  show moreL (pD a b c pr 1) = _
  show [((4 : Int), nextW (begL (pD a b c pr 1)) 0)] = _
  rw [nx_0 ha hG (by decide)]

theorem mean_more_1 (a b c : List UInt8) (pr : List (List UInt8)) (x : Option Addr) (n m : Nat) (w : World) (hA : ∀ b, w.heap.size ≤ b → A b) (ht : Txt w (.slice x n m) pr) (hc : CapA A (.slice x n m)) (l1 : a.length ≤ 1024) (l2 : b.length ≤ 1024) (l3 : c.length ≤ 1024) (ha : a ≠ []) (hG : GoodP (pD a b c pr 1)) :
    Calls Tryz.prog 98 #[.string (ofL [62]), .agg #[.string (ofL a), .string (ofL b), .string (ofL c), .slice x n m, .int .i64 (1 : Nat)]] w (CompsR A w (meanL 162 (pD a b c pr 1))) := by
  have h := means_more_1 (A := A) (ofL [62]) (ofL_data _) a b c pr x n m w hA ht hc l1 l2 l3
  have e : meanL 162 (pD a b c pr 1) = _ := mean_e_more_1 a b c pr ha hG
  rw [e]
  exact h

theorem mean_e_more_2 (a b c : List UInt8) (pr : List (List UInt8)) (ha : a ≠ []) (hb : b ≠ []) (hG : GoodP (pD a b c pr 2)) : meanL 162 (pD a b c pr 2) = [(4, (⟨(nxD a b c 1).maj, (nxD a b c 1).min, (nxD a b c 1).pat, [], []⟩ : SemL))] := by
  show moreL (pD a b c pr 2) = _
  show [((4 : Int), nextW (begL (pD a b c pr 2)) 1)] = _
  rw [nx_1 hb hG (by decide)]

theorem mean_more_2 (a b c : List UInt8) (pr : List (List UInt8)) (x : Option Addr) (n m : Nat) (w : World) (hA : ∀ b, w.heap.size ≤ b → A b) (ht : Txt w (.slice x n m) pr) (hc : CapA A (.slice x n m)) (l1 : a.length ≤ 1024) (l2 : b.length ≤ 1024) (l3 : c.length ≤ 1024) (ha : a ≠ []) (hb : b ≠ []) (hG : GoodP (pD a b c pr 2)) :
    Calls Tryz.prog 98 #[.string (ofL [62]), .agg #[.string (ofL a), .string (ofL b), .string (ofL c), .slice x n m, .int .i64 (2 : Nat)]] w (CompsR A w (meanL 162 (pD a b c pr 2))) := by
  have h := means_more_2 (A := A) (ofL [62]) (ofL_data _) a b c pr x n m w hA ht hc l1 l2 l3
  have e : meanL 162 (pD a b c pr 2) = _ := mean_e_more_2 a b c pr ha hb hG
  rw [e]
  exact h

theorem mean_e_more_3 (a b c : List UInt8) (pr : List (List UInt8)) (ha : a ≠ []) (hb : b ≠ []) (h3 : c ≠ []) (hG : GoodP (pD a b c pr 3)) : meanL 162 (pD a b c pr 3) = [(3, (⟨zN a, zN b, zN c, pr, []⟩ : SemL))] := by
  show moreL (pD a b c pr 3) = _
  rfl

theorem mean_more_3 (a b c : List UInt8) (pr : List (List UInt8)) (x : Option Addr) (n m : Nat) (w : World) (hA : ∀ b, w.heap.size ≤ b → A b) (ht : Txt w (.slice x n m) pr) (hc : CapA A (.slice x n m)) (l1 : a.length ≤ 1024) (l2 : b.length ≤ 1024) (l3 : c.length ≤ 1024) (ha : a ≠ []) (hb : b ≠ []) (h3 : c ≠ []) (hG : GoodP (pD a b c pr 3)) :
    Calls Tryz.prog 98 #[.string (ofL [62]), .agg #[.string (ofL a), .string (ofL b), .string (ofL c), .slice x n m, .int .i64 (3 : Nat)]] w (CompsR A w (meanL 162 (pD a b c pr 3))) := by
  have h := means_more_3 (A := A) (ofL [62]) (ofL_data _) a b c pr x n m w hA ht hc l1 l2 l3
  have e : meanL 162 (pD a b c pr 3) = _ := mean_e_more_3 a b c pr ha hb h3 hG
  rw [e]
  exact h

theorem mean_e_from_0 (a b c : List UInt8) (pr : List (List UInt8)) (hG : GoodP (pD a b c pr 0)) : meanL 85 (pD a b c pr 0) = [] := by
  show fromL (pD a b c pr 0) = _
  rfl

theorem mean_from_0 (a b c : List UInt8) (pr : List (List UInt8)) (x : Option Addr) (n m : Nat) (w : World) (hA : ∀ b, w.heap.size ≤ b → A b) (ht : Txt w (.slice x n m) pr) (hc : CapA A (.slice x n m)) (l1 : a.length ≤ 1024) (l2 : b.length ≤ 1024) (l3 : c.length ≤ 1024) (hG : GoodP (pD a b c pr 0)) :
    Calls Tryz.prog 98 #[.string (ofL [62, 61]), .agg #[.string (ofL a), .string (ofL b), .string (ofL c), .slice x n m, .int .i64 (0 : Nat)]] w (CompsR A w (meanL 85 (pD a b c pr 0))) := by
  have h := means_from_0 (A := A) (ofL [62, 61]) (ofL_data _) a b c pr x n m w hA ht hc l1 l2 l3
  have e : meanL 85 (pD a b c pr 0) = _ := mean_e_from_0 a b c pr hG
  rw [e]
  exact h

theorem mean_e_from_1 (a b c : List UInt8) (pr : List (List UInt8)) (ha : a ≠ []) (hG : GoodP (pD a b c pr 1)) : meanL 85 (pD a b c pr 1) = [(4, (⟨zN a, zN b, zN c, pr, []⟩ : SemL))] := by
  show fromL (pD a b c pr 1) = _
  rfl

theorem mean_from_1 (a b c : List UInt8) (pr : List (List UInt8)) (x : Option Addr) (n m : Nat) (w : World) (hA : ∀ b, w.heap.size ≤ b → A b) (ht : Txt w (.slice x n m) pr) (hc : CapA A (.slice x n m)) (l1 : a.length ≤ 1024) (l2 : b.length ≤ 1024) (l3 : c.length ≤ 1024) (ha : a ≠ []) (hG : GoodP (pD a b c pr 1)) :
    Calls Tryz.prog 98 #[.string (ofL [62, 61]), .agg #[.string (ofL a), .string (ofL b), .string (ofL c), .slice x n m, .int .i64 (1 : Nat)]] w (CompsR A w (meanL 85 (pD a b c pr 1))) := by
  have h := means_from_1 (A := A) (ofL [62, 61]) (ofL_data _) a b c pr x n m w hA ht hc l1 l2 l3
  have e : meanL 85 (pD a b c pr 1) = _ := mean_e_from_1 a b c pr ha hG
  rw [e]
  exact h

theorem mean_e_from_2 (a b c : List UInt8) (pr : List (List UInt8)) (ha : a ≠ []) (hb : b ≠ []) (hG : GoodP (pD a b c pr 2)) : meanL 85 (pD a b c pr 2) = [(4, (⟨zN a, zN b, zN c, pr, []⟩ : SemL))] := by
  show fromL (pD a b c pr 2) = _
  rfl

theorem mean_from_2 (a b c : List UInt8) (pr : List (List UInt8)) (x : Option Addr) (n m : Nat) (w : World) (hA : ∀ b, w.heap.size ≤ b → A b) (ht : Txt w (.slice x n m) pr) (hc : CapA A (.slice x n m)) (l1 : a.length ≤ 1024) (l2 : b.length ≤ 1024) (l3 : c.length ≤ 1024) (ha : a ≠ []) (hb : b ≠ []) (hG : GoodP (pD a b c pr 2)) :
    Calls Tryz.prog 98 #[.string (ofL [62, 61]), .agg #[.string (ofL a), .string (ofL b), .string (ofL c), .slice x n m, .int .i64 (2 : Nat)]] w (CompsR A w (meanL 85 (pD a b c pr 2))) := by
  have h := means_from_2 (A := A) (ofL [62, 61]) (ofL_data _) a b c pr x n m w hA ht hc l1 l2 l3
  have e : meanL 85 (pD a b c pr 2) = _ := mean_e_from_2 a b c pr ha hb hG
  rw [e]
  exact h

theorem mean_e_from_3 (a b c : List UInt8) (pr : List (List UInt8)) (ha : a ≠ []) (hb : b ≠ []) (h3 : c ≠ []) (hG : GoodP (pD a b c pr 3)) : meanL 85 (pD a b c pr 3) = [(4, (⟨zN a, zN b, zN c, pr, []⟩ : SemL))] := by
  show fromL (pD a b c pr 3) = _
  rfl

theorem mean_from_3 (a b c : List UInt8) (pr : List (List UInt8)) (x : Option Addr) (n m : Nat) (w : World) (hA : ∀ b, w.heap.size ≤ b → A b) (ht : Txt w (.slice x n m) pr) (hc : CapA A (.slice x n m)) (l1 : a.length ≤ 1024) (l2 : b.length ≤ 1024) (l3 : c.length ≤ 1024) (ha : a ≠ []) (hb : b ≠ []) (h3 : c ≠ []) (hG : GoodP (pD a b c pr 3)) :
    Calls Tryz.prog 98 #[.string (ofL [62, 61]), .agg #[.string (ofL a), .string (ofL b), .string (ofL c), .slice x n m, .int .i64 (3 : Nat)]] w (CompsR A w (meanL 85 (pD a b c pr 3))) := by
  have h := means_from_3 (A := A) (ofL [62, 61]) (ofL_data _) a b c pr x n m w hA ht hc l1 l2 l3
  have e : meanL 85 (pD a b c pr 3) = _ := mean_e_from_3 a b c pr ha hb h3 hG
  rw [e]
  exact h

theorem mean_e_tilde_0 (a b c : List UInt8) (pr : List (List UInt8)) (hG : GoodP (pD a b c pr 0)) : meanL 163 (pD a b c pr 0) = [] := by
  show tildeL (pD a b c pr 0) = _
  rfl

theorem mean_tilde_0 (a b c : List UInt8) (pr : List (List UInt8)) (x : Option Addr) (n m : Nat) (w : World) (hA : ∀ b, w.heap.size ≤ b → A b) (ht : Txt w (.slice x n m) pr) (hc : CapA A (.slice x n m)) (l1 : a.length ≤ 1024) (l2 : b.length ≤ 1024) (l3 : c.length ≤ 1024) (hG : GoodP (pD a b c pr 0)) :
    Calls Tryz.prog 98 #[.string (ofL [126]), .agg #[.string (ofL a), .string (ofL b), .string (ofL c), .slice x n m, .int .i64 (0 : Nat)]] w (CompsR A w (meanL 163 (pD a b c pr 0))) := by
  have h := means_tilde_0 (A := A) (ofL [126]) (ofL_data _) a b c pr x n m w hA ht hc l1 l2 l3
  have e : meanL 163 (pD a b c pr 0) = _ := mean_e_tilde_0 a b c pr hG
  rw [e]
  exact h

theorem mean_e_tilde_1 (a b c : List UInt8) (pr : List (List UInt8)) (ha : a ≠ []) (hG : GoodP (pD a b c pr 1)) : meanL 163 (pD a b c pr 1) = [(4, (⟨zN a, zN b, zN c, pr, []⟩ : SemL)), (1, nxD a b c 0)] := by
  show tildeL (pD a b c pr 1) = _
  show [((4 : Int), begL (pD a b c pr 1)), (1, behL (pD a b c pr 1) 0)] = _
  rw [beh_0 ha hG (by decide)]
  rfl

theorem mean_tilde_1 (a b c : List UInt8) (pr : List (List UInt8)) (x : Option Addr) (n m : Nat) (w : World) (hA : ∀ b, w.heap.size ≤ b → A b) (ht : Txt w (.slice x n m) pr) (hc : CapA A (.slice x n m)) (l1 : a.length ≤ 1024) (l2 : b.length ≤ 1024) (l3 : c.length ≤ 1024) (ha : a ≠ []) (hG : GoodP (pD a b c pr 1)) :
    Calls Tryz.prog 98 #[.string (ofL [126]), .agg #[.string (ofL a), .string (ofL b), .string (ofL c), .slice x n m, .int .i64 (1 : Nat)]] w (CompsR A w (meanL 163 (pD a b c pr 1))) := by
  have h := means_tilde_1 (A := A) (ofL [126]) (ofL_data _) a b c pr x n m w hA ht hc l1 l2 l3
  have e : meanL 163 (pD a b c pr 1) = _ := mean_e_tilde_1 a b c pr ha hG
  rw [e]
  exact h

theorem mean_e_tilde_2 (a b c : List UInt8) (pr : List (List UInt8)) (ha : a ≠ []) (hb : b ≠ []) (hG : GoodP (pD a b c pr 2)) : meanL 163 (pD a b c pr 2) = [(4, (⟨zN a, zN b, zN c, pr, []⟩ : SemL)), (1, nxD a b c 1)] := by
  show tildeL (pD a b c pr 2) = _
  show [((4 : Int), begL (pD a b c pr 2)), (1, behL (pD a b c pr 2) 1)] = _
  rw [beh_1 hb hG (by decide)]
  rfl

theorem mean_tilde_2 (a b c : List UInt8) (pr : List (List UInt8)) (x : Option Addr) (n m : Nat) (w : World) (hA : ∀ b, w.heap.size ≤ b → A b) (ht : Txt w (.slice x n m) pr) (hc : CapA A (.slice x n m)) (l1 : a.length ≤ 1024) (l2 : b.length ≤ 1024) (l3 : c.length ≤ 1024) (ha : a ≠ []) (hb : b ≠ []) (hG : GoodP (pD a b c pr 2)) :
    Calls Tryz.prog 98 #[.string (ofL [126]), .agg #[.string (ofL a), .string (ofL b), .string (ofL c), .slice x n m, .int .i64 (2 : Nat)]] w (CompsR A w (meanL 163 (pD a b c pr 2))) := by
  have h := means_tilde_2 (A := A) (ofL [126]) (ofL_data _) a b c pr x n m w hA ht hc l1 l2 l3
  have e : meanL 163 (pD a b c pr 2) = _ := mean_e_tilde_2 a b c pr ha hb hG
  rw [e]
  exact h

theorem mean_e_tilde_3 (a b c : List UInt8) (pr : List (List UInt8)) (ha : a ≠ []) (hb : b ≠ []) (h3 : c ≠ []) (hG : GoodP (pD a b c pr 3)) : meanL 163 (pD a b c pr 3) = [(4, (⟨zN a, zN b, zN c, pr, []⟩ : SemL)), (1, nxD a b c 1)] := by
  show tildeL (pD a b c pr 3) = _
  show [((4 : Int), begL (pD a b c pr 3)), (1, behL (pD a b c pr 3) 1)] = _
  rw [beh_1 hb hG (by decide)]
  rfl

theorem mean_tilde_3 (a b c : List UInt8) (pr : List (List UInt8)) (x : Option Addr) (n m : Nat) (w : World) (hA : ∀ b, w.heap.size ≤ b → A b) (ht : Txt w (.slice x n m) pr) (hc : CapA A (.slice x n m)) (l1 : a.length ≤ 1024) (l2 : b.length ≤ 1024) (l3 : c.length ≤ 1024) (ha : a ≠ []) (hb : b ≠ []) (h3 : c ≠ []) (hG : GoodP (pD a b c pr 3)) :
    Calls Tryz.prog 98 #[.string (ofL [126]), .agg #[.string (ofL a), .string (ofL b), .string (ofL c), .slice x n m, .int .i64 (3 : Nat)]] w (CompsR A w (meanL 163 (pD a b c pr 3))) := by
  have h := means_tilde_3 (A := A) (ofL [126]) (ofL_data _) a b c pr x n m w hA ht hc l1 l2 l3
  have e : meanL 163 (pD a b c pr 3) = _ := mean_e_tilde_3 a b c pr ha hb h3 hG
  rw [e]
  exact h

theorem mean_e_caret_0 (a b c : List UInt8) (pr : List (List UInt8)) (hG : GoodP (pD a b c pr 0)) : meanL 164 (pD a b c pr 0) = [] := by
  show caretL (pD a b c pr 0) = _
  rfl

theorem mean_caret_0 (a b c : List UInt8) (pr : List (List UInt8)) (x : Option Addr) (n m : Nat) (w : World) (hA : ∀ b, w.heap.size ≤ b → A b) (ht : Txt w (.slice x n m) pr) (hc : CapA A (.slice x n m)) (l1 : a.length ≤ 1024) (l2 : b.length ≤ 1024) (l3 : c.length ≤ 1024) (hG : GoodP (pD a b c pr 0)) :
    Calls Tryz.prog 98 #[.string (ofL [94]), .agg #[.string (ofL a), .string (ofL b), .string (ofL c), .slice x n m, .int .i64 (0 : Nat)]] w (CompsR A w (meanL 164 (pD a b c pr 0))) := by
  have h := means_caret_0 (A := A) (ofL [94]) (ofL_data _) a b c pr x n m w hA ht hc l1 l2 l3
  have e : meanL 164 (pD a b c pr 0) = _ := mean_e_caret_0 a b c pr hG
  rw [e]
  exact h

theorem mean_e_caret_1 (a b c : List UInt8) (pr : List (List UInt8)) (ha : a ≠ []) (hG : GoodP (pD a b c pr 1)) : meanL 164 (pD a b c pr 1) = [(4, (⟨zN a, zN b, zN c, pr, []⟩ : SemL)), (1, nxD a b c 0)] := by
  rw [mean_164, caret_hi (by rw [told_pD]; decide) (.inl (told_pD _ _ _ _ _))]
  show [((4 : Int), begL (pD a b c pr 1)), (1, behL (pD a b c pr 1) 0)] = _
  rw [beh_0 ha hG (by decide)]
  rfl

theorem mean_caret_1 (a b c : List UInt8) (pr : List (List UInt8)) (x : Option Addr) (n m : Nat) (w : World) (hA : ∀ b, w.heap.size ≤ b → A b) (ht : Txt w (.slice x n m) pr) (hc : CapA A (.slice x n m)) (l1 : a.length ≤ 1024) (l2 : b.length ≤ 1024) (l3 : c.length ≤ 1024) (ha : a ≠ []) (hG : GoodP (pD a b c pr 1)) :
    Calls Tryz.prog 98 #[.string (ofL [94]), .agg #[.string (ofL a), .string (ofL b), .string (ofL c), .slice x n m, .int .i64 (1 : Nat)]] w (CompsR A w (meanL 164 (pD a b c pr 1))) := by
  have h := means_caret_1 (A := A) (ofL [94]) (ofL_data _) a b c pr x n m w hA ht hc l1 l2 l3
  have e : meanL 164 (pD a b c pr 1) = _ := mean_e_caret_1 a b c pr ha hG
  rw [e]
  exact h

theorem mean_caret_2 (a b c : List UInt8) (pr : List (List UInt8)) (x : Option Addr) (n m : Nat) (w : World) (hA : ∀ b, w.heap.size ≤ b → A b) (ht : Txt w (.slice x n m) pr) (hc : CapA A (.slice x n m)) (l1 : a.length ≤ 1024) (l2 : b.length ≤ 1024) (l3 : c.length ≤ 1024) (ha : a ≠ []) (hb : b ≠ []) (hG : GoodP (pD a b c pr 2)) :
    Calls Tryz.prog 98 #[.string (ofL [94]), .agg #[.string (ofL a), .string (ofL b), .string (ofL c), .slice x n m, .int .i64 (2 : Nat)]] w (CompsR A w (meanL 164 (pD a b c pr 2))) := by
  rw [mean_164]
  by_cases ha0 : a = [48]
  · rw [caret_mid (by rw [told_pD]; decide) (by rw [told_pD, maj_pD ha, ha0]; simp) (.inl (told_pD _ _ _ _ _))]
    have h := (means_caret_2z (A := A) (ofL [94]) (ofL_data _) a b c pr x n m w hA ht hc l1 l2 l3 ha0)
    unfold withL
    rw [beh_1 hb hG (by decide)]
    exact h
  · rw [caret_hi (by rw [told_pD]; decide) (.inr (by rw [maj_pD ha]; exact ha0))]
    have h := (means_caret_2n (A := A) (ofL [94]) (ofL_data _) a b c pr x n m w hA ht hc l1 l2 l3 ha0)
    unfold withL
    rw [beh_0 ha hG (by decide)]
    exact h

theorem mean_caret_3 (a b c : List UInt8) (pr : List (List UInt8)) (x : Option Addr) (n m : Nat) (w : World) (hA : ∀ b, w.heap.size ≤ b → A b) (ht : Txt w (.slice x n m) pr) (hc : CapA A (.slice x n m)) (l1 : a.length ≤ 1024) (l2 : b.length ≤ 1024) (l3 : c.length ≤ 1024) (ha : a ≠ []) (hb : b ≠ []) (h3 : c ≠ []) (hG : GoodP (pD a b c pr 3)) :
    Calls Tryz.prog 98 #[.string (ofL [94]), .agg #[.string (ofL a), .string (ofL b), .string (ofL c), .slice x n m, .int .i64 (3 : Nat)]] w (CompsR A w (meanL 164 (pD a b c pr 3))) := by
  rw [mean_164]
  by_cases ha0 : a = [48]
  · by_cases hb0 : b = [48]
    · rw [caret_lo (by rw [told_pD]; decide) (by rw [told_pD, maj_pD ha, ha0]; simp) (by rw [told_pD, min_pD hb, hb0]; simp)]
      have h := (means_caret_3zz (A := A) (ofL [94]) (ofL_data _) a b c pr x n m w hA ht hc l1 l2 l3 ha0 hb0)
      unfold withL
      rw [beh_2 h3 hG (by decide)]
      exact h
    · rw [caret_mid (by rw [told_pD]; decide) (by rw [told_pD, maj_pD ha, ha0]; simp) (.inr (by rw [min_pD hb]; exact hb0))]
      have h := (means_caret_3zn (A := A) (ofL [94]) (ofL_data _) a b c pr x n m w hA ht hc l1 l2 l3 ha0 hb0)
      unfold withL
      rw [beh_1 hb hG (by decide)]
      exact h
  · rw [caret_hi (by rw [told_pD]; decide) (.inr (by rw [maj_pD ha]; exact ha0))]
    have h := (means_caret_3n (A := A) (ofL [94]) (ofL_data _) a b c pr x n m w hA ht hc l1 l2 l3 ha0)
    unfold withL
    rw [beh_0 ha hG (by decide)]
    exact h

theorem meansN_any (op : List UInt8) (f : Nat) (hop : opFn op f) (a b c : List UInt8) (pr : List (List UInt8)) (x : Option Addr) (n m N : Nat) (hN : N ≤ 3) (w : World) (hA : ∀ b, w.heap.size ≤ b → A b) (ht : Txt w (.slice x n m) pr) (hc : CapA A (.slice x n m)) (l1 : a.length ≤ 1024) (l2 : b.length ≤ 1024) (l3 : c.length ≤ 1024) (h1 : 1 ≤ N → a ≠ []) (h2 : 2 ≤ N → b ≠ []) (h3 : 3 ≤ N → c ≠ []) (hG : GoodP (pD a b c pr N)) :
    Calls Tryz.prog 98 #[.string (ofL op), .agg #[.string (ofL a), .string (ofL b), .string (ofL c), .slice x n m, .int .i64 (N : Nat)]] w (CompsR A w (meanL f (pD a b c pr N))) := by
  unfold opFn at hop
  simp only [List.mem_cons, Prod.mk.injEq, List.not_mem_nil, or_false] at hop
  rcases (by omega : N = 0 ∨ N = 1 ∨ N = 2 ∨ N = 3) with rfl | rfl | rfl | rfl <;> rcases hop with ⟨rfl, rfl⟩ | ⟨rfl, rfl⟩ | ⟨rfl, rfl⟩ | ⟨rfl, rfl⟩ | ⟨rfl, rfl⟩ | ⟨rfl, rfl⟩ | ⟨rfl, rfl⟩ | ⟨rfl, rfl⟩
  · exact mean_eq0_0 a b c pr x n m w hA ht hc l1 l2 l3 hG
  · exact mean_eq1_0 a b c pr x n m w hA ht hc l1 l2 l3 hG
  · exact mean_less_0 a b c pr x n m w hA ht hc l1 l2 l3 hG
  · exact mean_upto_0 a b c pr x n m w hA ht hc l1 l2 l3 hG
  · exact mean_more_0 a b c pr x n m w hA ht hc l1 l2 l3 hG
  · exact mean_from_0 a b c pr x n m w hA ht hc l1 l2 l3 hG
  · exact mean_tilde_0 a b c pr x n m w hA ht hc l1 l2 l3 hG
  · exact mean_caret_0 a b c pr x n m w hA ht hc l1 l2 l3 hG
  · exact mean_eq0_1 a b c pr x n m w hA ht hc l1 l2 l3 (h1 (by omega)) hG
  · exact mean_eq1_1 a b c pr x n m w hA ht hc l1 l2 l3 (h1 (by omega)) hG
  · exact mean_less_1 a b c pr x n m w hA ht hc l1 l2 l3 (h1 (by omega)) hG
  · exact mean_upto_1 a b c pr x n m w hA ht hc l1 l2 l3 (h1 (by omega)) hG
  · exact mean_more_1 a b c pr x n m w hA ht hc l1 l2 l3 (h1 (by omega)) hG
  · exact mean_from_1 a b c pr x n m w hA ht hc l1 l2 l3 (h1 (by omega)) hG
  · exact mean_tilde_1 a b c pr x n m w hA ht hc l1 l2 l3 (h1 (by omega)) hG
  · exact mean_caret_1 a b c pr x n m w hA ht hc l1 l2 l3 (h1 (by omega)) hG
  · exact mean_eq0_2 a b c pr x n m w hA ht hc l1 l2 l3 (h1 (by omega)) (h2 (by omega)) hG
  · exact mean_eq1_2 a b c pr x n m w hA ht hc l1 l2 l3 (h1 (by omega)) (h2 (by omega)) hG
  · exact mean_less_2 a b c pr x n m w hA ht hc l1 l2 l3 (h1 (by omega)) (h2 (by omega)) hG
  · exact mean_upto_2 a b c pr x n m w hA ht hc l1 l2 l3 (h1 (by omega)) (h2 (by omega)) hG
  · exact mean_more_2 a b c pr x n m w hA ht hc l1 l2 l3 (h1 (by omega)) (h2 (by omega)) hG
  · exact mean_from_2 a b c pr x n m w hA ht hc l1 l2 l3 (h1 (by omega)) (h2 (by omega)) hG
  · exact mean_tilde_2 a b c pr x n m w hA ht hc l1 l2 l3 (h1 (by omega)) (h2 (by omega)) hG
  · exact mean_caret_2 a b c pr x n m w hA ht hc l1 l2 l3 (h1 (by omega)) (h2 (by omega)) hG
  · exact mean_eq0_3 a b c pr x n m w hA ht hc l1 l2 l3 (h1 (by omega)) (h2 (by omega)) (h3 (by omega)) hG
  · exact mean_eq1_3 a b c pr x n m w hA ht hc l1 l2 l3 (h1 (by omega)) (h2 (by omega)) (h3 (by omega)) hG
  · exact mean_less_3 a b c pr x n m w hA ht hc l1 l2 l3 (h1 (by omega)) (h2 (by omega)) (h3 (by omega)) hG
  · exact mean_upto_3 a b c pr x n m w hA ht hc l1 l2 l3 (h1 (by omega)) (h2 (by omega)) (h3 (by omega)) hG
  · exact mean_more_3 a b c pr x n m w hA ht hc l1 l2 l3 (h1 (by omega)) (h2 (by omega)) (h3 (by omega)) hG
  · exact mean_from_3 a b c pr x n m w hA ht hc l1 l2 l3 (h1 (by omega)) (h2 (by omega)) (h3 (by omega)) hG
  · exact mean_tilde_3 a b c pr x n m w hA ht hc l1 l2 l3 (h1 (by omega)) (h2 (by omega)) (h3 (by omega)) hG
  · exact mean_caret_3 a b c pr x n m w hA ht hc l1 l2 l3 (h1 (by omega)) (h2 (by omega)) (h3 (by omega)) hG

end Go.Proofs.YtpdlgiioahjhiaaGreat

namespace Go.Proofs.YtpdlgiioahjhiaaGreat
open Go.RowKit Go.Shelf
set_option linter.unusedVariables false


def wrongD (pre : Bool) (l x : List UInt8) (e : Nat) : Int := if x = [] then misL l.length e else if (pre && zeroB x) = true then (if l.length ≤ e then 11 else 14) else 0
def idsD (pre : Bool) (l : List UInt8) (L : Nat) : List (Nat × Nat) → Nat × Int
  | [] => (0, 0)
  | x :: r => if L < x.2 then (L, 12) else if wrongD pre l (seg l x.1 x.2) x.2 ≠ 0 then (x.2, wrongD pre l (seg l x.1 x.2) x.2) else if r = [] then (x.2, 0) else if L ≤ x.2 then (x.2, 12) else idsD pre l L r
def GoodD (pre : Bool) (l : List UInt8) (L : Nat) (xs : List (Nat × Nat)) : Prop := ∀ x ∈ xs, x.2 < L ∧ wrongD pre l (seg l x.1 x.2) x.2 = 0
theorem idsD_app (pre : Bool) (l : List UInt8) (L : Nat) : ∀ xs ys : List (Nat × Nat), GoodD pre l L xs → ys ≠ [] → idsD pre l L (xs ++ ys) = idsD pre l L ys
  | [], _, _, _ => rfl
  | x :: r, ys, h, hy => by
    have hx := h x List.mem_cons_self
    rw [List.cons_append, idsD, if_neg (by omega), if_neg (by rw [hx.2]; exact fun h => h rfl), if_neg (by simp [hy]), if_neg (by omega)]
    exact idsD_app pre l L r ys (fun y hy' => h y (List.mem_cons_of_mem _ hy')) hy
theorem segs_head (l : List UInt8) (k j : Nat) (hj : k + idL (l.drop k) = j) : ∃ r, segs l k = (k, j) :: r ∧ (r = [] ↔ ¬ l[j]? = some 46) := by
  by_cases h : l[j]? = some 46
  · exact ⟨_, segs_dot l k j hj h, by simp [h, segs_ne]⟩
  · exact ⟨_, segs_last l k j hj h, by simp [h]⟩
section
variable {pre : Bool} {l : List UInt8} {L a k j : Nat} {done : List (Nat × Nat)}
theorem idD_long (hd : done ++ segs l k = segs l a) (hg : GoodD pre l L done) (hj : L < k + idL (l.drop k)) : idsD pre l L (segs l a) = (L, 12) := by
  obtain ⟨r, h1, h2⟩ := segs_head l k _ rfl
  rw [← hd, idsD_app pre l L _ _ hg (segs_ne l k), h1, idsD, if_pos hj]
theorem idD_none (hd : done ++ segs l k = segs l a) (hg : GoodD pre l L done) (hj : k + idL (l.drop k) = k) (hk : k ≤ L) : idsD pre l L (segs l a) = (k, misL l.length k) := by
  obtain ⟨r, h1, h2⟩ := segs_head l k k hj
  have hw : wrongD pre l (seg l k k) k = misL l.length k := by unfold wrongD; rw [if_pos (seg_self l k)]
  rw [← hd, idsD_app pre l L _ _ hg (segs_ne l k), h1, idsD, if_neg (by simp; omega)]
  simp only [hw]
  rw [if_pos (misL_ne _ _)]
theorem idD_zero (hd : done ++ segs l k = segs l a) (hg : GoodD true l L done) (hj : k + idL (l.drop k) = j) (hk : j ≤ L) (hn : seg l k j ≠ []) (hz : zeroB (seg l k j) = true) : idsD true l L (segs l a) = (j, if l.length ≤ j then 11 else 14) := by
  obtain ⟨r, h1, h2⟩ := segs_head l k j hj
  have hw : wrongD true l (seg l k j) j = if l.length ≤ j then 11 else 14 := by unfold wrongD; rw [if_neg hn, hz]; simp
  rw [← hd, idsD_app true l L _ _ hg (segs_ne l k), h1, idsD, if_neg (by simp; omega)]
  simp only [hw]
  rw [if_pos (by split <;> decide)]
theorem wrongD_0 (hn : seg l k j ≠ []) (hz : (pre && zeroB (seg l k j)) = false) : wrongD pre l (seg l k j) j = 0 := by unfold wrongD; rw [if_neg hn, hz]; simp
theorem idD_last (hd : done ++ segs l k = segs l a) (hg : GoodD pre l L done) (hj : k + idL (l.drop k) = j) (hk : j ≤ L) (hw : wrongD pre l (seg l k j) j = 0) (hdot : atB l j 46 = false) : idsD pre l L (segs l a) = (j, 0) ∧ segs l a = done ++ [(k, j)] := by
  have hdot' : ¬ l[j]? = some 46 := fun h => by rw [(atB_iff l j 46).2 h] at hdot; cases hdot
  rw [← hd, idsD_app pre l L _ _ hg (segs_ne l k), segs_last l k j hj hdot', idsD, if_neg (by simp; omega)]
  simp only [hw]
  exact ⟨by simp, trivial⟩
theorem idD_dot (hd : done ++ segs l k = segs l a) (hg : GoodD pre l L done) (hj : k + idL (l.drop k) = j) (hk : j = L) (hw : wrongD pre l (seg l k j) j = 0) (hdot : atB l j 46 = true) : idsD pre l L (segs l a) = (j, 12) := by
  rw [← hd, idsD_app pre l L _ _ hg (segs_ne l k), segs_dot l k j hj ((atB_iff l j 46).1 hdot), idsD, if_neg (by simp; omega)]
  simp only [hw]
  rw [if_neg (by simp), if_neg (segs_ne l _), if_pos (by omega)]
theorem idD_next (hd : done ++ segs l k = segs l a) (hg : GoodD pre l L done) (hj : k + idL (l.drop k) = j) (hk : j < L) (hw : wrongD pre l (seg l k j) j = 0) (hdot : atB l j 46 = true) : (done ++ [(k, j)]) ++ segs l (j + 1) = segs l a ∧ GoodD pre l L (done ++ [(k, j)]) := by
  refine ⟨?_, ?_⟩
  · rw [← hd, segs_dot l k j hj ((atB_iff l j 46).1 hdot)]; simp
  · intro x hx
    rcases List.mem_append.1 hx with h | h
    · exact hg x h
    · rw [List.mem_singleton.1 h]; exact ⟨hk, hw⟩
end
theorem NrAt.alloc {W : World} {B : Nat} {s : ByteArray} {a : Nat} {e p : Int} (h : NrAt W B s a e p) (o : Obj) : NrAt (W.alloc o) B s a e p := (Below.heap_alloc W o B h.lt).trans h
theorem nr_grown {W W' : World} {B : Nat} {s : ByteArray} {a : Nat} {e p : Int} {row : Option Nat} (h : NrAt W B s a e p) (hg : W.grownBy W' row) (hr : row ≠ some B) : NrAt W' B s a e p := (hg.block B h.lt (fun e => hr e.symm)).trans h
def IdP (s : ByteArray) (pre : Bool) (a B p : Nat) (w : World) (r : Ending) (w' : World) : Prop :=
  NrAt w' B s (idsD pre s.data.toList (p + 48) (segs s.data.toList a)).1 (idsD pre s.data.toList (p + 48) (segs s.data.toList a)).2 p ∧ Turn B w w' ∧
    ((idsD pre s.data.toList (p + 48) (segs s.data.toList a)).2 = 0 ∧ (∃ v, r = .returned v ∧ w'.ownsRow w.heap.size 9 1 v (segs s.data.toList a).length (strs s (segs s.data.toList a)))
      ∨ (idsD pre s.data.toList (p + 48) (segs s.data.toList a)).2 ≠ 0 ∧ r = .returned (.slice none 0 0))
theorem idP_err {s : ByteArray} {pre : Bool} {a B p : Nat} {w w' : World} {x : Nat} {e : Int} (h : idsD pre s.data.toList (p + 48) (segs s.data.toList a) = (x, e)) (he : e ≠ 0) (h1 : NrAt w' B s x e p) (h2 : Turn B w w') : IdP s pre a B p w (.returned (.slice none 0 0)) w' := by
  unfold IdP; rw [h]; exact ⟨h1, h2, .inr ⟨he, rfl⟩⟩
theorem idP_ok {s : ByteArray} {pre : Bool} {a B p : Nat} {w w' : World} {v : Value} {xs : List (Nat × Nat)} {x : Nat} (h : idsD pre s.data.toList (p + 48) (segs s.data.toList a) = (x, 0) ∧ segs s.data.toList a = xs) (h0 : w'.ownsRow w.heap.size 9 1 v xs.length (strs s xs)) (h1 : NrAt w' B s x 0 p) (h2 : Turn B w w') : IdP s pre a B p w (.returned v) w' := by
  unfold IdP; rw [h.1, h.2]; exact ⟨h1, h2, .inl ⟨rfl, v, rfl, h0⟩⟩
theorem zeroB_eq (x : List UInt8) (hx : x ≠ []) : zeroB x = (decide (runL 1 x = x.length) && (x.head? == some 48) && decide (1 < x.length)) := by
  unfold zeroB digB
  cases x with
  | nil => exact absurd rfl hx
  | cons c r =>
    rw [show (runL 1 (c :: r) == (c :: r).length) = decide (runL 1 (c :: r) = (c :: r).length) from rfl]
    cases decide (runL 1 (c :: r) = (c :: r).length) <;> cases ((c :: r).head? == some 48) <;> cases decide (1 < (c :: r).length) <;> rfl

end Go.Proofs.YtpdlgiioahjhiaaGreat

namespace Go.Proofs.YtpdlgiioahjhiaaGreat
open Go.RowKit Go.Shelf
set_option linter.unusedVariables false


theorem get_sh (X Y : List UInt8) (i : Nat) : (X ++ Y)[X.length + i]? = Y[i]? := by
  rw [List.getElem?_append_right (by omega)]; congr 1; omega
theorem drop_sh (X Y : List UInt8) (i : Nat) : (X ++ Y).drop (X.length + i) = Y.drop i := by
  rw [← List.drop_drop, drop_app]
theorem seg_sh (X Y : List UInt8) (a b : Nat) : seg (X ++ Y) (X.length + a) (X.length + b) = seg Y a b := by
  unfold seg
  rw [List.take_length_add_append, drop_sh]
theorem mis_sh (n m e : Nat) : misL (n + m) (n + e) = misL m e := by
  unfold misL
  by_cases h : e = m
  · rw [if_pos h, if_pos (by omega)]
  · rw [if_neg h, if_neg (by omega)]
def shP (n : Nat) (x : Nat × Nat) : Nat × Nat := (n + x.1, n + x.2)
theorem segs_sh (X Y : List UInt8) : ∀ n i, Y.length - i = n → segs (X ++ Y) (X.length + i) = (segs Y i).map (shP X.length) := by
  intro n
  induction n using Nat.strongRecOn with
  | _ n ih =>
    intro i hn
    have hj : X.length + i + idL ((X ++ Y).drop (X.length + i)) = X.length + (i + idL (Y.drop i)) := by rw [drop_sh]; omega
    by_cases h : Y[i + idL (Y.drop i)]? = some 46
    · have hlt := (List.getElem?_eq_some_iff.1 h).1
      rw [segs_dot Y i _ rfl h, segs_dot (X ++ Y) _ _ hj (by rw [get_sh]; exact h), Nat.add_assoc, ih (Y.length - (i + idL (Y.drop i) + 1)) (by omega) _ rfl]
      rfl
    · rw [segs_last Y i _ rfl h, segs_last (X ++ Y) _ _ hj (by rw [get_sh]; exact h)]
      rfl
theorem wrongL_sh (p : Bool) (X Y : List UInt8) (a e : Nat) : wrongL p (X ++ Y) (seg (X ++ Y) (X.length + a) (X.length + e)) (X.length + e) = wrongL p Y (seg Y a e) e := by
  unfold wrongL
  rw [seg_sh, get_sh, List.length_append, mis_sh]
theorem bad_sh (p : Bool) (X Y : List UInt8) : ∀ xs : List (Nat × Nat), badOf p (X ++ Y) (xs.map (shP X.length)) = (badOf p Y xs).map fun y => (y.1, X.length + y.2)
  | [] => rfl
  | x :: r => by
    rw [List.map_cons, badOf, badOf]
    unfold shP
    rw [wrongL_sh]
    by_cases h : wrongL p Y (seg Y x.1 x.2) x.2 = 0
    · rw [if_pos h, if_pos h]; exact bad_sh p X Y r
    · rw [if_neg h, if_neg h]; rfl
theorem last_sh (n z : Nat) (xs : List (Nat × Nat)) : lastE (n + z) (xs.map (shP n)) = n + lastE z xs := by
  unfold lastE
  rw [List.getLast?_map]
  cases xs.getLast? <;> rfl
theorem wrongD_sh (p : Bool) (X Y : List UInt8) (a e : Nat) : wrongD p (X ++ Y) (seg (X ++ Y) (X.length + a) (X.length + e)) (X.length + e) = wrongD p Y (seg Y a e) e := by
  unfold wrongD
  rw [seg_sh, List.length_append, mis_sh]
  have h9 : (if X.length + Y.length ≤ X.length + e then (11 : Int) else 14) = if Y.length ≤ e then 11 else 14 := by
    by_cases h : Y.length ≤ e
    · rw [if_pos h, if_pos (by omega)]
    · rw [if_neg h, if_neg (by omega)]
  rw [h9]
theorem idsD_sh (p : Bool) (X Y : List UInt8) (L : Nat) : ∀ xs : List (Nat × Nat), xs ≠ [] → idsD p (X ++ Y) (X.length + L) (xs.map (shP X.length)) = (X.length + (idsD p Y L xs).1, (idsD p Y L xs).2)
  | [], h => absurd rfl h
  | x :: r, _ => by
    rw [List.map_cons, idsD, idsD]
    have h0 : shP X.length x = (X.length + x.1, X.length + x.2) := rfl
    rw [h0]
    simp only [wrongD_sh]
    by_cases h1 : L < x.2
    · rw [if_pos h1, if_pos (by omega)]
    · rw [if_neg h1, if_neg (by omega)]
      by_cases h2 : wrongD p Y (seg Y x.1 x.2) x.2 ≠ 0
      · rw [if_pos h2, if_pos h2]
      · rw [if_neg h2, if_neg h2]
        by_cases h3 : r = []
        · rw [if_pos h3, if_pos (by rw [h3]; rfl)]
        · rw [if_neg h3, if_neg (by simpa using h3)]
          by_cases h4 : L ≤ x.2
          · rw [if_pos h4, if_pos (by omega)]
          · rw [if_neg h4, if_neg (by omega)]
            exact idsD_sh p X Y L r h3
theorem forall_u8 {P : UInt8 → Prop} (h : ∀ n : Fin 256, P (UInt8.ofNat n.val)) (c : UInt8) : P c := by
  have := h ⟨c.toNat, c.toNat_lt⟩
  simpa using this
theorem preByte_cases (c : UInt8) : preByte c = true ↔ isId c = true ∨ c = 46 ∨ c = 43 := by
  exact forall_u8 (P := fun c => preByte c = true ↔ isId c = true ∨ c = 46 ∨ c = 43) (by decide +kernel) c
theorem idL_app : ∀ A B : List UInt8, (idL A < A.length → idL (A ++ B) = idL A) ∧ (idL A = A.length → idL (A ++ B) = A.length + idL B)
  | [], B => ⟨fun h => by simp at h, fun _ => by simp⟩
  | c :: r, B => by
    have ih := idL_app r B
    cases hc : isId c
    · have h0 : idL (c :: r) = 0 := by unfold idL; rw [hc]; rfl
      have h1 : idL (c :: r ++ B) = 0 := by rw [List.cons_append]; unfold idL; rw [hc]; rfl
      exact ⟨fun _ => by rw [h0, h1], fun h => by rw [h0] at h; simp at h⟩
    · have h0 : ∀ q : List UInt8, idL (c :: q) = idL q + 1 := by
        intro q
        rw [idL, if_pos hc]
      have h1 := h0 (r ++ B)
      have h0 := h0 r
      rw [List.cons_append]
      rw [h0, h1]
      refine ⟨fun h => ?_, fun h => ?_⟩
      · rw [ih.1 (by simp at h; omega)]
      · rw [ih.2 (by simp at h; omega)]; simp; omega
theorem segs_ge (l : List UInt8) : ∀ n i, l.length - i = n → ∀ x ∈ segs l i, i + idL (l.drop i) ≤ x.2 := by
  intro n
  induction n using Nat.strongRecOn with
  | _ n ih =>
    intro i hn x hx
    by_cases h : l[i + idL (l.drop i)]? = some 46
    · have hlt := (List.getElem?_eq_some_iff.1 h).1
      rw [segs_dot l i _ rfl h] at hx
      rcases List.mem_cons.1 hx with rfl | hx
      · exact Nat.le_refl _
      · have := ih (l.length - (i + idL (l.drop i) + 1)) (by omega) _ rfl x hx
        omega
    · rw [segs_last l i _ rfl h] at hx
      rw [List.mem_singleton.1 hx]
      exact Nat.le_refl _
theorem last_cons (z : Nat) (x : Nat × Nat) (xs : List (Nat × Nat)) (h : xs ≠ []) : lastE z (x :: xs) = lastE z xs := by
  cases xs with
  | nil => exact absurd rfl h
  | cons y r => unfold lastE; rw [List.getLast?_cons_cons]

end Go.Proofs.YtpdlgiioahjhiaaGreat
