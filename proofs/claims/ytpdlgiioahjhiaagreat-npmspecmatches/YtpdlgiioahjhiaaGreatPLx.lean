/- Walks: what the document's operators mean is what the progra -/
import Derived.Test.YtpdlgiioahjhiaaGreatPLv
import Derived.Test.YtpdlgiioahjhiaaGreatPLw
import Derived.Test.YtpdlgiioahjhiaaGreatPKo
namespace Go.Proofs.YtpdlgiioahjhiaaGreat
open Go.RowKit Go.Shelf
open Go renaming World → QW
open Go.Proofs.Tryz (prog)
set_option linter.unusedVariables false
variable {A : Nat → Prop}
theorem qbkm {a : QB} (h : a ≠ []) : zN a = a := if_neg h
theorem incR_ne (l : QB) : incR l ≠ [] := by
 cases l with
 | nil => simp [incR]
 | cons c r => unfold incR; split <;> simp
theorem qbdc (l : QB) : qbp l ≠ [] := by
 unfold qbp;split
 ·unfold incL;simpa using incR_ne _
 ·simp
theorem qbkh {p : PartL} (h : GoodP p) (h0 : p.told ≠ 0) {k : Int} (hk : k = 0 ∨ k = 1 ∨ k = 2) : qgk (begL p) k = rais (begL p) k := by
 have hf : fitW (begL p) = true := (qrr (by have := h.s; omega) h.a h.b h.c h.d rfl).1
 have hw := h.w h0;have hr : fitW (rais (begL p) k) = true := by
  cases hx : fitW (rais (begL p) k)
  ·have := qbjw (begL p) k hk (by have := h.s; omega) hf hx
   simp only [begL] at this;omega
  ·rfl
 unfold qgk;rw [if_pos hf, if_pos hk, if_pos hr]
def pD (a b c : QB) (pr : List QB) (n : Nat) : PartL := ⟨zN a, zN b, zN c, pr, n⟩
theorem nx_0 {a b c : QB} {pr : List QB} {n : Nat} (ha : a ≠ []) (hG : GoodP (pD a b c pr n)) (hn : n ≠ 0) : qgk (begL (pD a b c pr n)) 0 = ⟨(nxD a b c 0).maj, (nxD a b c 0).min, (nxD a b c 0).pat, [], []⟩ := by
 rw [qbkh hG hn (k := 0) (by decide)]
 unfold rais pD begL nxD;simp [zN, ha, qbdc a]
theorem nx_1 {a b c : QB} {pr : List QB} {n : Nat} (hb : b ≠ []) (hG : GoodP (pD a b c pr n)) (hn : n ≠ 0) : qgk (begL (pD a b c pr n)) 1 = ⟨(nxD a b c 1).maj, (nxD a b c 1).min, (nxD a b c 1).pat, [], []⟩ := by
 rw [qbkh hG hn (k := 1) (by decide)]
 unfold rais pD begL nxD;simp [zN, hb, qbdc b]
theorem nx_2 {a b c : QB} {pr : List QB} {n : Nat} (hc : c ≠ []) (hG : GoodP (pD a b c pr n)) (hn : n ≠ 0) : qgk (begL (pD a b c pr n)) 2 = ⟨(nxD a b c 2).maj, (nxD a b c 2).min, (nxD a b c 2).pat, [], []⟩ := by
 rw [qbkh hG hn (k := 2) (by decide)]
 unfold rais pD begL nxD;simp [zN, hc, qbdc c]
theorem qbcl {a b c : QB} {pr : List QB} {n : Nat} (ha : a ≠ []) (hG : GoodP (pD a b c pr n)) (hn : n ≠ 0) : behL (pD a b c pr n) 0 = nxD a b c 0 := by unfold behL; rw [nx_0 ha hG hn]; rfl
theorem qbdx {a b c : QB} {pr : List QB} {n : Nat} (hb : b ≠ []) (hG : GoodP (pD a b c pr n)) (hn : n ≠ 0) : behL (pD a b c pr n) 1 = nxD a b c 1 := by unfold behL; rw [nx_1 hb hG hn]; rfl
theorem beh_2 {a b c : QB} {pr : List QB} {n : Nat} (hc : c ≠ []) (hG : GoodP (pD a b c pr n)) (hn : n ≠ 0) : behL (pD a b c pr n) 2 = nxD a b c 2 := by unfold behL; rw [nx_2 hc hG hn]; rfl
theorem qbdk {p : PartL} (h0 : p.told ≠ 0) (h : p.told = 1 ∨ p.maj ≠ [48]) : qgl p = qjf p 0 := by unfold qgl; rw [if_neg h0, if_pos h]
theorem qbhz {p : PartL} (h0 : p.told ≠ 0) (h : ¬ (p.told = 1 ∨ p.maj ≠ [48])) (h2 : p.told = 2 ∨ p.min ≠ [48]) : qgl p = qjf p 1 := by unfold qgl; rw [if_neg h0, if_neg h, if_pos h2]
theorem caret_lo {p : PartL} (h0 : p.told ≠ 0) (h : ¬ (p.told = 1 ∨ p.maj ≠ [48])) (h2 : ¬ (p.told = 2 ∨ p.min ≠ [48])) : qgl p = qjf p 2 := by unfold qgl; rw [if_neg h0, if_neg h, if_neg h2]
theorem qbdb (p : PartL) : qr 164 p = qgl p := by unfold qr; rw [if_neg (by decide), if_neg (by decide), if_neg (by decide), if_neg (by decide), if_neg (by decide), if_neg (by decide)]
theorem qhv (a b c : QB) (pr : List QB) (n : Nat) : (pD a b c pr n).told = n := rfl
theorem qbdv {a b c : QB} {pr : List QB} {n : Nat} (h : a ≠ []) : (pD a b c pr n).maj = a := qbkm h
theorem min_pD {a b c : QB} {pr : List QB} {n : Nat} (h : b ≠ []) : (pD a b c pr n).min = b := qbkm h
def opFn (op : QB) (f : Nat) : Prop := (op, f) ∈ ([([], 160), ([61], 160), ([60], 161), ([60, 61], 87), ([62], 162), ([62, 61], 85), ([126], 163), ([94], 164)] : List (QB × Nat))
theorem qbjz (a b c : QB) (pr : List QB) (hG : GoodP (pD a b c pr 0)) : qr 160 (pD a b c pr 0) = [] := by
 show qhq (pD a b c pr 0) = _
 rfl
theorem qbwl (a b c : QB) (pr : List QB) (x : Option Addr) (n m : Nat) (w : QW) (hA : ∀ b, w.heap.size ≤ b → A b) (ht : Txt w (.slice x n m) pr) (hc : CapA A (.slice x n m)) (l1 : a.length ≤ 1024) (l2 : b.length ≤ 1024) (l3 : c.length ≤ 1024) (hG : GoodP (pD a b c pr 0)) :
  Calls prog 98 #[.string (qg []), .agg #[.string (qg a), .string (qg b), .string (qg c), .slice x n m, .int .i64 (0 : Nat)]] w (qbd A w (qr 160 (pD a b c pr 0))) := by
 have h := qbqp (A := A) (qg []) (qj _) a b c pr x n m w hA ht hc l1 l2 l3;have e : qr 160 (pD a b c pr 0) = _ := qbjz a b c pr hG;rw [e];exact h
theorem qbks (a b c : QB) (pr : List QB) (ha : a ≠ []) (hG : GoodP (pD a b c pr 1)) : qr 160 (pD a b c pr 1) = [(4, (⟨zN a, zN b, zN c, pr, []⟩ : SemL)), (1, nxD a b c 0)] := by
 show qhq (pD a b c pr 1) = _;show [((4 : Int), begL (pD a b c pr 1)), (1, behL (pD a b c pr 1) 0)] = _;rw [qbcl ha hG (by decide)]
 rfl
theorem qbvf (a b c : QB) (pr : List QB) (x : Option Addr) (n m : Nat) (w : QW) (hA : ∀ b, w.heap.size ≤ b → A b) (ht : Txt w (.slice x n m) pr) (hc : CapA A (.slice x n m)) (l1 : a.length ≤ 1024) (l2 : b.length ≤ 1024) (l3 : c.length ≤ 1024) (ha : a ≠ []) (hG : GoodP (pD a b c pr 1)) :
  Calls prog 98 #[.string (qg []), .agg #[.string (qg a), .string (qg b), .string (qg c), .slice x n m, .int .i64 (1 : Nat)]] w (qbd A w (qr 160 (pD a b c pr 1))) := by
 have h := qbsr (A := A) (qg []) (qj _) a b c pr x n m w hA ht hc l1 l2 l3;have e : qr 160 (pD a b c pr 1) = _ := qbks a b c pr ha hG;rw [e];exact h
theorem qbnf (a b c : QB) (pr : List QB) (ha : a ≠ []) (hb : b ≠ []) (hG : GoodP (pD a b c pr 2)) : qr 160 (pD a b c pr 2) = [(4, (⟨zN a, zN b, zN c, pr, []⟩ : SemL)), (1, nxD a b c 1)] := by
 show qhq (pD a b c pr 2) = _;show [((4 : Int), begL (pD a b c pr 2)), (1, behL (pD a b c pr 2) 1)] = _;rw [qbdx hb hG (by decide)]
 rfl
theorem qbvq (a b c : QB) (pr : List QB) (x : Option Addr) (n m : Nat) (w : QW) (hA : ∀ b, w.heap.size ≤ b → A b) (ht : Txt w (.slice x n m) pr) (hc : CapA A (.slice x n m)) (l1 : a.length ≤ 1024) (l2 : b.length ≤ 1024) (l3 : c.length ≤ 1024) (ha : a ≠ []) (hb : b ≠ []) (hG : GoodP (pD a b c pr 2)) :
  Calls prog 98 #[.string (qg []), .agg #[.string (qg a), .string (qg b), .string (qg c), .slice x n m, .int .i64 (2 : Nat)]] w (qbd A w (qr 160 (pD a b c pr 2))) := by
 have h := qbst (A := A) (qg []) (qj _) a b c pr x n m w hA ht hc l1 l2 l3;have e : qr 160 (pD a b c pr 2) = _ := qbnf a b c pr ha hb hG;rw [e];exact h
theorem qbmr (a b c : QB) (pr : List QB) (ha : a ≠ []) (hb : b ≠ []) (h3 : c ≠ []) (hG : GoodP (pD a b c pr 3)) : qr 160 (pD a b c pr 3) = [(5, (⟨zN a, zN b, zN c, pr, []⟩ : SemL))] := by
 show qhq (pD a b c pr 3) = _
 rfl
theorem qbxb (a b c : QB) (pr : List QB) (x : Option Addr) (n m : Nat) (w : QW) (hA : ∀ b, w.heap.size ≤ b → A b) (ht : Txt w (.slice x n m) pr) (hc : CapA A (.slice x n m)) (l1 : a.length ≤ 1024) (l2 : b.length ≤ 1024) (l3 : c.length ≤ 1024) (ha : a ≠ []) (hb : b ≠ []) (h3 : c ≠ []) (hG : GoodP (pD a b c pr 3)) :
  Calls prog 98 #[.string (qg []), .agg #[.string (qg a), .string (qg b), .string (qg c), .slice x n m, .int .i64 (3 : Nat)]] w (qbd A w (qr 160 (pD a b c pr 3))) := by
 have h := qbqv (A := A) (qg []) (qj _) a b c pr x n m w hA ht hc l1 l2 l3;have e : qr 160 (pD a b c pr 3) = _ := qbmr a b c pr ha hb h3 hG;rw [e];exact h
theorem qbmc (a b c : QB) (pr : List QB) (hG : GoodP (pD a b c pr 0)) : qr 160 (pD a b c pr 0) = [] := by
 show qhq (pD a b c pr 0) = _
 rfl
theorem qbvn (a b c : QB) (pr : List QB) (x : Option Addr) (n m : Nat) (w : QW) (hA : ∀ b, w.heap.size ≤ b → A b) (ht : Txt w (.slice x n m) pr) (hc : CapA A (.slice x n m)) (l1 : a.length ≤ 1024) (l2 : b.length ≤ 1024) (l3 : c.length ≤ 1024) (hG : GoodP (pD a b c pr 0)) :
  Calls prog 98 #[.string (qg [61]), .agg #[.string (qg a), .string (qg b), .string (qg c), .slice x n m, .int .i64 (0 : Nat)]] w (qbd A w (qr 160 (pD a b c pr 0))) := by
 have h := qbsp (A := A) (qg [61]) (qj _) a b c pr x n m w hA ht hc l1 l2 l3;have e : qr 160 (pD a b c pr 0) = _ := qbmc a b c pr hG;rw [e];exact h
theorem qbmh (a b c : QB) (pr : List QB) (ha : a ≠ []) (hG : GoodP (pD a b c pr 1)) : qr 160 (pD a b c pr 1) = [(4, (⟨zN a, zN b, zN c, pr, []⟩ : SemL)), (1, nxD a b c 0)] := by
 show qhq (pD a b c pr 1) = _;show [((4 : Int), begL (pD a b c pr 1)), (1, behL (pD a b c pr 1) 0)] = _;rw [qbcl ha hG (by decide)]
 rfl
theorem qbwf (a b c : QB) (pr : List QB) (x : Option Addr) (n m : Nat) (w : QW) (hA : ∀ b, w.heap.size ≤ b → A b) (ht : Txt w (.slice x n m) pr) (hc : CapA A (.slice x n m)) (l1 : a.length ≤ 1024) (l2 : b.length ≤ 1024) (l3 : c.length ≤ 1024) (ha : a ≠ []) (hG : GoodP (pD a b c pr 1)) :
  Calls prog 98 #[.string (qg [61]), .agg #[.string (qg a), .string (qg b), .string (qg c), .slice x n m, .int .i64 (1 : Nat)]] w (qbd A w (qr 160 (pD a b c pr 1))) := by
 have h := qbpf (A := A) (qg [61]) (qj _) a b c pr x n m w hA ht hc l1 l2 l3;have e : qr 160 (pD a b c pr 1) = _ := qbmh a b c pr ha hG;rw [e];exact h
theorem qbkp (a b c : QB) (pr : List QB) (ha : a ≠ []) (hb : b ≠ []) (hG : GoodP (pD a b c pr 2)) : qr 160 (pD a b c pr 2) = [(4, (⟨zN a, zN b, zN c, pr, []⟩ : SemL)), (1, nxD a b c 1)] := by
 show qhq (pD a b c pr 2) = _;show [((4 : Int), begL (pD a b c pr 2)), (1, behL (pD a b c pr 2) 1)] = _;rw [qbdx hb hG (by decide)]
 rfl
theorem qbxn (a b c : QB) (pr : List QB) (x : Option Addr) (n m : Nat) (w : QW) (hA : ∀ b, w.heap.size ≤ b → A b) (ht : Txt w (.slice x n m) pr) (hc : CapA A (.slice x n m)) (l1 : a.length ≤ 1024) (l2 : b.length ≤ 1024) (l3 : c.length ≤ 1024) (ha : a ≠ []) (hb : b ≠ []) (hG : GoodP (pD a b c pr 2)) :
  Calls prog 98 #[.string (qg [61]), .agg #[.string (qg a), .string (qg b), .string (qg c), .slice x n m, .int .i64 (2 : Nat)]] w (qbd A w (qr 160 (pD a b c pr 2))) := by
 have h := qbpn (A := A) (qg [61]) (qj _) a b c pr x n m w hA ht hc l1 l2 l3;have e : qr 160 (pD a b c pr 2) = _ := qbkp a b c pr ha hb hG;rw [e];exact h
theorem qbkq (a b c : QB) (pr : List QB) (ha : a ≠ []) (hb : b ≠ []) (h3 : c ≠ []) (hG : GoodP (pD a b c pr 3)) : qr 160 (pD a b c pr 3) = [(5, (⟨zN a, zN b, zN c, pr, []⟩ : SemL))] := by
 show qhq (pD a b c pr 3) = _
 rfl
theorem qbvv (a b c : QB) (pr : List QB) (x : Option Addr) (n m : Nat) (w : QW) (hA : ∀ b, w.heap.size ≤ b → A b) (ht : Txt w (.slice x n m) pr) (hc : CapA A (.slice x n m)) (l1 : a.length ≤ 1024) (l2 : b.length ≤ 1024) (l3 : c.length ≤ 1024) (ha : a ≠ []) (hb : b ≠ []) (h3 : c ≠ []) (hG : GoodP (pD a b c pr 3)) :
  Calls prog 98 #[.string (qg [61]), .agg #[.string (qg a), .string (qg b), .string (qg c), .slice x n m, .int .i64 (3 : Nat)]] w (qbd A w (qr 160 (pD a b c pr 3))) := by
 have h := qbsx (A := A) (qg [61]) (qj _) a b c pr x n m w hA ht hc l1 l2 l3;have e : qr 160 (pD a b c pr 3) = _ := qbkq a b c pr ha hb h3 hG;rw [e];exact h
theorem qbfq (a b c : QB) (pr : List QB) (hG : GoodP (pD a b c pr 0)) : qr 161 (pD a b c pr 0) = qlx := by
 show qqj (pD a b c pr 0) = _
 rfl
theorem qbph (a b c : QB) (pr : List QB) (x : Option Addr) (n m : Nat) (w : QW) (hA : ∀ b, w.heap.size ≤ b → A b) (ht : Txt w (.slice x n m) pr) (hc : CapA A (.slice x n m)) (l1 : a.length ≤ 1024) (l2 : b.length ≤ 1024) (l3 : c.length ≤ 1024) (hG : GoodP (pD a b c pr 0)) :
  Calls prog 98 #[.string (qg [60]), .agg #[.string (qg a), .string (qg b), .string (qg c), .slice x n m, .int .i64 (0 : Nat)]] w (qbd A w (qr 161 (pD a b c pr 0))) := by
 have h := qbnb (A := A) (qg [60]) (qj _) a b c pr x n m w hA ht hc l1 l2 l3;have e : qr 161 (pD a b c pr 0) = _ := qbfq a b c pr hG;rw [e];exact h
theorem qbfz (a b c : QB) (pr : List QB) (ha : a ≠ []) (hG : GoodP (pD a b c pr 1)) : qr 161 (pD a b c pr 1) = [(1, (⟨zN a, zN b, zN c, [[48]], []⟩ : SemL))] := by
 show qqj (pD a b c pr 1) = _
 rfl
theorem qbnw (a b c : QB) (pr : List QB) (x : Option Addr) (n m : Nat) (w : QW) (hA : ∀ b, w.heap.size ≤ b → A b) (ht : Txt w (.slice x n m) pr) (hc : CapA A (.slice x n m)) (l1 : a.length ≤ 1024) (l2 : b.length ≤ 1024) (l3 : c.length ≤ 1024) (ha : a ≠ []) (hG : GoodP (pD a b c pr 1)) :
  Calls prog 98 #[.string (qg [60]), .agg #[.string (qg a), .string (qg b), .string (qg c), .slice x n m, .int .i64 (1 : Nat)]] w (qbd A w (qr 161 (pD a b c pr 1))) := by
 have h := qbnh (A := A) (qg [60]) (qj _) a b c pr x n m w hA ht hc l1 l2 l3;have e : qr 161 (pD a b c pr 1) = _ := qbfz a b c pr ha hG;rw [e];exact h
theorem qbgp (a b c : QB) (pr : List QB) (ha : a ≠ []) (hb : b ≠ []) (hG : GoodP (pD a b c pr 2)) : qr 161 (pD a b c pr 2) = [(1, (⟨zN a, zN b, zN c, [[48]], []⟩ : SemL))] := by
 show qqj (pD a b c pr 2) = _
 rfl
theorem qbqw (a b c : QB) (pr : List QB) (x : Option Addr) (n m : Nat) (w : QW) (hA : ∀ b, w.heap.size ≤ b → A b) (ht : Txt w (.slice x n m) pr) (hc : CapA A (.slice x n m)) (l1 : a.length ≤ 1024) (l2 : b.length ≤ 1024) (l3 : c.length ≤ 1024) (ha : a ≠ []) (hb : b ≠ []) (hG : GoodP (pD a b c pr 2)) :
  Calls prog 98 #[.string (qg [60]), .agg #[.string (qg a), .string (qg b), .string (qg c), .slice x n m, .int .i64 (2 : Nat)]] w (qbd A w (qr 161 (pD a b c pr 2))) := by
 have h := qblg (A := A) (qg [60]) (qj _) a b c pr x n m w hA ht hc l1 l2 l3;have e : qr 161 (pD a b c pr 2) = _ := qbgp a b c pr ha hb hG;rw [e];exact h
theorem qbgr (a b c : QB) (pr : List QB) (ha : a ≠ []) (hb : b ≠ []) (h3 : c ≠ []) (hG : GoodP (pD a b c pr 3)) : qr 161 (pD a b c pr 3) = [(1, (⟨zN a, zN b, zN c, pr, []⟩ : SemL))] := by
 show qqj (pD a b c pr 3) = _
 rfl
theorem qbqn (a b c : QB) (pr : List QB) (x : Option Addr) (n m : Nat) (w : QW) (hA : ∀ b, w.heap.size ≤ b → A b) (ht : Txt w (.slice x n m) pr) (hc : CapA A (.slice x n m)) (l1 : a.length ≤ 1024) (l2 : b.length ≤ 1024) (l3 : c.length ≤ 1024) (ha : a ≠ []) (hb : b ≠ []) (h3 : c ≠ []) (hG : GoodP (pD a b c pr 3)) :
  Calls prog 98 #[.string (qg [60]), .agg #[.string (qg a), .string (qg b), .string (qg c), .slice x n m, .int .i64 (3 : Nat)]] w (qbd A w (qr 161 (pD a b c pr 3))) := by
 have h := qbnq (A := A) (qg [60]) (qj _) a b c pr x n m w hA ht hc l1 l2 l3;have e : qr 161 (pD a b c pr 3) = _ := qbgr a b c pr ha hb h3 hG;rw [e];exact h
theorem qbgl (a b c : QB) (pr : List QB) (hG : GoodP (pD a b c pr 0)) : qr 87 (pD a b c pr 0) = [] := by
 show qqk (pD a b c pr 0) = _
 rfl
theorem qbsd (a b c : QB) (pr : List QB) (x : Option Addr) (n m : Nat) (w : QW) (hA : ∀ b, w.heap.size ≤ b → A b) (ht : Txt w (.slice x n m) pr) (hc : CapA A (.slice x n m)) (l1 : a.length ≤ 1024) (l2 : b.length ≤ 1024) (l3 : c.length ≤ 1024) (hG : GoodP (pD a b c pr 0)) :
  Calls prog 98 #[.string (qg [60, 61]), .agg #[.string (qg a), .string (qg b), .string (qg c), .slice x n m, .int .i64 (0 : Nat)]] w (qbd A w (qr 87 (pD a b c pr 0))) := by
 have h := qbmb (A := A) (qg [60, 61]) (qj _) a b c pr x n m w hA ht hc l1 l2 l3;have e : qr 87 (pD a b c pr 0) = _ := qbgl a b c pr hG;rw [e];exact h
theorem qbgj (a b c : QB) (pr : List QB) (ha : a ≠ []) (hG : GoodP (pD a b c pr 1)) : qr 87 (pD a b c pr 1) = [(1, (⟨(nxD a b c 0).maj, (nxD a b c 0).min, (nxD a b c 0).pat, [[48]], []⟩ : SemL))] := by
 show qqk (pD a b c pr 1) = _;show [((1 : Int), behL (pD a b c pr 1) 0)] = _;rw [qbcl ha hG (by decide)]
 rfl
theorem qbtk (a b c : QB) (pr : List QB) (x : Option Addr) (n m : Nat) (w : QW) (hA : ∀ b, w.heap.size ≤ b → A b) (ht : Txt w (.slice x n m) pr) (hc : CapA A (.slice x n m)) (l1 : a.length ≤ 1024) (l2 : b.length ≤ 1024) (l3 : c.length ≤ 1024) (ha : a ≠ []) (hG : GoodP (pD a b c pr 1)) :
  Calls prog 98 #[.string (qg [60, 61]), .agg #[.string (qg a), .string (qg b), .string (qg c), .slice x n m, .int .i64 (1 : Nat)]] w (qbd A w (qr 87 (pD a b c pr 1))) := by
 have h := qbnr (A := A) (qg [60, 61]) (qj _) a b c pr x n m w hA ht hc l1 l2 l3;have e : qr 87 (pD a b c pr 1) = _ := qbgj a b c pr ha hG;rw [e];exact h
theorem qbgg (a b c : QB) (pr : List QB) (ha : a ≠ []) (hb : b ≠ []) (hG : GoodP (pD a b c pr 2)) : qr 87 (pD a b c pr 2) = [(1, (⟨(nxD a b c 1).maj, (nxD a b c 1).min, (nxD a b c 1).pat, [[48]], []⟩ : SemL))] := by
 show qqk (pD a b c pr 2) = _;show [((1 : Int), behL (pD a b c pr 2) 1)] = _;rw [qbdx hb hG (by decide)]
 rfl
theorem qbpl (a b c : QB) (pr : List QB) (x : Option Addr) (n m : Nat) (w : QW) (hA : ∀ b, w.heap.size ≤ b → A b) (ht : Txt w (.slice x n m) pr) (hc : CapA A (.slice x n m)) (l1 : a.length ≤ 1024) (l2 : b.length ≤ 1024) (l3 : c.length ≤ 1024) (ha : a ≠ []) (hb : b ≠ []) (hG : GoodP (pD a b c pr 2)) :
  Calls prog 98 #[.string (qg [60, 61]), .agg #[.string (qg a), .string (qg b), .string (qg c), .slice x n m, .int .i64 (2 : Nat)]] w (qbd A w (qr 87 (pD a b c pr 2))) := by
 have h := qbnd (A := A) (qg [60, 61]) (qj _) a b c pr x n m w hA ht hc l1 l2 l3;have e : qr 87 (pD a b c pr 2) = _ := qbgg a b c pr ha hb hG;rw [e];exact h
theorem qbft (a b c : QB) (pr : List QB) (ha : a ≠ []) (hb : b ≠ []) (h3 : c ≠ []) (hG : GoodP (pD a b c pr 3)) : qr 87 (pD a b c pr 3) = [(2, (⟨zN a, zN b, zN c, pr, []⟩ : SemL))] := by
 show qqk (pD a b c pr 3) = _
 rfl
theorem qbts (a b c : QB) (pr : List QB) (x : Option Addr) (n m : Nat) (w : QW) (hA : ∀ b, w.heap.size ≤ b → A b) (ht : Txt w (.slice x n m) pr) (hc : CapA A (.slice x n m)) (l1 : a.length ≤ 1024) (l2 : b.length ≤ 1024) (l3 : c.length ≤ 1024) (ha : a ≠ []) (hb : b ≠ []) (h3 : c ≠ []) (hG : GoodP (pD a b c pr 3)) :
  Calls prog 98 #[.string (qg [60, 61]), .agg #[.string (qg a), .string (qg b), .string (qg c), .slice x n m, .int .i64 (3 : Nat)]] w (qbd A w (qr 87 (pD a b c pr 3))) := by
 have h := qblf (A := A) (qg [60, 61]) (qj _) a b c pr x n m w hA ht hc l1 l2 l3;have e : qr 87 (pD a b c pr 3) = _ := qbft a b c pr ha hb h3 hG;rw [e];exact h
theorem qbgd (a b c : QB) (pr : List QB) (hG : GoodP (pD a b c pr 0)) : qr 162 (pD a b c pr 0) = qlx := by
 show qqm (pD a b c pr 0) = _
 rfl
theorem qbrc (a b c : QB) (pr : List QB) (x : Option Addr) (n m : Nat) (w : QW) (hA : ∀ b, w.heap.size ≤ b → A b) (ht : Txt w (.slice x n m) pr) (hc : CapA A (.slice x n m)) (l1 : a.length ≤ 1024) (l2 : b.length ≤ 1024) (l3 : c.length ≤ 1024) (hG : GoodP (pD a b c pr 0)) :
  Calls prog 98 #[.string (qg [62]), .agg #[.string (qg a), .string (qg b), .string (qg c), .slice x n m, .int .i64 (0 : Nat)]] w (qbd A w (qr 162 (pD a b c pr 0))) := by
 have h := qbml (A := A) (qg [62]) (qj _) a b c pr x n m w hA ht hc l1 l2 l3;have e : qr 162 (pD a b c pr 0) = _ := qbgd a b c pr hG;rw [e];exact h
theorem qbgq (a b c : QB) (pr : List QB) (ha : a ≠ []) (hG : GoodP (pD a b c pr 1)) : qr 162 (pD a b c pr 1) = [(4, (⟨(nxD a b c 0).maj, (nxD a b c 0).min, (nxD a b c 0).pat, [], []⟩ : SemL))] := by
 show qqm (pD a b c pr 1) = _;show [((4 : Int), qgk (begL (pD a b c pr 1)) 0)] = _;rw [nx_0 ha hG (by decide)]
theorem qbpd (a b c : QB) (pr : List QB) (x : Option Addr) (n m : Nat) (w : QW) (hA : ∀ b, w.heap.size ≤ b → A b) (ht : Txt w (.slice x n m) pr) (hc : CapA A (.slice x n m)) (l1 : a.length ≤ 1024) (l2 : b.length ≤ 1024) (l3 : c.length ≤ 1024) (ha : a ≠ []) (hG : GoodP (pD a b c pr 1)) :
  Calls prog 98 #[.string (qg [62]), .agg #[.string (qg a), .string (qg b), .string (qg c), .slice x n m, .int .i64 (1 : Nat)]] w (qbd A w (qr 162 (pD a b c pr 1))) := by
 have h := qbnk (A := A) (qg [62]) (qj _) a b c pr x n m w hA ht hc l1 l2 l3;have e : qr 162 (pD a b c pr 1) = _ := qbgq a b c pr ha hG;rw [e];exact h
theorem qbfs (a b c : QB) (pr : List QB) (ha : a ≠ []) (hb : b ≠ []) (hG : GoodP (pD a b c pr 2)) : qr 162 (pD a b c pr 2) = [(4, (⟨(nxD a b c 1).maj, (nxD a b c 1).min, (nxD a b c 1).pat, [], []⟩ : SemL))] := by
 show qqm (pD a b c pr 2) = _;show [((4 : Int), qgk (begL (pD a b c pr 2)) 1)] = _;rw [nx_1 hb hG (by decide)]
theorem qbtp (a b c : QB) (pr : List QB) (x : Option Addr) (n m : Nat) (w : QW) (hA : ∀ b, w.heap.size ≤ b → A b) (ht : Txt w (.slice x n m) pr) (hc : CapA A (.slice x n m)) (l1 : a.length ≤ 1024) (l2 : b.length ≤ 1024) (l3 : c.length ≤ 1024) (ha : a ≠ []) (hb : b ≠ []) (hG : GoodP (pD a b c pr 2)) :
  Calls prog 98 #[.string (qg [62]), .agg #[.string (qg a), .string (qg b), .string (qg c), .slice x n m, .int .i64 (2 : Nat)]] w (qbd A w (qr 162 (pD a b c pr 2))) := by
 have h := qbkl (A := A) (qg [62]) (qj _) a b c pr x n m w hA ht hc l1 l2 l3;have e : qr 162 (pD a b c pr 2) = _ := qbfs a b c pr ha hb hG;rw [e];exact h
theorem qbgm (a b c : QB) (pr : List QB) (ha : a ≠ []) (hb : b ≠ []) (h3 : c ≠ []) (hG : GoodP (pD a b c pr 3)) : qr 162 (pD a b c pr 3) = [(3, (⟨zN a, zN b, zN c, pr, []⟩ : SemL))] := by
 show qqm (pD a b c pr 3) = _
 rfl
theorem qbrg (a b c : QB) (pr : List QB) (x : Option Addr) (n m : Nat) (w : QW) (hA : ∀ b, w.heap.size ≤ b → A b) (ht : Txt w (.slice x n m) pr) (hc : CapA A (.slice x n m)) (l1 : a.length ≤ 1024) (l2 : b.length ≤ 1024) (l3 : c.length ≤ 1024) (ha : a ≠ []) (hb : b ≠ []) (h3 : c ≠ []) (hG : GoodP (pD a b c pr 3)) :
  Calls prog 98 #[.string (qg [62]), .agg #[.string (qg a), .string (qg b), .string (qg c), .slice x n m, .int .i64 (3 : Nat)]] w (qbd A w (qr 162 (pD a b c pr 3))) := by
 have h := qbnm (A := A) (qg [62]) (qj _) a b c pr x n m w hA ht hc l1 l2 l3;have e : qr 162 (pD a b c pr 3) = _ := qbgm a b c pr ha hb h3 hG;rw [e];exact h
theorem qbgv (a b c : QB) (pr : List QB) (hG : GoodP (pD a b c pr 0)) : qr 85 (pD a b c pr 0) = [] := by
 show qns (pD a b c pr 0) = _
 rfl
theorem qbtj (a b c : QB) (pr : List QB) (x : Option Addr) (n m : Nat) (w : QW) (hA : ∀ b, w.heap.size ≤ b → A b) (ht : Txt w (.slice x n m) pr) (hc : CapA A (.slice x n m)) (l1 : a.length ≤ 1024) (l2 : b.length ≤ 1024) (l3 : c.length ≤ 1024) (hG : GoodP (pD a b c pr 0)) :
  Calls prog 98 #[.string (qg [62, 61]), .agg #[.string (qg a), .string (qg b), .string (qg c), .slice x n m, .int .i64 (0 : Nat)]] w (qbd A w (qr 85 (pD a b c pr 0))) := by
 have h := qbkt (A := A) (qg [62, 61]) (qj _) a b c pr x n m w hA ht hc l1 l2 l3;have e : qr 85 (pD a b c pr 0) = _ := qbgv a b c pr hG;rw [e];exact h
theorem qbfv (a b c : QB) (pr : List QB) (ha : a ≠ []) (hG : GoodP (pD a b c pr 1)) : qr 85 (pD a b c pr 1) = [(4, (⟨zN a, zN b, zN c, pr, []⟩ : SemL))] := by
 show qns (pD a b c pr 1) = _
 rfl
theorem qbsc (a b c : QB) (pr : List QB) (x : Option Addr) (n m : Nat) (w : QW) (hA : ∀ b, w.heap.size ≤ b → A b) (ht : Txt w (.slice x n m) pr) (hc : CapA A (.slice x n m)) (l1 : a.length ≤ 1024) (l2 : b.length ≤ 1024) (l3 : c.length ≤ 1024) (ha : a ≠ []) (hG : GoodP (pD a b c pr 1)) :
  Calls prog 98 #[.string (qg [62, 61]), .agg #[.string (qg a), .string (qg b), .string (qg c), .slice x n m, .int .i64 (1 : Nat)]] w (qbd A w (qr 85 (pD a b c pr 1))) := by
 have h := qblx (A := A) (qg [62, 61]) (qj _) a b c pr x n m w hA ht hc l1 l2 l3;have e : qr 85 (pD a b c pr 1) = _ := qbfv a b c pr ha hG;rw [e];exact h
theorem qbgf (a b c : QB) (pr : List QB) (ha : a ≠ []) (hb : b ≠ []) (hG : GoodP (pD a b c pr 2)) : qr 85 (pD a b c pr 2) = [(4, (⟨zN a, zN b, zN c, pr, []⟩ : SemL))] := by
 show qns (pD a b c pr 2) = _
 rfl
theorem qbpb (a b c : QB) (pr : List QB) (x : Option Addr) (n m : Nat) (w : QW) (hA : ∀ b, w.heap.size ≤ b → A b) (ht : Txt w (.slice x n m) pr) (hc : CapA A (.slice x n m)) (l1 : a.length ≤ 1024) (l2 : b.length ≤ 1024) (l3 : c.length ≤ 1024) (ha : a ≠ []) (hb : b ≠ []) (hG : GoodP (pD a b c pr 2)) :
  Calls prog 98 #[.string (qg [62, 61]), .agg #[.string (qg a), .string (qg b), .string (qg c), .slice x n m, .int .i64 (2 : Nat)]] w (qbd A w (qr 85 (pD a b c pr 2))) := by
 have h := qbmw (A := A) (qg [62, 61]) (qj _) a b c pr x n m w hA ht hc l1 l2 l3;have e : qr 85 (pD a b c pr 2) = _ := qbgf a b c pr ha hb hG;rw [e];exact h
theorem qbgb (a b c : QB) (pr : List QB) (ha : a ≠ []) (hb : b ≠ []) (h3 : c ≠ []) (hG : GoodP (pD a b c pr 3)) : qr 85 (pD a b c pr 3) = [(4, (⟨zN a, zN b, zN c, pr, []⟩ : SemL))] := by
 show qns (pD a b c pr 3) = _
 rfl
theorem qbsf (a b c : QB) (pr : List QB) (x : Option Addr) (n m : Nat) (w : QW) (hA : ∀ b, w.heap.size ≤ b → A b) (ht : Txt w (.slice x n m) pr) (hc : CapA A (.slice x n m)) (l1 : a.length ≤ 1024) (l2 : b.length ≤ 1024) (l3 : c.length ≤ 1024) (ha : a ≠ []) (hb : b ≠ []) (h3 : c ≠ []) (hG : GoodP (pD a b c pr 3)) :
  Calls prog 98 #[.string (qg [62, 61]), .agg #[.string (qg a), .string (qg b), .string (qg c), .slice x n m, .int .i64 (3 : Nat)]] w (qbd A w (qr 85 (pD a b c pr 3))) := by
 have h := qblv (A := A) (qg [62, 61]) (qj _) a b c pr x n m w hA ht hc l1 l2 l3;have e : qr 85 (pD a b c pr 3) = _ := qbgb a b c pr ha hb h3 hG;rw [e];exact h
theorem qbbn (a b c : QB) (pr : List QB) (hG : GoodP (pD a b c pr 0)) : qr 163 (pD a b c pr 0) = [] := by
 show qls (pD a b c pr 0) = _
 rfl
theorem qblt (a b c : QB) (pr : List QB) (x : Option Addr) (n m : Nat) (w : QW) (hA : ∀ b, w.heap.size ≤ b → A b) (ht : Txt w (.slice x n m) pr) (hc : CapA A (.slice x n m)) (l1 : a.length ≤ 1024) (l2 : b.length ≤ 1024) (l3 : c.length ≤ 1024) (hG : GoodP (pD a b c pr 0)) :
  Calls prog 98 #[.string (qg [126]), .agg #[.string (qg a), .string (qg b), .string (qg c), .slice x n m, .int .i64 (0 : Nat)]] w (qbd A w (qr 163 (pD a b c pr 0))) := by
 have h := qbgc (A := A) (qg [126]) (qj _) a b c pr x n m w hA ht hc l1 l2 l3;have e : qr 163 (pD a b c pr 0) = _ := qbbn a b c pr hG;rw [e];exact h
theorem qbch (a b c : QB) (pr : List QB) (ha : a ≠ []) (hG : GoodP (pD a b c pr 1)) : qr 163 (pD a b c pr 1) = [(4, (⟨zN a, zN b, zN c, pr, []⟩ : SemL)), (1, nxD a b c 0)] := by
 show qls (pD a b c pr 1) = _;show [((4 : Int), begL (pD a b c pr 1)), (1, behL (pD a b c pr 1) 0)] = _;rw [qbcl ha hG (by decide)]
 rfl
theorem qbkz (a b c : QB) (pr : List QB) (x : Option Addr) (n m : Nat) (w : QW) (hA : ∀ b, w.heap.size ≤ b → A b) (ht : Txt w (.slice x n m) pr) (hc : CapA A (.slice x n m)) (l1 : a.length ≤ 1024) (l2 : b.length ≤ 1024) (l3 : c.length ≤ 1024) (ha : a ≠ []) (hG : GoodP (pD a b c pr 1)) :
  Calls prog 98 #[.string (qg [126]), .agg #[.string (qg a), .string (qg b), .string (qg c), .slice x n m, .int .i64 (1 : Nat)]] w (qbd A w (qr 163 (pD a b c pr 1))) := by
 have h := qbfr (A := A) (qg [126]) (qj _) a b c pr x n m w hA ht hc l1 l2 l3;have e : qr 163 (pD a b c pr 1) = _ := qbch a b c pr ha hG;rw [e];exact h
theorem qbdq (a b c : QB) (pr : List QB) (ha : a ≠ []) (hb : b ≠ []) (hG : GoodP (pD a b c pr 2)) : qr 163 (pD a b c pr 2) = [(4, (⟨zN a, zN b, zN c, pr, []⟩ : SemL)), (1, nxD a b c 1)] := by
 show qls (pD a b c pr 2) = _;show [((4 : Int), begL (pD a b c pr 2)), (1, behL (pD a b c pr 2) 1)] = _;rw [qbdx hb hG (by decide)]
 rfl
theorem qblj (a b c : QB) (pr : List QB) (x : Option Addr) (n m : Nat) (w : QW) (hA : ∀ b, w.heap.size ≤ b → A b) (ht : Txt w (.slice x n m) pr) (hc : CapA A (.slice x n m)) (l1 : a.length ≤ 1024) (l2 : b.length ≤ 1024) (l3 : c.length ≤ 1024) (ha : a ≠ []) (hb : b ≠ []) (hG : GoodP (pD a b c pr 2)) :
  Calls prog 98 #[.string (qg [126]), .agg #[.string (qg a), .string (qg b), .string (qg c), .slice x n m, .int .i64 (2 : Nat)]] w (qbd A w (qr 163 (pD a b c pr 2))) := by
 have h := qbgh (A := A) (qg [126]) (qj _) a b c pr x n m w hA ht hc l1 l2 l3;have e : qr 163 (pD a b c pr 2) = _ := qbdq a b c pr ha hb hG;rw [e];exact h
theorem qbcn (a b c : QB) (pr : List QB) (ha : a ≠ []) (hb : b ≠ []) (h3 : c ≠ []) (hG : GoodP (pD a b c pr 3)) : qr 163 (pD a b c pr 3) = [(4, (⟨zN a, zN b, zN c, pr, []⟩ : SemL)), (1, nxD a b c 1)] := by
 show qls (pD a b c pr 3) = _;show [((4 : Int), begL (pD a b c pr 3)), (1, behL (pD a b c pr 3) 1)] = _;rw [qbdx hb hG (by decide)]
 rfl
theorem qbmv (a b c : QB) (pr : List QB) (x : Option Addr) (n m : Nat) (w : QW) (hA : ∀ b, w.heap.size ≤ b → A b) (ht : Txt w (.slice x n m) pr) (hc : CapA A (.slice x n m)) (l1 : a.length ≤ 1024) (l2 : b.length ≤ 1024) (l3 : c.length ≤ 1024) (ha : a ≠ []) (hb : b ≠ []) (h3 : c ≠ []) (hG : GoodP (pD a b c pr 3)) :
  Calls prog 98 #[.string (qg [126]), .agg #[.string (qg a), .string (qg b), .string (qg c), .slice x n m, .int .i64 (3 : Nat)]] w (qbd A w (qr 163 (pD a b c pr 3))) := by
 have h := qbfw (A := A) (qg [126]) (qj _) a b c pr x n m w hA ht hc l1 l2 l3;have e : qr 163 (pD a b c pr 3) = _ := qbcn a b c pr ha hb h3 hG;rw [e];exact h
theorem qzw (a b c : QB) (pr : List QB) (hG : GoodP (pD a b c pr 0)) : qr 164 (pD a b c pr 0) = [] := by
 show qgl (pD a b c pr 0) = _
 rfl
theorem qbms (a b c : QB) (pr : List QB) (x : Option Addr) (n m : Nat) (w : QW) (hA : ∀ b, w.heap.size ≤ b → A b) (ht : Txt w (.slice x n m) pr) (hc : CapA A (.slice x n m)) (l1 : a.length ≤ 1024) (l2 : b.length ≤ 1024) (l3 : c.length ≤ 1024) (hG : GoodP (pD a b c pr 0)) :
  Calls prog 98 #[.string (qg [94]), .agg #[.string (qg a), .string (qg b), .string (qg c), .slice x n m, .int .i64 (0 : Nat)]] w (qbd A w (qr 164 (pD a b c pr 0))) := by
 have h := qbfx (A := A) (qg [94]) (qj _) a b c pr x n m w hA ht hc l1 l2 l3;have e : qr 164 (pD a b c pr 0) = _ := qzw a b c pr hG;rw [e];exact h
theorem qbfl (a b c : QB) (pr : List QB) (ha : a ≠ []) (hG : GoodP (pD a b c pr 1)) : qr 164 (pD a b c pr 1) = [(4, (⟨zN a, zN b, zN c, pr, []⟩ : SemL)), (1, nxD a b c 0)] := by
 rw [qbdb, qbdk (by rw [qhv]; decide) (.inl (qhv _ _ _ _ _))]
 show [((4 : Int), begL (pD a b c pr 1)), (1, behL (pD a b c pr 1) 0)] = _;rw [qbcl ha hG (by decide)]
 rfl
theorem qbmq (a b c : QB) (pr : List QB) (x : Option Addr) (n m : Nat) (w : QW) (hA : ∀ b, w.heap.size ≤ b → A b) (ht : Txt w (.slice x n m) pr) (hc : CapA A (.slice x n m)) (l1 : a.length ≤ 1024) (l2 : b.length ≤ 1024) (l3 : c.length ≤ 1024) (ha : a ≠ []) (hG : GoodP (pD a b c pr 1)) :
  Calls prog 98 #[.string (qg [94]), .agg #[.string (qg a), .string (qg b), .string (qg c), .slice x n m, .int .i64 (1 : Nat)]] w (qbd A w (qr 164 (pD a b c pr 1))) := by
 have h := qbgk (A := A) (qg [94]) (qj _) a b c pr x n m w hA ht hc l1 l2 l3;have e : qr 164 (pD a b c pr 1) = _ := qbfl a b c pr ha hG;rw [e];exact h
theorem qbkj (a b c : QB) (pr : List QB) (x : Option Addr) (n m : Nat) (w : QW) (hA : ∀ b, w.heap.size ≤ b → A b) (ht : Txt w (.slice x n m) pr) (hc : CapA A (.slice x n m)) (l1 : a.length ≤ 1024) (l2 : b.length ≤ 1024) (l3 : c.length ≤ 1024) (ha : a ≠ []) (hb : b ≠ []) (hG : GoodP (pD a b c pr 2)) :
  Calls prog 98 #[.string (qg [94]), .agg #[.string (qg a), .string (qg b), .string (qg c), .slice x n m, .int .i64 (2 : Nat)]] w (qbd A w (qr 164 (pD a b c pr 2))) := by
 rw [qbdb]
 by_cases ha0 : a = [48]
 ·rw [qbhz (by rw [qhv]; decide) (by rw [qhv, qbdv ha, ha0]; simp) (.inl (qhv _ _ _ _ _))]
  have h := (qbcq (A := A) (qg [94]) (qj _) a b c pr x n m w hA ht hc l1 l2 l3 ha0);unfold qjf;rw [qbdx hb hG (by decide)]
  exact h
 ·rw [qbdk (by rw [qhv]; decide) (.inr (by rw [qbdv ha]; exact ha0))]
  have h := (qbfd (A := A) (qg [94]) (qj _) a b c pr x n m w hA ht hc l1 l2 l3 ha0);unfold qjf;rw [qbcl ha hG (by decide)]
  exact h
theorem qblw (a b c : QB) (pr : List QB) (x : Option Addr) (n m : Nat) (w : QW) (hA : ∀ b, w.heap.size ≤ b → A b) (ht : Txt w (.slice x n m) pr) (hc : CapA A (.slice x n m)) (l1 : a.length ≤ 1024) (l2 : b.length ≤ 1024) (l3 : c.length ≤ 1024) (ha : a ≠ []) (hb : b ≠ []) (h3 : c ≠ []) (hG : GoodP (pD a b c pr 3)) :
  Calls prog 98 #[.string (qg [94]), .agg #[.string (qg a), .string (qg b), .string (qg c), .slice x n m, .int .i64 (3 : Nat)]] w (qbd A w (qr 164 (pD a b c pr 3))) := by
 rw [qbdb]
 by_cases ha0 : a = [48]
 ·by_cases hb0 : b = [48]
  ·rw [caret_lo (by rw [qhv]; decide) (by rw [qhv, qbdv ha, ha0]; simp) (by rw [qhv, min_pD hb, hb0]; simp)]
   have h := (qxv (A := A) (qg [94]) (qj _) a b c pr x n m w hA ht hc l1 l2 l3 ha0 hb0);unfold qjf;rw [beh_2 h3 hG (by decide)]
   exact h
  ·rw [qbhz (by rw [qhv]; decide) (by rw [qhv, qbdv ha, ha0]; simp) (.inr (by rw [min_pD hb]; exact hb0))]
   have h := (qxw (A := A) (qg [94]) (qj _) a b c pr x n m w hA ht hc l1 l2 l3 ha0 hb0);unfold qjf;rw [qbdx hb hG (by decide)]
   exact h
 ·rw [qbdk (by rw [qhv]; decide) (.inr (by rw [qbdv ha]; exact ha0))]
  have h := (qbff (A := A) (qg [94]) (qj _) a b c pr x n m w hA ht hc l1 l2 l3 ha0);unfold qjf;rw [qbcl ha hG (by decide)]
  exact h
theorem qbwc (op : QB) (f : Nat) (hop : opFn op f) (a b c : QB) (pr : List QB) (x : Option Addr) (n m N : Nat) (hN : N ≤ 3) (w : QW) (hA : ∀ b, w.heap.size ≤ b → A b) (ht : Txt w (.slice x n m) pr) (hc : CapA A (.slice x n m)) (l1 : a.length ≤ 1024) (l2 : b.length ≤ 1024) (l3 : c.length ≤ 1024) (h1 : 1 ≤ N → a ≠ []) (h2 : 2 ≤ N → b ≠ []) (h3 : 3 ≤ N → c ≠ []) (hG : GoodP (pD a b c pr N)) :
  Calls prog 98 #[.string (qg op), .agg #[.string (qg a), .string (qg b), .string (qg c), .slice x n m, .int .i64 (N : Nat)]] w (qbd A w (qr f (pD a b c pr N))) := by
 unfold opFn at hop;simp only [List.mem_cons, Prod.mk.injEq, List.not_mem_nil, or_false] at hop;rcases (by omega : N = 0 ∨ N = 1 ∨ N = 2 ∨ N = 3) with rfl | rfl | rfl | rfl <;> rcases hop with ⟨rfl, rfl⟩ | ⟨rfl, rfl⟩ | ⟨rfl, rfl⟩ | ⟨rfl, rfl⟩ | ⟨rfl, rfl⟩ | ⟨rfl, rfl⟩ | ⟨rfl, rfl⟩ | ⟨rfl, rfl⟩
 ·exact qbwl a b c pr x n m w hA ht hc l1 l2 l3 hG
 ·exact qbvn a b c pr x n m w hA ht hc l1 l2 l3 hG
 ·exact qbph a b c pr x n m w hA ht hc l1 l2 l3 hG
 ·exact qbsd a b c pr x n m w hA ht hc l1 l2 l3 hG
 ·exact qbrc a b c pr x n m w hA ht hc l1 l2 l3 hG
 ·exact qbtj a b c pr x n m w hA ht hc l1 l2 l3 hG
 ·exact qblt a b c pr x n m w hA ht hc l1 l2 l3 hG
 ·exact qbms a b c pr x n m w hA ht hc l1 l2 l3 hG
 ·exact qbvf a b c pr x n m w hA ht hc l1 l2 l3 (h1 (by omega)) hG
 ·exact qbwf a b c pr x n m w hA ht hc l1 l2 l3 (h1 (by omega)) hG
 ·exact qbnw a b c pr x n m w hA ht hc l1 l2 l3 (h1 (by omega)) hG
 ·exact qbtk a b c pr x n m w hA ht hc l1 l2 l3 (h1 (by omega)) hG
 ·exact qbpd a b c pr x n m w hA ht hc l1 l2 l3 (h1 (by omega)) hG
 ·exact qbsc a b c pr x n m w hA ht hc l1 l2 l3 (h1 (by omega)) hG
 ·exact qbkz a b c pr x n m w hA ht hc l1 l2 l3 (h1 (by omega)) hG
 ·exact qbmq a b c pr x n m w hA ht hc l1 l2 l3 (h1 (by omega)) hG
 ·exact qbvq a b c pr x n m w hA ht hc l1 l2 l3 (h1 (by omega)) (h2 (by omega)) hG
 ·exact qbxn a b c pr x n m w hA ht hc l1 l2 l3 (h1 (by omega)) (h2 (by omega)) hG
 ·exact qbqw a b c pr x n m w hA ht hc l1 l2 l3 (h1 (by omega)) (h2 (by omega)) hG
 ·exact qbpl a b c pr x n m w hA ht hc l1 l2 l3 (h1 (by omega)) (h2 (by omega)) hG
 ·exact qbtp a b c pr x n m w hA ht hc l1 l2 l3 (h1 (by omega)) (h2 (by omega)) hG
 ·exact qbpb a b c pr x n m w hA ht hc l1 l2 l3 (h1 (by omega)) (h2 (by omega)) hG
 ·exact qblj a b c pr x n m w hA ht hc l1 l2 l3 (h1 (by omega)) (h2 (by omega)) hG
 ·exact qbkj a b c pr x n m w hA ht hc l1 l2 l3 (h1 (by omega)) (h2 (by omega)) hG
 ·exact qbxb a b c pr x n m w hA ht hc l1 l2 l3 (h1 (by omega)) (h2 (by omega)) (h3 (by omega)) hG
 ·exact qbvv a b c pr x n m w hA ht hc l1 l2 l3 (h1 (by omega)) (h2 (by omega)) (h3 (by omega)) hG
 ·exact qbqn a b c pr x n m w hA ht hc l1 l2 l3 (h1 (by omega)) (h2 (by omega)) (h3 (by omega)) hG
 ·exact qbts a b c pr x n m w hA ht hc l1 l2 l3 (h1 (by omega)) (h2 (by omega)) (h3 (by omega)) hG
 ·exact qbrg a b c pr x n m w hA ht hc l1 l2 l3 (h1 (by omega)) (h2 (by omega)) (h3 (by omega)) hG
 ·exact qbsf a b c pr x n m w hA ht hc l1 l2 l3 (h1 (by omega)) (h2 (by omega)) (h3 (by omega)) hG
 ·exact qbmv a b c pr x n m w hA ht hc l1 l2 l3 (h1 (by omega)) (h2 (by omega)) (h3 (by omega)) hG
 ·exact qblw a b c pr x n m w hA ht hc l1 l2 l3 (h1 (by omega)) (h2 (by omega)) (h3 (by omega)) hG
end Go.Proofs.YtpdlgiioahjhiaaGreat
