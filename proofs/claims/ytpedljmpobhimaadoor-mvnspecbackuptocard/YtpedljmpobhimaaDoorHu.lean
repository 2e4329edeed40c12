/-
  Walks: the law on there and back.
-/
import Derived.Test.YtpedljmpobhimaaDoorHt
namespace Go.Proofs.YtpedljmpobhimaaDoor
open Go.RowKit Go.Shelf
set_option linter.unusedVariables false

/-- A requirement in its box, and what it points to. -/
structure BX (w : World) (t : List UInt8) (a : Option Addr) (c : Nat) (ms : List Mr) (W : World) : Prop where
  bel : Below w.heap.size w W
  box : W.heap[w.heap.size]? = some (.cells #[.string (ofL t), .slice a ms.length c] 24 (0, 0))
  mrs : Mrs W (.slice a ms.length c) ms
  kn : Kn W
theorem BX.next {w W W' : World} {t : List UInt8} {a : Option Addr} {c : Nat} {ms : List Mr} (h : BX w t a c ms W) (hb : Below W.heap.size W W') : BX w t a c ms W' :=
  ⟨h.bel.trans (hb.mono h.bel.size), (hb.block _ (Array.getElem?_eq_some_iff.1 h.box).1).trans h.box, h.mrs.below hb, h.kn.below h.kn.pos hb⟩
theorem BX.seen {w W : World} {t : List UInt8} {a : Option Addr} {c : Nat} {ms : List Mr} (h : BX w t a c ms W) : W.cell? ⟨w.heap.size, 0, none⟩ = some (.string (ofL t)) ∧ W.cell? ⟨w.heap.size, 1, none⟩ = some (.slice a ms.length c) ∧ W.frozen? ⟨w.heap.size, 0, none⟩ = false ∧ W.frozen? ⟨w.heap.size, 1, none⟩ = false :=
  ⟨cell_at 0 h.box rfl, cell_at 1 h.box rfl, one_free 0 h.box, one_free 1 h.box⟩

set_option maxRecDepth 100000 in
set_option maxHeartbeats 8000000 in
theorem back_walk (t : List UInt8) (a : Option Addr) (c : Nat) (ms : List Mr) (s : ByteArray) (w : World) (hv : Mrs w (.slice a ms.length c) ms) (hs : Small ms) (hk : Kn w) :
    Calls Tryd.prog 3 #[.agg #[.string (ofL t), .slice a ms.length c], .string s] w fun e w' => e = .returned (.bool true) ∧ Below w.heap.size w w' := by
  have FI := hide (fun W (q : BX w t a c ms W) => Fit_any t (.slice a ms.length c) ms W q.mrs hs q.kn)
  have TX := hide (fun W (q : BX w t a c ms W) hf => Text_fit t (.slice a ms.length c) ms W q.mrs hs q.kn hf)
  have PT := hide (fun W (q : BX w t a c ms W) (hf : fitL t ms = true) => (by have := Parse_any (ofL (wrL t ms)) W q.kn; rw [ofL_data, fit_parts hf] at this; exact this : Calls Tryd.prog 5 #[.string (ofL (wrL t ms))] W (PaPost ⟨0, 0, t, ms⟩ W)))
  have PS := hide (fun W (hW : Kn W) => Parse_any s W hW)
  have HS2 := hide (pa_small s.data.toList)
  have HRF := hide (fun h => read_fit (l := s.data.toList) h)
  have hml := hs.1
  have AW := hide awake_any
  generalize paL s.data.toList = P at *
  have FP := hide (fun v W (hv : Mrs W v P.ms) hk => Fit_any P.soft v P.ms W hv HS2.out hk)
  have hB0 := (Below.refl _ w).alloc (Nat.le_refl _) (.cells #[.string (ofL t), .slice a ms.length c] 24)
  have Q0 : Hid (BX w t a c ms (w.alloc (.cells #[.string (ofL t), .slice a ms.length c] 24))) := ⟨hB0, World.alloc_heap_new w _, hv.below hB0, hk.alloc _⟩
  have HK0 := hide hk
  clear hv hs hk hB0
  go_enter Tryd.func3, Tryd.ntmps3
  go_wp2_with fail
  generalize w.alloc (.cells #[.string (ofL t), .slice a ms.length c] 24) = W0 at *
  refine (FI.out _ Q0.out).mono ?_
  rintro e w1 ⟨rfl, b1⟩
  have Q1 := hide (Q0.out.next b1)
  clear Q0 b1 FI
  obtain ⟨k0, k1, k2, k3⟩ := Q1.out.seen
  generalize hF : fitL t ms = F at *
  cases F with
  | true =>
    go_wp2_with fail
    refine (TX.out _ Q1.out (by first | exact hF | rfl | trivial)).mono ?_
    rintro e w2 ⟨rfl, b2⟩
    have Q2 := hide (Q1.out.next b2)
    clear Q1 b2 k0 k1 k2 k3
    go_wp2_with fail
    refine (PT.out _ Q2.out (by first | exact hF | rfl | trivial)).mono ?_
    rintro e w3 ⟨v3, rfl, hm3, b3⟩
    obtain ⟨a3, c3, rfl, _⟩ := id hm3
    dsimp only at hm3 ⊢
    have Q3 := Q2.out.next b3
    have bb := ((Below.refl _ w3).alloc (Nat.le_refl _) (.cells #[.string (ofL t), .slice a3 ms.length c3] 24)).alloc (by simp) (.cells #[.int .i64 0, .int .i64 0] 28)
    have Q4 := hide (Q3.next bb)
    have M4 := hide (hm3.mrs.below bb)
    have RS := hide (RSame_true t a a3 ms.length c c3 ms _ Q4.out.mrs M4.out (by omega))
    obtain ⟨k0, k1, k2, k3⟩ := Q4.out.seen
    clear Q2 b3 hm3 Q3 bb M4 PT TX
    go_wp2_with fail
    refine RS.out.mono ?_
    rintro e w5 ⟨rfl, b5⟩
    have Q5 := hide (Q4.out.next b5)
    clear Q4 b5 k0 k1 k2 k3 RS
    go_wp2_with fail
    refine (PS.out _ Q5.out.kn).mono ?_
    rintro e w6 ⟨v6, rfl, hm6, b6⟩
    obtain ⟨a6, c6, rfl, _⟩ := id hm6
    have Q6 := Q5.out.next b6
    have hL5 : w.heap.size < w5.heap.size := (Array.getElem?_eq_some_iff.1 Q5.out.box).1
    have hL6 : w.heap.size < w6.heap.size := (Array.getElem?_eq_some_iff.1 Q6.box).1
    have HB8 : Hid (∀ o, Below w.heap.size w (((w6.setCell ⟨w.heap.size, 0, none⟩ (.string (ofL P.soft))).setCell ⟨w.heap.size, 1, none⟩ (.slice a6 P.ms.length c6)).alloc o)) := fun o => ((Q6.bel.setCell (p := ⟨w.heap.size, 0, none⟩) (Nat.le_refl _) _).setCell (p := ⟨w.heap.size, 1, none⟩) (Nat.le_refl _) _).alloc (by rw [set_size, set_size]; omega) o
    have HM8 : Hid (∀ o, Mrs (((w6.setCell ⟨w.heap.size, 0, none⟩ (.string (ofL P.soft))).setCell ⟨w.heap.size, 1, none⟩ (.slice a6 P.ms.length c6)).alloc o) (.slice a6 P.ms.length c6) P.ms) := fun o => (hm6.keep (Nat.le_refl _) (fun b hb hlt => (Below.heap_alloc _ _ _ (by rw [set_size, set_size]; exact hlt)).trans ((Below.heap_setCell _ _ _ _ (by simp only; omega)).trans (Below.heap_setCell _ _ _ _ (by simp only; omega))))).mrs
    obtain ⟨k0, k1, k2, k3⟩ := Q6.seen
    have hne : w6.heap.size ≠ w.heap.size := by omega
    have hne' : w.heap.size ≠ w6.heap.size := by omega
    clear Q6 hm6 b6
    by_cases he : P.err = 0
    · have HE := hide he
      go_wp2_with fail
      refine (FP.out _ _ (HM8.out _) (HK0.out.below HK0.out.pos (HB8.out _))).mono ?_
      rintro e w9 ⟨rfl, b9⟩
      have hB9 := hide ((HB8.out _).trans (b9.mono (HB8.out _).size))
      have hft := HRF.out HE.out
      rw [hft]
      clear b9 hft
      go_wp2_with fail
      refine (AW.out _ (HK0.out.below HK0.out.pos hB9.out)).mono ?_
      rintro e w10 ⟨rfl, b10⟩
      go_wp2_with fail
      go_ret
      exact ⟨rfl, hB9.out.trans (b10.mono hB9.out.size)⟩
    · have heb : (P.err == 0) = false := by simpa using he
      have hen : (P.err != 0) = true := by simpa using he
      go_wp2_with fail
      refine (AW.out _ (HK0.out.below HK0.out.pos (HB8.out _))).mono ?_
      rintro e w10 ⟨rfl, b10⟩
      go_wp2_with fail
      go_ret
      exact ⟨rfl, (HB8.out _).trans (b10.mono (HB8.out _).size)⟩
  | false =>
    clear k0 k1 k2 k3
    go_wp2_with fail
    refine (PS.out _ Q1.out.kn).mono ?_
    rintro e w6 ⟨v6, rfl, hm6, b6⟩
    obtain ⟨a6, c6, rfl, _⟩ := id hm6
    have Q6 := Q1.out.next b6
    have hL5 : w.heap.size < w1.heap.size := (Array.getElem?_eq_some_iff.1 Q1.out.box).1
    have hL6 : w.heap.size < w6.heap.size := (Array.getElem?_eq_some_iff.1 Q6.box).1
    have HB8 : Hid (∀ o, Below w.heap.size w (((w6.setCell ⟨w.heap.size, 0, none⟩ (.string (ofL P.soft))).setCell ⟨w.heap.size, 1, none⟩ (.slice a6 P.ms.length c6)).alloc o)) := fun o => ((Q6.bel.setCell (p := ⟨w.heap.size, 0, none⟩) (Nat.le_refl _) _).setCell (p := ⟨w.heap.size, 1, none⟩) (Nat.le_refl _) _).alloc (by rw [set_size, set_size]; omega) o
    have HM8 : Hid (∀ o, Mrs (((w6.setCell ⟨w.heap.size, 0, none⟩ (.string (ofL P.soft))).setCell ⟨w.heap.size, 1, none⟩ (.slice a6 P.ms.length c6)).alloc o) (.slice a6 P.ms.length c6) P.ms) := fun o => (hm6.keep (Nat.le_refl _) (fun b hb hlt => (Below.heap_alloc _ _ _ (by rw [set_size, set_size]; exact hlt)).trans ((Below.heap_setCell _ _ _ _ (by simp only; omega)).trans (Below.heap_setCell _ _ _ _ (by simp only; omega))))).mrs
    obtain ⟨k0, k1, k2, k3⟩ := Q6.seen
    have hne : w6.heap.size ≠ w.heap.size := by omega
    have hne' : w.heap.size ≠ w6.heap.size := by omega
    clear Q6 hm6 b6
    by_cases he : P.err = 0
    · have HE := hide he
      go_wp2_with fail
      refine (FP.out _ _ (HM8.out _) (HK0.out.below HK0.out.pos (HB8.out _))).mono ?_
      rintro e w9 ⟨rfl, b9⟩
      have hB9 := hide ((HB8.out _).trans (b9.mono (HB8.out _).size))
      have hft := HRF.out HE.out
      rw [hft]
      clear b9 hft
      go_wp2_with fail
      refine (AW.out _ (HK0.out.below HK0.out.pos hB9.out)).mono ?_
      rintro e w10 ⟨rfl, b10⟩
      go_wp2_with fail
      go_ret
      exact ⟨rfl, hB9.out.trans (b10.mono hB9.out.size)⟩
    · have heb : (P.err == 0) = false := by simpa using he
      have hen : (P.err != 0) = true := by simpa using he
      go_wp2_with fail
      refine (AW.out _ (HK0.out.below HK0.out.pos (HB8.out _))).mono ?_
      rintro e w10 ⟨rfl, b10⟩
      go_wp2_with fail
      go_ret
      exact ⟨rfl, (HB8.out _).trans (b10.mono (HB8.out _).size)⟩

end Go.Proofs.YtpedljmpobhimaaDoor
