/-
  Walks: a soft requirement; Parse.
-/
import Derived.Test.YtpedljmpobhimaaDoorHi
namespace Go.Proofs.YtpedljmpobhimaaDoor
open Go.RowKit Go.Shelf
set_option linter.unusedVariables false

theorem fin24 {R : Ending → World → Prop} (tmps : Array Value) (W : World) (B : Nat) (v e p : Value) (h1 : tmps.getD 2 undef = v) (h2 : tmps.getD 3 undef = .pointer (some ⟨B, 0, none⟩)) (e1 : W.heap[B]? = some (.cells #[e, p] 28 (0, 0)))
    (hR : R (.returned (.tuple #[v, .agg #[e, p]])) W) :
    bodyPost Tryd.prog Tryd.f14 R .ret { tmps := tmps, defers := [] } W := by
  have r0 := cell_at 0 e1 rfl
  have r1 := cell_at 1 e1 rfl
  rw [Array.getD_eq_getD_getElem?] at h1 h2
  refine ⟨rfl, _, ?_, hR⟩
  simp [results, Tryd.results14, go_sem, h1, h2, r0, r1]
  try rfl
theorem put2 {W : World} {B : Nat} {t : TypeId} {u0 u1 : Value} (v0 v1 : Value) (h : W.heap[B]? = some (.cells #[u0, u1] t (0, 0))) :
    ((W.setCell ⟨B, 0, none⟩ v0).setCell ⟨B, 1, none⟩ v1).heap[B]? = some (.cells #[v0, v1] t (0, 0)) := set_lies 1 v1 (set_lies 0 v0 h)
theorem below2 {w W : World} (h : Below w.heap.size w W) (v0 v1 : Value) : Below w.heap.size w ((W.setCell ⟨w.heap.size, 0, none⟩ v0).setCell ⟨w.heap.size, 1, none⟩ v1) :=
  (h.setCell (Nat.le_refl _) _).setCell (Nat.le_refl _) _
/-- A call's own fault lies as it was laid. -/
structure FZ (w W : World) : Prop where
  cells : W.heap[w.heap.size]? = some (.cells #[.int .i64 0, .int .i64 0] 28 (0, 0))
  bel : Below w.heap.size w W
  kn : Kn W
theorem FZ.start {w : World} (hk : Kn w) : FZ w (w.alloc (.cells #[.int .i64 0, .int .i64 0] 28)) := ⟨World.alloc_heap_new w _, (Below.refl _ w).alloc (Nat.le_refl _) _, hk.alloc _⟩
theorem FZ.next {w W W' : World} (h : FZ w W) (hb : Below W.heap.size W W') : FZ w W' :=
  ⟨(hb.block _ (Array.getElem?_eq_some_iff.1 h.cells).1).trans h.cells, h.bel.trans (hb.mono h.bel.size), h.kn.below h.kn.pos hb⟩
theorem FZ.seen {w W : World} (h : FZ w W) : W.frozen? ⟨w.heap.size, 0, none⟩ = false ∧ W.frozen? ⟨w.heap.size, 1, none⟩ = false ∧ W.cell? ⟨w.heap.size, 0, none⟩ = some (.int .i64 0) ∧ W.cell? ⟨w.heap.size, 1, none⟩ = some (.int .i64 0) :=
  ⟨one_free 0 h.cells, one_free 1 h.cells, cell_at 0 h.cells rfl, cell_at 1 h.cells rfl⟩

set_option maxRecDepth 100000 in
set_option maxHeartbeats 2000000 in
theorem readSoft_any (s : ByteArray) (w : World) (hs : s.size ≤ 256) (hk : Kn w) :
    Calls Tryd.prog 14 #[.string s] w fun e w' => e = .returned (.tuple #[.string (ofL (softL s.data.toList).soft), .agg #[.int .i64 (softL s.data.toList).err, .int .i64 ((softL s.data.toList).at' : Int)]]) ∧ Below w.heap.size w w' := by
  have RV := fun W hW => readVersion_any s 0 W hs (Nat.zero_le _) hW
  rw [List.drop_zero, Nat.zero_add] at RV
  change ∀ W, Kn W → Calls Tryd.prog 23 #[.string s, .int .i64 0] W _ at RV
  replace RV := hide RV
  have hX : softL s.data.toList = if (rvR s.data.toList).err ≠ 0 then ⟨(rvR s.data.toList).err, (rvR s.data.toList).k, [], []⟩
    else if (rvR s.data.toList).v = [] ∨ (rvR s.data.toList).k < s.size then ⟨misR (s.data.toList.drop (rvR s.data.toList).k), (rvR s.data.toList).k, [], []⟩ else ⟨0, 0, (rvR s.data.toList).v, []⟩ := by unfold softL; rw [len_data]
  have hle := rv_le s.data.toList
  rw [len_data] at hle
  have MF := hide (fun W => Misfit_any s (rvR s.data.toList).k W hle)
  have hve := empty_at (rvR s.data.toList).v
  generalize softL s.data.toList = X at *
  generalize (rvR s.data.toList).k = k at *
  generalize (rvR s.data.toList).v = V at *
  generalize (rvR s.data.toList).err = E at *
  have Z0 := hide (FZ.start hk)
  have HX := hide hX
  have HE := hide hve
  clear hX hk hve
  go_enter Tryd.func14, Tryd.ntmps14
  go_wp2_with fail
  generalize w.alloc (.cells #[.int .i64 0, .int .i64 0] 28) = W0 at *
  refine (RV.out _ Z0.out.kn).mono ?_
  rintro e w1 ⟨rfl, b1⟩
  have Z1 := hide (Z0.out.next b1)
  clear Z0 b1 RV
  obtain ⟨f0, f1, c0, c1⟩ := Z1.out.seen
  by_cases hE : E = 0
  · subst hE
    rw [if_neg (by simp)] at HX
    by_cases hV : V = []
    · rw [if_pos (.inl hV)] at HX
      have hve : ((ofL V).toList == []) = true := by rw [HE.out]; simp [hV]
      subst hV
      go_wp2_with fail
      refine (MF.out _).mono ?_
      rintro e w2 ⟨rfl, hw2⟩
      rw [hw2]
      clear hw2 w2
      go_wp2_with fail
      refine fin24 _ _ w.heap.size _ _ _ rfl rfl (put2 _ _ Z1.out.cells) ⟨?_, below2 Z1.out.bel _ _⟩
      rw [HX.out]
      rfl
    · have hve : ((ofL V).toList == []) = false := by rw [HE.out]; simp [hV]
      by_cases hl : k < s.size
      · rw [if_pos (.inr hl)] at HX
        have hl' : (k : Int) < (s.size : Int) := by omega
        clear hV hl
        go_wp2_with fail
        refine (MF.out _).mono ?_
        rintro e w2 ⟨rfl, hw2⟩
        rw [hw2]
        clear hw2 w2
        go_wp2_with fail
        refine fin24 _ _ w.heap.size _ _ _ rfl rfl (put2 _ _ Z1.out.cells) ⟨?_, below2 Z1.out.bel _ _⟩
        rw [HX.out]
        rfl
      · rw [if_neg (by simp [hV, hl])] at HX
        have hl' : ¬ (k : Int) < (s.size : Int) := by omega
        clear hV hl
        go_wp2_with fail
        refine fin24 _ _ w.heap.size _ _ _ rfl rfl (put2 _ _ Z1.out.cells) ⟨?_, below2 Z1.out.bel _ _⟩
        rw [HX.out]
        rfl
  · rw [if_pos hE] at HX
    have hEb : (E == 0) = false := by simpa using hE
    clear hE
    go_wp2_with fail
    refine fin24 _ _ w.heap.size _ _ _ rfl rfl (put2 _ _ Z1.out.cells) ⟨?_, below2 Z1.out.bel _ _⟩
    rw [HX.out]
    rfl

/-- What Parse leaves. -/
def PaPost (P : Pa) (w : World) (e : Ending) (w' : World) : Prop :=
  ∃ v, e = .returned (.tuple #[.agg #[.string (ofL P.soft), v], .agg #[.int .i64 P.err, .int .i64 (P.at' : Int)]]) ∧ MrsN w.heap.size w' v P.ms ∧ Below w.heap.size w w'
theorem fin6 {R : Ending → World → Prop} (tmps : Array Value) (W : World) (A B : Nat) (s : ByteArray) (a : Option Addr) (n c : Nat) (e p : Value) (h1 : tmps.getD 2 undef = .pointer (some ⟨A, 0, none⟩)) (h2 : tmps.getD 3 undef = .pointer (some ⟨B, 0, none⟩))
    (e0 : W.heap[A]? = some (.cells #[.string s, .slice a n c] 24 (0, 0))) (e1 : W.heap[B]? = some (.cells #[e, p] 28 (0, 0)))
    (hR : R (.returned (.tuple #[.agg #[.string s, .slice a n c], .agg #[e, p]])) W) :
    bodyPost Tryd.prog Tryd.f5 R .ret { tmps := tmps, defers := [] } W := by
  have q0 := cell_at 0 e0 rfl
  have q1 := cell_at 1 e0 rfl
  have r0 := cell_at 0 e1 rfl
  have r1 := cell_at 1 e1 rfl
  rw [Array.getD_eq_getD_getElem?] at h1 h2
  refine ⟨rfl, _, ?_, hR⟩
  simp [results, Tryd.results5, go_sem, h1, h2, q0, q1, r0, r1]
  try rfl
/-- Both of a call's own results lie as they were laid. -/
structure TZ (w W : World) : Prop where
  cells : W.heap[w.heap.size]? = some (.cells #[.string ⟨#[]⟩, .slice none 0 0] 24 (0, 0))
  flt : W.heap[w.heap.size + 1]? = some (.cells #[.int .i64 0, .int .i64 0] 28 (0, 0))
  bel : Below w.heap.size w W
  kn : Kn W
theorem TZ.start {w : World} (hk : Kn w) : TZ w ((w.alloc (.cells #[.string ⟨#[]⟩, .slice none 0 0] 24)).alloc (.cells #[.int .i64 0, .int .i64 0] 28)) := by
  have k := World.alloc_heap_new (w.alloc (.cells #[.string ⟨#[]⟩, .slice none 0 0] 24)) (.cells #[.int .i64 0, .int .i64 0] 28)
  rw [World.size_alloc] at k
  exact ⟨(Below.heap_alloc _ _ _ (by simp)).trans (World.alloc_heap_new w _), k, ((Below.refl _ w).alloc (Nat.le_refl _) _).alloc (by simp) _, (hk.alloc _).alloc _⟩
theorem TZ.lt {w W : World} (h : TZ w W) : w.heap.size + 1 < W.heap.size := (Array.getElem?_eq_some_iff.1 h.flt).1
theorem TZ.next {w W W' : World} (h : TZ w W) (hb : Below W.heap.size W W') : TZ w W' := by
  have := h.lt
  exact ⟨(hb.block _ (by omega)).trans h.cells, (hb.block _ this).trans h.flt, h.bel.trans (hb.mono h.bel.size), h.kn.below h.kn.pos hb⟩
theorem TZ.seen {w W : World} (h : TZ w W) : W.frozen? ⟨w.heap.size, 0, none⟩ = false ∧ W.frozen? ⟨w.heap.size, 1, none⟩ = false ∧ W.frozen? ⟨w.heap.size + 1, 0, none⟩ = false ∧ W.frozen? ⟨w.heap.size + 1, 1, none⟩ = false ∧
    W.cell? ⟨w.heap.size, 0, none⟩ = some (.string ⟨#[]⟩) ∧ W.cell? ⟨w.heap.size, 1, none⟩ = some (.slice none 0 0) ∧ W.cell? ⟨w.heap.size + 1, 0, none⟩ = some (.int .i64 0) ∧ W.cell? ⟨w.heap.size + 1, 1, none⟩ = some (.int .i64 0) :=
  ⟨one_free 0 h.cells, one_free 1 h.cells, one_free 0 h.flt, one_free 1 h.flt, cell_at 0 h.cells rfl, cell_at 1 h.cells rfl, cell_at 0 h.flt rfl, cell_at 1 h.flt rfl⟩
/-- The four stores of a return. -/
def st4 (w W : World) (a b c d : Value) : World := (((W.setCell ⟨w.heap.size, 0, none⟩ a).setCell ⟨w.heap.size, 1, none⟩ b).setCell ⟨w.heap.size + 1, 0, none⟩ c).setCell ⟨w.heap.size + 1, 1, none⟩ d
theorem TZ.put {w W : World} (h : TZ w W) (a b c d : Value) : (st4 w W a b c d).heap[w.heap.size]? = some (.cells #[a, b] 24 (0, 0)) ∧ (st4 w W a b c d).heap[w.heap.size + 1]? = some (.cells #[c, d] 28 (0, 0)) ∧ Below w.heap.size w (st4 w W a b c d) := by
  have h1 := put2 a b h.cells
  have h2 : ((W.setCell ⟨w.heap.size, 0, none⟩ a).setCell ⟨w.heap.size, 1, none⟩ b).heap[w.heap.size + 1]? = some (.cells #[.int .i64 0, .int .i64 0] 28 (0, 0)) := (Below.heap_setCell _ _ _ _ (by simp only; omega)).trans ((Below.heap_setCell _ _ _ _ (by simp only; omega)).trans h.flt)
  refine ⟨(Below.heap_setCell _ _ _ _ (by simp only; omega)).trans ((Below.heap_setCell _ _ _ _ (by simp only; omega)).trans h1), put2 c d h2, ?_⟩
  exact (((h.bel.setCell (p := ⟨w.heap.size, 0, none⟩) (by simp only; omega) _).setCell (p := ⟨w.heap.size, 1, none⟩) (by simp only; omega) _).setCell (p := ⟨w.heap.size + 1, 0, none⟩) (by simp only; omega) _).setCell (p := ⟨w.heap.size + 1, 1, none⟩) (by simp only; omega) _
theorem MrsN.none (n : Nat) (W : World) : MrsN n W (.slice Option.none 0 0) [] := ⟨_, _, rfl, .inl rfl⟩
theorem MrsN.keep {n m : Nat} {W W' : World} {v : Value} {ms : List Mr} (h : MrsN n W v ms) (hm : m ≤ n) (hb : ∀ b, n ≤ b → b < W.heap.size → W'.heap[b]? = W.heap[b]?) : MrsN m W' v ms := by
  obtain ⟨a, cap, hv, h0 | ⟨b, sp, ha, hn, hh⟩⟩ := h
  · exact ⟨a, cap, hv, .inl h0⟩
  · exact ⟨a, cap, hv, .inr ⟨b, sp, ha, by omega, (hb b hn (Array.getElem?_eq_some_iff.1 hh).1).trans hh⟩⟩
theorem st4_other {w W : World} {a b c d : Value} (k : Nat) (h1 : k ≠ w.heap.size) (h2 : k ≠ w.heap.size + 1) : (st4 w W a b c d).heap[k]? = W.heap[k]? :=
  (Below.heap_setCell _ _ _ _ (by simp only; omega)).trans ((Below.heap_setCell _ _ _ _ (by simp only; omega)).trans ((Below.heap_setCell _ _ _ _ (by simp only; omega)).trans (Below.heap_setCell _ _ _ _ (by simp only; omega))))

end Go.Proofs.YtpedljmpobhimaaDoor
