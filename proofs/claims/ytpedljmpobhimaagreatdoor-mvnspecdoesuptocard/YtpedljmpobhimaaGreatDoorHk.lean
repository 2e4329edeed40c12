/-
  Walks: a soft requirement; Parse.
-/
import Derived.Test.YtpedljmpobhimaaGreatDoorHi
namespace Go.Proofs.YtpedljmpobhimaaGreatDoor
open Go.RowKit Go.Shelf
set_option linter.unusedVariables false

theorem fin24 {R : Ending → World → Prop} (tmps : Array Value) (W : World) (B : Nat) (v e p : Value) (h1 : tmps.getD 2 undef = v) (h2 : tmps.getD 3 undef = .pointer (some ⟨B, 0, none⟩)) (e1 : W.heap[B]? = some (.cells #[e, p] 27 (0, 0)))
    (hR : R (.returned (.tuple #[v, .agg #[e, p]])) W) :
    bodyPost Tryz.prog Tryz.f24 R .ret { tmps := tmps, defers := [] } W := by
  have r0 := cell_at 0 e1 rfl
  have r1 := cell_at 1 e1 rfl
  rw [Array.getD_eq_getD_getElem?] at h1 h2
  refine ⟨rfl, _, ?_, hR⟩
  simp [results, Tryz.results24, go_sem, h1, h2, r0, r1]
  try rfl
theorem put2 {W : World} {B : Nat} {t : TypeId} {u0 u1 : Value} (v0 v1 : Value) (h : W.heap[B]? = some (.cells #[u0, u1] t (0, 0))) :
    ((W.setCell ⟨B, 0, none⟩ v0).setCell ⟨B, 1, none⟩ v1).heap[B]? = some (.cells #[v0, v1] t (0, 0)) := set_lies 1 v1 (set_lies 0 v0 h)
theorem below2 {w W : World} (h : Below w.heap.size w W) (v0 v1 : Value) : Below w.heap.size w ((W.setCell ⟨w.heap.size, 0, none⟩ v0).setCell ⟨w.heap.size, 1, none⟩ v1) :=
  (h.setCell (Nat.le_refl _) _).setCell (Nat.le_refl _) _
/-- A call's own fault lies as it was laid. -/
structure FZ (w W : World) : Prop where
  cells : W.heap[w.heap.size]? = some (.cells #[.int .i64 0, .int .i64 0] 27 (0, 0))
  bel : Below w.heap.size w W
  kn : Kn W
theorem FZ.start {w : World} (hk : Kn w) : FZ w (w.alloc (.cells #[.int .i64 0, .int .i64 0] 27)) := ⟨World.alloc_heap_new w _, (Below.refl _ w).alloc (Nat.le_refl _) _, hk.alloc _⟩
theorem FZ.next {w W W' : World} (h : FZ w W) (hb : Below W.heap.size W W') : FZ w W' :=
  ⟨(hb.block _ (Array.getElem?_eq_some_iff.1 h.cells).1).trans h.cells, h.bel.trans (hb.mono h.bel.size), h.kn.below h.kn.pos hb⟩
theorem FZ.seen {w W : World} (h : FZ w W) : W.frozen? ⟨w.heap.size, 0, none⟩ = false ∧ W.frozen? ⟨w.heap.size, 1, none⟩ = false ∧ W.cell? ⟨w.heap.size, 0, none⟩ = some (.int .i64 0) ∧ W.cell? ⟨w.heap.size, 1, none⟩ = some (.int .i64 0) :=
  ⟨one_free 0 h.cells, one_free 1 h.cells, cell_at 0 h.cells rfl, cell_at 1 h.cells rfl⟩

set_option maxRecDepth 100000 in
set_option maxHeartbeats 2000000 in
theorem readSoft_any (s : ByteArray) (w : World) (hs : s.size ≤ 256) (hk : Kn w) :
    Calls Tryz.prog 24 #[.string s] w fun e w' => e = .returned (.tuple #[.string (ofL (softL s.data.toList).soft), .agg #[.int .i64 (softL s.data.toList).err, .int .i64 ((softL s.data.toList).at' : Int)]]) ∧ Below w.heap.size w w' := by
  have RV := fun W hW => readVersion_any s 0 W hs (Nat.zero_le _) hW
  rw [List.drop_zero, Nat.zero_add] at RV
  change ∀ W, Kn W → Calls Tryz.prog 48 #[.string s, .int .i64 0] W _ at RV
  replace RV := hide RV
  have hX : softL s.data.toList = if (rvR s.data.toList).err ≠ 0 then ⟨(rvR s.data.toList).err, (rvR s.data.toList).k, [], []⟩
    else if (rvR s.data.toList).v = [] ∨ (rvR s.data.toList).k < s.size then ⟨misR (s.data.toList.drop (rvR s.data.toList).k), (rvR s.data.toList).k, [], []⟩ else ⟨0, 0, (rvR s.data.toList).v, []⟩ := by unfold softL; rw [len_data]
  have hle := rv_le s.data.toList
  rw [len_data] at hle
  have MF := hide (fun W => Misfit_any s (rvR s.data.toList).k W hle)
  have hve := empty_at (rvR s.data.toList).v
  generalize softL s.data.toList = X at *
  generalize (rvR s.data.toList).k = k at *
  generalize (rvR s.data.toList).v = V at *
  generalize (rvR s.data.toList).err = E at *
  have Z0 := hide (FZ.start hk)
  have HX := hide hX
  have HE := hide hve
  clear hX hk hve
  go_enter Tryz.func24, Tryz.ntmps24
  go_wp2_with fail
  generalize w.alloc (.cells #[.int .i64 0, .int .i64 0] 27) = W0 at *
  refine (RV.out _ Z0.out.kn).mono ?_
  rintro e w1 ⟨rfl, b1⟩
  have Z1 := hide (Z0.out.next b1)
  clear Z0 b1 RV
  obtain ⟨f0, f1, c0, c1⟩ := Z1.out.seen
  by_cases hE : E = 0
  · subst hE
    rw [if_neg (by simp)] at HX
    by_cases hV : V = []
    · rw [if_pos (.inl hV)] at HX
      have hve : ((ofL V).toList == []) = true := by rw [HE.out]; simp [hV]
      subst hV
      go_wp2_with fail
      refine (MF.out _).mono ?_
      rintro e w2 ⟨rfl, hw2⟩
      rw [hw2]
      clear hw2 w2
      go_wp2_with fail
      refine fin24 _ _ w.heap.size _ _ _ rfl rfl (put2 _ _ Z1.out.cells) ⟨?_, below2 Z1.out.bel _ _⟩
      rw [HX.out]
      rfl
    · have hve : ((ofL V).toList == []) = false := by rw [HE.out]; simp [hV]
      by_cases hl : k < s.size
      · rw [if_pos (.inr hl)] at HX
        have hl' : (k : Int) < (s.size : Int) := by omega
        clear hV hl
        go_wp2_with fail
        refine (MF.out _).mono ?_
        rintro e w2 ⟨rfl, hw2⟩
        rw [hw2]
        clear hw2 w2
        go_wp2_with fail
        refine fin24 _ _ w.heap.size _ _ _ rfl rfl (put2 _ _ Z1.out.cells) ⟨?_, below2 Z1.out.bel _ _⟩
        rw [HX.out]
        rfl
      · rw [if_neg (by simp [hV, hl])] at HX
        have hl' : ¬ (k : Int) < (s.size : Int) := by omega
        clear hV hl
        go_wp2_with fail
        refine fin24 _ _ w.heap.size _ _ _ rfl rfl (put2 _ _ Z1.out.cells) ⟨?_, below2 Z1.out.bel _ _⟩
        rw [HX.out]
        rfl
  · rw [if_pos hE] at HX
    have hEb : (E == 0) = false := by simpa using hE
    clear hE
    go_wp2_with fail
    refine fin24 _ _ w.heap.size _ _ _ rfl rfl (put2 _ _ Z1.out.cells) ⟨?_, below2 Z1.out.bel _ _⟩
    rw [HX.out]
    rfl

/-- What Parse leaves. -/
def PaPost (P : Pa) (w : World) (e : Ending) (w' : World) : Prop :=
  ∃ v, e = .returned (.tuple #[.agg #[.string (ofL P.soft), v], .agg #[.int .i64 P.err, .int .i64 (P.at' : Int)]]) ∧ MrsN w.heap.size w' v P.ms ∧ Below w.heap.size w w'
theorem fin6 {R : Ending → World → Prop} (tmps : Array Value) (W : World) (A B : Nat) (s : ByteArray) (a : Option Addr) (n c : Nat) (e p : Value) (h1 : tmps.getD 2 undef = .pointer (some ⟨A, 0, none⟩)) (h2 : tmps.getD 3 undef = .pointer (some ⟨B, 0, none⟩))
    (e0 : W.heap[A]? = some (.cells #[.string s, .slice a n c] 24 (0, 0))) (e1 : W.heap[B]? = some (.cells #[e, p] 27 (0, 0)))
    (hR : R (.returned (.tuple #[.agg #[.string s, .slice a n c], .agg #[e, p]])) W) :
    bodyPost Tryz.prog Tryz.f6 R .ret { tmps := tmps, defers := [] } W := by
  have q0 := cell_at 0 e0 rfl
  have q1 := cell_at 1 e0 rfl
  have r0 := cell_at 0 e1 rfl
  have r1 := cell_at 1 e1 rfl
  rw [Array.getD_eq_getD_getElem?] at h1 h2
  refine ⟨rfl, _, ?_, hR⟩
  simp [results, Tryz.results6, go_sem, h1, h2, q0, q1, r0, r1]
  try rfl
/-- Both of a call's own results lie as they were laid. -/
structure TZ (w W : World) : Prop where
  cells : W.heap[w.heap.size]? = some (.cells #[.string ⟨#[]⟩, .slice none 0 0] 24 (0, 0))
  flt : W.heap[w.heap.size + 1]? = some (.cells #[.int .i64 0, .int .i64 0] 27 (0, 0))
  bel : Below w.heap.size w W
  kn : Kn W
theorem TZ.start {w : World} (hk : Kn w) : TZ w ((w.alloc (.cells #[.string ⟨#[]⟩, .slice none 0 0] 24)).alloc (.cells #[.int .i64 0, .int .i64 0] 27)) := by
  have k := World.alloc_heap_new (w.alloc (.cells #[.string ⟨#[]⟩, .slice none 0 0] 24)) (.cells #[.int .i64 0, .int .i64 0] 27)
  rw [World.size_alloc] at k
  exact ⟨(Below.heap_alloc _ _ _ (by simp)).trans (World.alloc_heap_new w _), k, ((Below.refl _ w).alloc (Nat.le_refl _) _).alloc (by simp) _, (hk.alloc _).alloc _⟩
theorem TZ.lt {w W : World} (h : TZ w W) : w.heap.size + 1 < W.heap.size := (Array.getElem?_eq_some_iff.1 h.flt).1
theorem TZ.next {w W W' : World} (h : TZ w W) (hb : Below W.heap.size W W') : TZ w W' := by
  have := h.lt
  exact ⟨(hb.block _ (by omega)).trans h.cells, (hb.block _ this).trans h.flt, h.bel.trans (hb.mono h.bel.size), h.kn.below h.kn.pos hb⟩
theorem TZ.seen {w W : World} (h : TZ w W) : W.frozen? ⟨w.heap.size, 0, none⟩ = false ∧ W.frozen? ⟨w.heap.size, 1, none⟩ = false ∧ W.frozen? ⟨w.heap.size + 1, 0, none⟩ = false ∧ W.frozen? ⟨w.heap.size + 1, 1, none⟩ = false ∧
    W.cell? ⟨w.heap.size, 0, none⟩ = some (.string ⟨#[]⟩) ∧ W.cell? ⟨w.heap.size, 1, none⟩ = some (.slice none 0 0) ∧ W.cell? ⟨w.heap.size + 1, 0, none⟩ = some (.int .i64 0) ∧ W.cell? ⟨w.heap.size + 1, 1, none⟩ = some (.int .i64 0) :=
  ⟨one_free 0 h.cells, one_free 1 h.cells, one_free 0 h.flt, one_free 1 h.flt, cell_at 0 h.cells rfl, cell_at 1 h.cells rfl, cell_at 0 h.flt rfl, cell_at 1 h.flt rfl⟩
/-- The four stores of a return. -/
def st4 (w W : World) (a b c d : Value) : World := (((W.setCell ⟨w.heap.size, 0, none⟩ a).setCell ⟨w.heap.size, 1, none⟩ b).setCell ⟨w.heap.size + 1, 0, none⟩ c).setCell ⟨w.heap.size + 1, 1, none⟩ d
theorem TZ.put {w W : World} (h : TZ w W) (a b c d : Value) : (st4 w W a b c d).heap[w.heap.size]? = some (.cells #[a, b] 24 (0, 0)) ∧ (st4 w W a b c d).heap[w.heap.size + 1]? = some (.cells #[c, d] 27 (0, 0)) ∧ Below w.heap.size w (st4 w W a b c d) := by
  have h1 := put2 a b h.cells
  have h2 : ((W.setCell ⟨w.heap.size, 0, none⟩ a).setCell ⟨w.heap.size, 1, none⟩ b).heap[w.heap.size + 1]? = some (.cells #[.int .i64 0, .int .i64 0] 27 (0, 0)) := (Below.heap_setCell _ _ _ _ (by simp only; omega)).trans ((Below.heap_setCell _ _ _ _ (by simp only; omega)).trans h.flt)
  refine ⟨(Below.heap_setCell _ _ _ _ (by simp only; omega)).trans ((Below.heap_setCell _ _ _ _ (by simp only; omega)).trans h1), put2 c d h2, ?_⟩
  exact (((h.bel.setCell (p := ⟨w.heap.size, 0, none⟩) (by simp only; omega) _).setCell (p := ⟨w.heap.size, 1, none⟩) (by simp only; omega) _).setCell (p := ⟨w.heap.size + 1, 0, none⟩) (by simp only; omega) _).setCell (p := ⟨w.heap.size + 1, 1, none⟩) (by simp only; omega) _
theorem MrsN.none (n : Nat) (W : World) : MrsN n W (.slice Option.none 0 0) [] := ⟨_, _, rfl, .inl rfl⟩
theorem MrsN.keep {n m : Nat} {W W' : World} {v : Value} {ms : List Mr} (h : MrsN n W v ms) (hm : m ≤ n) (hb : ∀ b, n ≤ b → b < W.heap.size → W'.heap[b]? = W.heap[b]?) : MrsN m W' v ms := by
  obtain ⟨a, cap, hv, h0 | ⟨b, sp, ha, hn, hh⟩⟩ := h
  · exact ⟨a, cap, hv, .inl h0⟩
  · exact ⟨a, cap, hv, .inr ⟨b, sp, ha, by omega, (hb b hn (Array.getElem?_eq_some_iff.1 hh).1).trans hh⟩⟩
theorem st4_other {w W : World} {a b c d : Value} (k : Nat) (h1 : k ≠ w.heap.size) (h2 : k ≠ w.heap.size + 1) : (st4 w W a b c d).heap[k]? = W.heap[k]? :=
  (Below.heap_setCell _ _ _ _ (by simp only; omega)).trans ((Below.heap_setCell _ _ _ _ (by simp only; omega)).trans ((Below.heap_setCell _ _ _ _ (by simp only; omega)).trans (Below.heap_setCell _ _ _ _ (by simp only; omega))))

end Go.Proofs.YtpedljmpobhimaaGreatDoor

/-
  Walks: Parse.
-/
namespace Go.Proofs.YtpedljmpobhimaaGreatDoor
open Go.RowKit Go.Shelf
set_option linter.unusedVariables false

/-- The last step of Parse. -/
theorem pa_end {w W : World} (Z : TZ w W) (s : List UInt8) (a : Option Addr) (n c : Nat) (e : Int) (p : Nat) (ms : List Mr) (P : Pa) (hP : P = ⟨e, p, s, ms⟩) (hm : MrsN (w.heap.size + 2) W (.slice a n c) ms) (tmps : Array Value)
    (h1 : tmps.getD 2 undef = .pointer (some ⟨w.heap.size, 0, none⟩)) (h2 : tmps.getD 3 undef = .pointer (some ⟨w.heap.size + 1, 0, none⟩)) :
    bodyPost Tryz.prog Tryz.f6 (PaPost P w) .ret { tmps := tmps, defers := [] } (st4 w W (.string (ofL s)) (.slice a n c) (.int .i64 e) (.int .i64 (p : Int))).drew ∧
    bodyPost Tryz.prog Tryz.f6 (PaPost P w) .ret { tmps := tmps, defers := [] } (st4 w W (.string (ofL s)) (.slice a n c) (.int .i64 e) (.int .i64 (p : Int))) := by
  subst hP
  obtain ⟨k1, k2, k3⟩ := Z.put (.string (ofL s)) (.slice a n c) (.int .i64 e) (.int .i64 (p : Int))
  refine ⟨fin6 _ _ w.heap.size (w.heap.size + 1) _ _ _ _ _ _ h1 h2 k1 k2 ⟨_, rfl, ?_, k3.trans (drew_below _ _)⟩, fin6 _ _ w.heap.size (w.heap.size + 1) _ _ _ _ _ _ h1 h2 k1 k2 ⟨_, rfl, ?_, k3⟩⟩
  · exact hm.keep (by omega) (fun b hb _ => st4_other b (by omega) (by omega))
  · exact hm.keep (by omega) (fun b hb _ => st4_other b (by omega) (by omega))

set_option maxRecDepth 100000 in
set_option maxHeartbeats 4000000 in
theorem Parse_any (s : ByteArray) (w : World) (hk : Kn w) :
    Calls Tryz.prog 6 #[.string s] w (PaPost (paL s.data.toList) w) := by
  have hX : paL s.data.toList = if 256 < s.size then ⟨12, 256, [], []⟩ else if hdIn [91, 40] (s.data.toList.drop (blN s.data.toList)) then
    (if (allF s.data.toList).err ≠ 0 then ⟨(allF s.data.toList).err, (allF s.data.toList).at', [], []⟩ else ⟨0, 0, [], (allF s.data.toList).ms⟩) else softL s.data.toList := by unfold paL; rw [len_data]
  have Z0 := hide (TZ.start hk)
  by_cases h : 256 < s.size
  · rw [if_pos h] at hX
    have HX := hide hX
    clear hX
    have h' : (256 : Int) < (s.size : Int) := by omega
    obtain ⟨f0, f1, f2, f3, c0, c1, c2, c3⟩ := Z0.out.seen
    clear h
    go_enter Tryz.func6, Tryz.ntmps6
    go_wp2_with fail
    have k := World.alloc_heap_new (w.alloc (.cells #[.string ⟨#[]⟩, .slice none 0 0] 24)) (.cells #[.int .i64 12, .int .i64 256] 27)
    rw [World.size_alloc] at k
    rw [HX.out]
    exact fin6 _ _ w.heap.size (w.heap.size + 1) ⟨#[]⟩ none 0 0 _ _ rfl rfl ((Below.heap_alloc _ _ _ (by simp)).trans (World.alloc_heap_new w _)) k ⟨_, rfl, MrsN.none _ _, ((Below.refl _ w).alloc (Nat.le_refl _) _).alloc (by simp) _⟩
  · rw [if_neg h] at hX
    have hs : s.size ≤ 256 := by omega
    have h' : ¬ (256 : Int) < (s.size : Int) := by omega
    have R1 := fun W => Run6 s 0 hs (Nat.zero_le _) 0 rfl W
    rw [List.drop_zero, Nat.zero_add] at R1
    replace R1 := hide R1
    have RG := fun W (hlt : blN s.data.toList < s.size) hW => readRanges_any s (blN s.data.toList) W hs hlt hW
    change ∀ W, _ → Kn W → Calls Tryz.prog 23 #[.string s, .int .i64 (blN s.data.toList : Int)] W (RgPost (allF s.data.toList) W) at RG
    replace RG := hide RG
    have RS := hide (fun W hW => readSoft_any s W hs hW)
    have I1 : Hid (∀ W, Calls Tryz.prog 22 #[.string s, .int .i64 (blN s.data.toList : Int), .string ⟨#[91, 40]⟩] W fun e w' => e = .returned (.bool (hdIn [91, 40] (s.data.toList.drop (blN s.data.toList)))) ∧ w' = W) := fun W => isAt_any s ⟨#[91, 40]⟩ (blN s.data.toList) W
    have HL : Hid (hdIn [91, 40] (s.data.toList.drop (blN s.data.toList)) = true → blN s.data.toList < s.size) := fun h => by have := hdIn_lt h; rwa [len_data] at this
    have HX := hide hX
    clear hX h hk
    generalize paL s.data.toList = P at *
    generalize allF s.data.toList = F at *
    generalize hSF : softL s.data.toList = S at *
    have HSM : Hid (S.ms = []) := by show _ = _; rw [← hSF]; unfold softL; split; rfl; split <;> rfl
    clear hSF
    generalize hdIn [91, 40] (s.data.toList.drop (blN s.data.toList)) = H at *
    generalize blN s.data.toList = b at *
    go_enter Tryz.func6, Tryz.ntmps6
    go_wp2_with fail
    generalize (w.alloc (.cells #[.string ⟨#[]⟩, .slice none 0 0] 24)).alloc (.cells #[.int .i64 0, .int .i64 0] 27) = W0 at *
    refine (R1.out _).mono ?_
    rintro e w1 ⟨rfl, hw1⟩
    rw [hw1]
    clear hw1 w1
    go_wp2_with fail
    refine (I1.out _).mono ?_
    rintro e w1 ⟨rfl, hw1⟩
    rw [hw1]
    clear hw1 w1
    cases H with
    | true =>
      rw [if_pos rfl] at HX
      have hlt := HL.out rfl
      clear HL RS
      go_wp2_with fail
      refine (RG.out _ hlt Z0.out.kn).mono ?_
      rintro e w3 ⟨b3, ⟨hne, rfl⟩ | ⟨h0, v, rfl, hm⟩⟩
      · rw [if_pos hne] at HX
        have Z3 := Z0.out.next b3
        have hB1 : w3.heap.size ≠ w.heap.size := by have := Z3.lt; omega
        have hB2 : w3.heap.size ≠ w.heap.size + 1 := by have := Z3.lt; omega
        have Z4 := hide (Z3.next ((Below.refl _ w3).alloc (Nat.le_refl _) (.cells #[.int .i64 F.err, .int .i64 (F.at' : Int)] 27)))
        have N4 := hide (World.alloc_heap_new w3 (.cells #[.int .i64 F.err, .int .i64 (F.at' : Int)] 27))
        clear hne Z3 b3 Z0
        go_wp2_with fail
        generalize w3.alloc (.cells #[.int .i64 F.err, .int .i64 (F.at' : Int)] 27) = W4 at *
        generalize w3.heap.size = B4 at *
        obtain ⟨f0, f1, f2, f3, c0, c1, c2, c3⟩ := Z4.out.seen
        have k0 : W4.cell? ⟨B4, 0, none⟩ = some (.int .i64 F.err) := cell_at 0 N4.out rfl
        have k1 : W4.cell? ⟨B4, 1, none⟩ = some (.int .i64 (F.at' : Int)) := cell_at 1 N4.out rfl
        go_region
        all_goals
          go_wp2_with fail
          refine And.left (pa_end Z4.out [] none 0 0 F.err F.at' [] _ HX.out (MrsN.none _ _) _ ?_ ?_) <;> rfl
      · rw [if_neg (by simpa using h0)] at HX
        have hZl := Z0.out.lt
        obtain ⟨a3, cap3, rfl, hm3⟩ := id hm
        have Z3 := Z0.out.next b3
        have hB1 : w3.heap.size ≠ w.heap.size := by have := Z3.lt; omega
        have hB2 : w3.heap.size ≠ w.heap.size + 1 := by have := Z3.lt; omega
        have Z4 := hide (Z3.next ((Below.refl _ w3).alloc (Nat.le_refl _) (.cells #[.int .i64 0, .int .i64 0] 27)))
        have N4 := hide (World.alloc_heap_new w3 (.cells #[.int .i64 0, .int .i64 0] 27))
        have HM : Hid (MrsN (w.heap.size + 2) (w3.alloc (.cells #[.int .i64 0, .int .i64 0] 27)) (.slice a3 F.ms.length cap3) F.ms) := hm.keep (by omega) (fun b _ hb => Below.heap_alloc _ _ _ hb)
        clear hm hm3 Z3 b3 Z0 hZl
        go_wp2_with fail
        generalize w3.alloc (.cells #[.int .i64 0, .int .i64 0] 27) = W4 at *
        generalize w3.heap.size = B4 at *
        obtain ⟨f0, f1, f2, f3, c0, c1, c2, c3⟩ := Z4.out.seen
        have k0 : W4.cell? ⟨B4, 0, none⟩ = some (.int .i64 0) := cell_at 0 N4.out rfl
        have k1 : W4.cell? ⟨B4, 1, none⟩ = some (.int .i64 0) := cell_at 1 N4.out rfl
        go_region
        all_goals
          go_wp2_with fail
          refine And.left (pa_end Z4.out [] _ _ _ 0 0 F.ms _ HX.out HM.out _ ?_ ?_) <;> rfl
    | false =>
      rw [if_neg (by simp)] at HX
      clear HL RG
      go_wp2_with fail
      refine (RS.out _ Z0.out.kn).mono ?_
      rintro e w3 ⟨rfl, b3⟩
      have Z3 := Z0.out.next b3
      have hB1 : w3.heap.size ≠ w.heap.size := by have := Z3.lt; omega
      have hB2 : w3.heap.size ≠ w.heap.size + 1 := by have := Z3.lt; omega
      have Z4 := hide (Z3.next ((Below.refl _ w3).alloc (Nat.le_refl _) (.cells #[.int .i64 S.err, .int .i64 (S.at' : Int)] 27)))
      have N4 := hide (World.alloc_heap_new w3 (.cells #[.int .i64 S.err, .int .i64 (S.at' : Int)] 27))
      clear Z3 b3 Z0
      go_wp2_with fail
      generalize w3.alloc (.cells #[.int .i64 S.err, .int .i64 (S.at' : Int)] 27) = W4 at *
      generalize w3.heap.size = B4 at *
      obtain ⟨f0, f1, f2, f3, c0, c1, c2, c3⟩ := Z4.out.seen
      have k0 : W4.cell? ⟨B4, 0, none⟩ = some (.int .i64 S.err) := cell_at 0 N4.out rfl
      have k1 : W4.cell? ⟨B4, 1, none⟩ = some (.int .i64 (S.at' : Int)) := cell_at 1 N4.out rfl
      go_region
      all_goals
        go_wp2_with fail
        refine And.left (pa_end Z4.out S.soft none 0 0 S.err S.at' S.ms _ HX.out (by rw [HSM.out]; exact MrsN.none _ _) _ ?_ ?_) <;> rfl

end Go.Proofs.YtpedljmpobhimaaGreatDoor
