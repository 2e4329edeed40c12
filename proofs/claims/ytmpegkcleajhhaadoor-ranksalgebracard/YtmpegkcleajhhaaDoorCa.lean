/-
  What the listed variables give the walks; rows of spans, numbers and truths that came in, opened.
-/
import Derived.Test.YtmpegkcleajhhaaDoorDq
import Derived.Test.YtmpegkcleajhhaaDoorTie
import Derived.ProofKit
import Derived.LaidMore
import Derived.OpenShut
import Derived.ShutString
import Derived.ChangeOld
import Derived.Below
import Derived.SizedLaws
import Derived.Stop.Joined
import Derived.Deep.Slices
import Derived.Lib.LaidTab
namespace Go.Proofs.YtmpegkcleajhhaaDoor
open Go.ChangeShapes Go.WideShapes Go.ChangeAt Go.WideMaps Go.WideElems Go.RowKit
set_option linter.unusedVariables false

theorem ownK : ownKnob Tryd.prog.godebug = none := by kernel_rfl
theorem laidOut : laidOutB Tryd.prog = true := by kernel_rfl
theorem c45 : Tryd.prog.cellsOf 45 = 2 := by kernel_rfl
theorem c3 : Tryd.prog.cellsOf 3 = 1 := by kernel_rfl
theorem c4 : Tryd.prog.cellsOf 4 = 1 := by kernel_rfl
/-- The variables that the row lists. -/
def laidV : List (String × DataW Unit) := [("math/bits.deBruijn32tab", Rows.laid_math_bits_deBruijn32tab), ("math/bits.deBruijn64tab", Rows.laid_math_bits_deBruijn64tab), ("internal/strconv.uint64pow10", Rows.laid_internal_strconv_uint64pow10)]
theorem laid_one : laidV.filter (fun x => x.1 == "internal/strconv.uint64pow10") = [("internal/strconv.uint64pow10", Lib.tabData .u64 Lib.pow10Tab)] := by kernel_rfl
theorem of_laid {W : World} (h : laidMetH Tryd.prog laidV W) : Tab W := by
  rw [MakeChecks.laidMetH_plain _ _ _ (by kernel_rfl)] at h
  have h2 := h.filter (fun x => x.1 == "internal/strconv.uint64pow10")
  rw [laid_one] at h2
  exact Lib.tabIs_of_head (g := 1) (t := 86) (e := 80) (n := 20) (by kernel_rfl) (by kernel_rfl) Tryd.underlying86 Tryd.underlying80 (by kernel_rfl) (by kernel_rfl) h2
theorem door_met (os : Os) (args : Array Value) : laidMetH Tryd.prog laidV ((World.doorLaid Tryd.prog 400 os).forCall (fun _ _ => 0) ⟨#[], args, []⟩).memory :=
  laidMetH_of_parts3 (fuel := 8) (laidMet_of_run' 8 (by kernel_rfl) (by kernel_rfl)) (by kernel_rfl) (by kernel_rfl)
theorem add_at (b o j : Nat) : (Addr.add ⟨b, o, none⟩ j) = ⟨b, o + j, none⟩ := by
  by_cases e0 : j = 0
  · subst e0; rfl
  · simp [Addr.add, e0]
instance : Inhabited Sp := ⟨(0, 0)⟩

set_option maxRecDepth 100000 in
/-- A slice of spans that came in. -/
theorem open_spans {H : Type} {enc : TypeId × Value → H} {W : World} {fuel : Nat} {c : Value} {y : DataW H × List MemPlace} (h : DataW.trod enc Tryd.prog W 0 (fun _ => true) true fuel 22 [c] = some y) :
    ∃ (a : Option Addr) (n cap : Nat) (s : List Sp), c = .slice a n cap ∧ s.length = n ∧ Spans W (.slice a n cap) s ∧ (n = 0 ∨ ∃ elems spare, y.1 = .slice elems spare ∧ elems.length = n) := by
  rcases Go.Deep.open_slice Tryd.underlying22 h with ⟨hcs, rfl⟩ | ⟨a, len, cap, m, n, D, Pl, hcs, _, hl, hm, hmm, rfl, hx⟩
  · obtain rfl : c = .slice none 0 0 := by simpa using hcs
    exact ⟨none, 0, 0, [], rfl, rfl, Spans.nil _, .inl rfl⟩
  · obtain rfl : c = .slice (some a) len cap := by simpa using hcs
    have hmc : m = cap := by simpa using hmm
    have each : ∀ i, i < len → ∃ t : Sp, W.cell? (a.add (i * 2)) = some (.int .i64 t.1) ∧ W.cell? (a.add (i * 2 + 1)) = some (.int .i64 t.2) := by
      intro i hi
      obtain ⟨cs', h1, h2⟩ := hx i (by omega)
      rw [c45] at h1
      obtain ⟨_, hlen, hcell⟩ := World.cells?_some h1
      obtain ⟨xs, k, _, hxy, _, hxl, hf⟩ := DataW.trod_struct Tryd.underlying45 h2
      match xs, hxl, cs', hlen with
      | [y0, y1], _, [v0, v1], _ =>
        have g0 := hf 0 _ rfl
        have g1 := hf 1 _ rfl
        obtain ⟨p, e0, z0, _⟩ := DataW.trod_int (cs := [v0]) Tryd.underlying3 (g0 : DataW.trod enc Tryd.prog W 0 _ true k 3 [v0] = some y0)
        obtain ⟨q, e1, z1, _⟩ := DataW.trod_int (cs := [v1]) Tryd.underlying3 (g1 : DataW.trod enc Tryd.prog W 0 _ true k 3 [v1] = some y1)
        obtain rfl : v0 = .int .i64 p := by simpa using e0
        obtain rfl : v1 = .int .i64 q := by simpa using e1
        have q0 := hcell 0 (by omega)
        have q1 := hcell 1 (by omega)
        rw [Go.Deep.add_add] at q0 q1
        exact ⟨(p, q), by simpa using q0, by simpa using q1⟩
    obtain ⟨τ, hτ⟩ := Go.Deep.choose_lt each
    have hlen : ((List.range len).map τ).length = len := by rw [List.length_map, List.length_range]
    refine ⟨some a, len, cap, (List.range len).map τ, rfl, hlen, ⟨some a, cap, by rw [hlen], ?_⟩, .inr ⟨_, _, rfl, by simp⟩⟩
    by_cases h0 : len = 0
    · left; rw [h0]; rfl
    · right
      obtain ⟨b, off, spot⟩ := a
      have hc := (hτ 0 (by omega)).1
      have hspot : spot = none := by simpa [Addr.add] using World.cell?_spot hc
      subst hspot
      refine ⟨b, off, rfl, by have := cell_lt hc; simpa [Addr.add] using this, fun i hi => ?_⟩
      have hi' : i < len := by rw [hlen] at hi; exact hi
      obtain ⟨q0, q1⟩ := hτ i hi'
      rw [add_at] at q0 q1
      have e : ((List.range len).map τ)[i] = τ i := by simp
      rw [e]
      exact ⟨q0, by rw [Nat.add_assoc]; exact q1⟩

/-- A slice of numbers that came in. -/
theorem open_nums {H : Type} {enc : TypeId × Value → H} {W : World} {fuel : Nat} {c : Value} {y : DataW H × List MemPlace} (h : DataW.trod enc Tryd.prog W 0 (fun _ => true) true fuel 23 [c] = some y) :
    ∃ (a : Option Addr) (n cap : Nat) (l : List Int), c = .slice a n cap ∧ l.length = n ∧ Ints W (.slice a n cap) l ∧ (n = 0 ∨ ∃ elems spare, y.1 = .slice elems spare ∧ elems.length = n) := by
  rcases Go.Deep.open_slice1 Tryd.underlying23 c3 h with ⟨hcs, rfl⟩ | ⟨a, len, cap, m, n, V, D, Pl, hcs, _, hl, hm, hmm, rfl, hx⟩
  · obtain rfl : c = .slice none 0 0 := by simpa using hcs
    exact ⟨none, 0, 0, [], rfl, rfl, ⟨none, 0, rfl, .inl rfl⟩, .inl rfl⟩
  · obtain rfl : c = .slice (some a) len cap := by simpa using hcs
    have hmc : m = cap := by simpa using hmm
    have each : ∀ i, i < len → ∃ t : Int, W.cell? (a.add i) = some (.int .i64 t) := by
      intro i hi
      obtain ⟨h1, h2⟩ := hx i (by omega)
      obtain ⟨p, e0, z0, _⟩ := DataW.trod_int (cs := [V i]) Tryd.underlying3 h2
      have e0 : V i = .int .i64 p := by simpa using e0
      exact ⟨p, by rw [h1, e0]⟩
    obtain ⟨τ, hτ⟩ := Go.Deep.choose_lt each
    have hlen : ((List.range len).map τ).length = len := by rw [List.length_map, List.length_range]
    refine ⟨some a, len, cap, (List.range len).map τ, rfl, hlen, ⟨some a, cap, by rw [hlen], ?_⟩, .inr ⟨_, _, rfl, by simp⟩⟩
    by_cases h0 : len = 0
    · left; rw [h0]; rfl
    · right
      obtain ⟨b, off, spot⟩ := a
      have hc := hτ 0 (by omega)
      have hspot : spot = none := by simpa [Addr.add] using World.cell?_spot hc
      subst hspot
      refine ⟨b, off, rfl, by have := cell_lt hc; simpa [Addr.add] using this, fun i hi => ?_⟩
      have hi' : i < len := by rw [hlen] at hi; exact hi
      have q0 := hτ i hi'
      rw [add_at] at q0
      have e : ((List.range len).map τ)[i] = τ i := by simp
      rw [e]
      exact q0

/-- A slice of truths that came in. -/
theorem open_truths {H : Type} {enc : TypeId × Value → H} {W : World} {fuel : Nat} {c : Value} {y : DataW H × List MemPlace} (h : DataW.trod enc Tryd.prog W 0 (fun _ => true) true fuel 24 [c] = some y) :
    ∃ (a : Option Addr) (n cap : Nat) (l : List Bool), c = .slice a n cap ∧ l.length = n ∧ Bools W (.slice a n cap) l ∧ (n = 0 ∨ ∃ elems spare, y.1 = .slice elems spare ∧ elems.length = n) := by
  rcases Go.Deep.open_slice1 Tryd.underlying24 c4 h with ⟨hcs, rfl⟩ | ⟨a, len, cap, m, n, V, D, Pl, hcs, _, hl, hm, hmm, rfl, hx⟩
  · obtain rfl : c = .slice none 0 0 := by simpa using hcs
    exact ⟨none, 0, 0, [], rfl, rfl, ⟨none, 0, rfl, Nat.le_refl _, fun _ => rfl, .inl rfl⟩, .inl rfl⟩
  · obtain rfl : c = .slice (some a) len cap := by simpa using hcs
    have hmc : m = cap := by simpa using hmm
    have each : ∀ i, i < len → ∃ t : Bool, W.cell? (a.add i) = some (.bool t) := by
      intro i hi
      obtain ⟨h1, h2⟩ := hx i (by omega)
      obtain ⟨p, e0, z0⟩ := DataW.trod_bool (cs := [V i]) Tryd.underlying4 h2
      have e0 : V i = .bool p := by simpa using e0
      exact ⟨p, by rw [h1, e0]⟩
    obtain ⟨τ, hτ⟩ := Go.Deep.choose_lt each
    have hlen : ((List.range len).map τ).length = len := by rw [List.length_map, List.length_range]
    refine ⟨some a, len, cap, (List.range len).map τ, rfl, hlen, ⟨some a, cap, by rw [hlen], by rw [hlen]; exact hl, (fun h => by cases h), ?_⟩, .inr ⟨_, _, rfl, by simp⟩⟩
    by_cases h0 : len = 0
    · left; rw [h0]; rfl
    · right
      obtain ⟨b, off, spot⟩ := a
      have hc := hτ 0 (by omega)
      have hspot : spot = none := by simpa [Addr.add] using World.cell?_spot hc
      subst hspot
      refine ⟨b, off, rfl, by have := cell_lt hc; simpa [Addr.add] using this, fun i hi => ?_⟩
      have hi' : i < len := by rw [hlen] at hi; exact hi
      have q0 := hτ i hi'
      rw [add_at] at q0
      have e : ((List.range len).map τ)[i] = τ i := by simp
      rw [e]
      exact q0
theorem bytes45 : Tryd.prog.bytesOf 45 = 16 := by kernel_rfl
theorem bytes3 : Tryd.prog.bytesOf 3 = 8 := by kernel_rfl
theorem bytes4 : Tryd.prog.bytesOf 4 = 1 := by kernel_rfl
/-- Rows that came in are no longer than memory. -/
theorem row_len {H : Type} {ts : List TypeId} {ds : List (DataW H)} (h : (DataW.weightsEach Tryd.prog ts ds).all (· ≤ reachBytes) = true) {j n : Nat} {t e : TypeId} {y : DataW H} (ht : ts[j]? = some t) (hd : ds[j]? = some y) (hu : Tryd.prog.underlying t = some (.slice e)) (hb : 1 ≤ Tryd.prog.bytesOf e)
    (hy : n = 0 ∨ ∃ elems spare, y = .slice elems spare ∧ elems.length = n) : n ≤ 1000000000000000 := by
  rcases hy with rfl | ⟨elems, spare, rfl, rfl⟩
  · omega
  · have h1 : (elems.length + spare.length) * Tryd.prog.bytesOf e ≤ 140737488351232 := sized_slice h ht hd hu
    have h2 : (elems.length + spare.length) * 1 ≤ (elems.length + spare.length) * Tryd.prog.bytesOf e := Nat.mul_le_mul_left _ hb
    omega

end Go.Proofs.YtmpegkcleajhhaaDoor
