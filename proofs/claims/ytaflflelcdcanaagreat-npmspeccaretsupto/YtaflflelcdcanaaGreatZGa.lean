/-
  A version that came in, opened: its parts, and how long they are.
-/
import Derived.Test.YtaflflelcdcanaaGreatZFd
import Derived.ProofKit
import Derived.OpenShut
import Derived.ShutString
import Derived.ChangeOld
import Derived.Below
import Derived.SizedLaws
import Derived.SliceStrings
import Derived.Deep.Fields
namespace Go.Proofs.YtaflflelcdcanaaGreat
open Go.ChangeShapes Go.WideShapes Go.ChangeAt Go.RowKit
set_option linter.unusedVariables false

theorem Tryz.cells9 : Tryz.prog.cellsOf 9 = 1 := by kernel_rfl
theorem Tryz.cells31 : Tryz.prog.cellsOf 31 = 1 := by kernel_rfl
theorem Tryz.cells33 : Tryz.prog.cellsOf 33 = 5 := by kernel_rfl

theorem cell_lt {W : World} {a : Addr} {v : Value} (h : W.cell? a = some v) : a.block < W.heap.size := by
  unfold World.cell? at h
  cases hb : W.heap[a.block]? with
  | none => rw [hb] at h; simp at h
  | some o => exact (Array.getElem?_eq_some_iff.1 hb).1

theorem bulk_strs {H : Type} : ∀ ss : List ByteArray, Rows.uptoBulkAll (H := H) (Go.ChangeShapes.strs ss) = lenI (ss.map fun s => s.data.toList)
  | [] => rfl
  | s :: r => by
    have ih := bulk_strs (H := H) r
    simp only [Go.ChangeShapes.strs, List.map_cons, Rows.uptoBulkAll, Rows.uptoBulk, lenI] at ih ⊢
    omega
theorem lenI_ge : ∀ ts : List (List UInt8), ts.length ≤ lenI ts ∧ ∀ t ∈ ts, t.length ≤ lenI ts
  | [] => by simp [lenI]
  | t :: r => by
    have ih := lenI_ge r
    refine ⟨by simp only [List.length_cons, lenI]; omega, fun u hu => ?_⟩
    rcases List.mem_cons.1 hu with rfl | hu
    · simp only [lenI]; omega
    · have := ih.2 u hu; simp only [lenI]; omega

/-- A slice of texts that came in. -/
theorem open_txt {H : Type} {enc : TypeId × Value → H} {W : World} {fuel : Nat} {c : Value} {y : DataW H × List MemPlace} (h : DataW.trod enc Tryz.prog W 0 (fun _ => true) true fuel 31 [c] = some y) :
    ∃ ts : List (List UInt8), Txt W c ts ∧ lenI ts + 1 ≤ Rows.uptoBulk y.1 := by
  rcases open_strings Tryz.underlying31 Tryz.underlying9 Tryz.cells9 h with ⟨hcs, rfl⟩ | ⟨a, len, cap, ss, hcs, _, hl, hm, hz, rfl, hcell, _⟩
  · obtain rfl : c = .slice none 0 0 := by simpa using hcs
    exact ⟨[], txt_nil W, by simp [lenI, Rows.uptoBulk]⟩
  · obtain rfl : c = .slice (some a) len cap := by simpa using hcs
    have hsl : ss.length = cap := by simpa using hz
    have htl : (ss.take len).length = len := by rw [List.length_take]; omega
    refine ⟨(ss.take len).map fun s => s.data.toList, ⟨some a, cap, by simp only [List.length_map, htl], ?_⟩, ?_⟩
    · by_cases h0 : len = 0
      · left; rw [h0]; rfl
      · right
        obtain ⟨b, off, spot⟩ := a
        have hc := hcell 0 (by omega)
        have hspot : spot = none := by simpa [Addr.add] using World.cell?_spot hc
        subst hspot
        refine ⟨b, off, rfl, by have := cell_lt hc; simpa [Addr.add] using this, fun i hi => ?_⟩
        have hi' : i < len := by rw [List.length_map, htl] at hi; exact hi
        have hci := hcell i (by omega)
        have ea : (Addr.add ⟨b, off, none⟩ i) = ⟨b, off + i, none⟩ := by
          by_cases e0 : i = 0
          · subst e0; rfl
          · simp [Addr.add, e0]
        rw [ea] at hci
        rw [hci]
        have hi2 : i < ss.length := by omega
        simp only [List.getElem_map, List.getElem_take, ofL_self]
        simp [List.getD, hi2]
    · simp only [Rows.uptoBulk]
      have := bulk_strs (H := H) (ss.take len)
      omega

set_option maxRecDepth 100000 in
theorem open_sem {H : Type} {enc : TypeId × Value → H} {W : World} {base : Nat} {v : Value} {d : DataW H} {p : List MemPlace} (hok : Value.okWide Tryz.prog W .any base 33 v)
    (h : ∃ m, DataW.trod enc Tryz.prog W 0 (fun _ => true) true m 33 v.cells.toList = some (d, p)) : ∃ x : SemL, SemAt W v x ∧ lenS x ≤ Rows.uptoBulk d := by
  obtain ⟨m, hm⟩ := h
  obtain ⟨cs, rfl, hsz⟩ := okWide_struct Tryz.underlying33 hok
  rw [Tryz.cells33] at hsz
  obtain ⟨xs, n, _, hx, _, hxl, hf⟩ := DataW.trod_struct Tryz.underlying33 hm
  obtain ⟨c0, c1, c2, c3, c4, rfl⟩ : ∃ c0 c1 c2 c3 c4, cs = #[c0, c1, c2, c3, c4] := by
    rcases cs with ⟨l⟩
    match l, hsz with
    | [c0, c1, c2, c3, c4], _ => exact ⟨c0, c1, c2, c3, c4, rfl⟩
  obtain ⟨y0, y1, y2, y3, y4, rfl⟩ : ∃ y0 y1 y2 y3 y4, xs = [y0, y1, y2, y3, y4] := by
    match xs, hxl with
    | [y0, y1, y2, y3, y4], _ => exact ⟨y0, y1, y2, y3, y4, rfl⟩
  have e9 := Tryz.cells9
  have e22 := Tryz.cells31
  have f0 := hf 0 _ rfl
  have f1 := hf 1 _ rfl
  have f2 := hf 2 _ rfl
  have f3 := hf 3 _ rfl
  have f4 := hf 4 _ rfl
  simp only [Value.cells] at f0 f1 f2 f3 f4
  obtain ⟨s0, g0, hy0, _⟩ := DataW.trod_string (cs := [c0]) Tryz.underlying9 (f0 : DataW.trod enc Tryz.prog W 0 _ true n 9 [c0] = some y0)
  obtain ⟨s1, g1, hy1, _⟩ := DataW.trod_string (cs := [c1]) Tryz.underlying9 (f1 : DataW.trod enc Tryz.prog W 0 _ true n 9 [c1] = some y1)
  obtain ⟨s2, g2, hy2, _⟩ := DataW.trod_string (cs := [c2]) Tryz.underlying9 (f2 : DataW.trod enc Tryz.prog W 0 _ true n 9 [c2] = some y2)
  obtain ⟨t3, T3, l3⟩ := open_txt (f3 : DataW.trod enc Tryz.prog W 0 _ true n 31 [c3] = some y3)
  obtain ⟨t4, T4, l4⟩ := open_txt (f4 : DataW.trod enc Tryz.prog W 0 _ true n 31 [c4] = some y4)
  obtain rfl : c0 = .string s0 := by simpa using g0
  obtain rfl : c1 = .string s1 := by simpa using g1
  obtain rfl : c2 = .string s2 := by simpa using g2
  subst hy0 hy1 hy2
  refine ⟨⟨s0.data.toList, s1.data.toList, s2.data.toList, t3, t4⟩, ⟨c3, c4, by simp only [ofL_self], T3, T4⟩, ?_⟩
  cases hx
  simp only [lenS, List.map_cons, List.map_nil, Rows.uptoBulk, Rows.uptoBulkAll]
  omega

theorem short_of (x : SemL) (h : lenS x ≤ 1048576) : ShortS x := by
  have h1 := lenI_ge x.pre
  have h2 := lenI_ge x.bld
  unfold lenS at h
  exact ⟨by omega, by omega, by omega, ⟨by omega, fun t ht => by have := h1.2 t ht; omega⟩, ⟨by omega, fun t ht => by have := h2.2 t ht; omega⟩⟩
theorem len_wrap (x : SemL) (h : lenS x ≤ 1048576) : wrap64 (lenS x : Int) = (lenS x : Int) := wrap_id _ (by omega)

end Go.Proofs.YtaflflelcdcanaaGreat
