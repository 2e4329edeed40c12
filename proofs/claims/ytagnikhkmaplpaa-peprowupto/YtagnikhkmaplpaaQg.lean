/-
  A version that came in, opened: its parts, and how long they are.
-/
import Derived.Test.YtagnikhkmaplpaaQf
import Derived.ProofKit
import Derived.OpenShut
import Derived.ShutString
import Derived.ChangeOld
import Derived.Below
import Derived.SizedLaws
import Derived.SliceStrings
import Derived.Deep.Fields
namespace Go.Proofs.Ytagnikhkmaplpaa
open Go.ChangeShapes Go.WideShapes Go.ChangeAt Go.RowKit
set_option linter.unusedVariables false

theorem Try.cells4 : Try.prog.cellsOf 4 = 1 := by kernel_rfl
theorem Try.cells5 : Try.prog.cellsOf 5 = 1 := by kernel_rfl
theorem Try.cells9 : Try.prog.cellsOf 9 = 1 := by kernel_rfl
theorem Try.cells23 : Try.prog.cellsOf 23 = 1 := by kernel_rfl
theorem Try.cells25 : Try.prog.cellsOf 25 = 9 := by kernel_rfl

theorem bulk_strs {H : Type} : ∀ ss : List ByteArray, Rows.uptoBulkAll (H := H) (Go.ChangeShapes.strs ss) = lenI (ss.map fun s => s.data.toList)
  | [] => rfl
  | s :: r => by
    have ih := bulk_strs (H := H) r
    simp only [Go.ChangeShapes.strs, List.map_cons, Rows.uptoBulkAll, Rows.uptoBulk, lenI] at ih ⊢
    omega
/-- A slice of texts that came in. -/
theorem open_txt {H : Type} {enc : TypeId × Value → H} {W : World} {fuel : Nat} {c : Value} {y : DataW H × List MemPlace} (h : DataW.trod enc Try.prog W 0 (fun _ => true) true fuel 23 [c] = some y) :
    ∃ ts : List (List UInt8), Txt W c ts ∧ lenI ts + 1 ≤ Rows.uptoBulk y.1 := by
  rcases open_strings Try.underlying23 Try.underlying9 Try.cells9 h with ⟨hcs, rfl⟩ | ⟨a, len, cap, ss, hcs, _, hl, hm, hz, rfl, hcell, _⟩
  · obtain rfl : c = .slice none 0 0 := by simpa using hcs
    exact ⟨[], ⟨none, 0, rfl, .inl rfl⟩, by simp [lenI, Rows.uptoBulk]⟩
  · obtain rfl : c = .slice (some a) len cap := by simpa using hcs
    have hsl : ss.length = cap := by simpa using hz
    have htl : (ss.take len).length = len := by rw [List.length_take]; omega
    refine ⟨(ss.take len).map fun s => s.data.toList, ⟨some a, cap, by simp only [List.length_map, htl], ?_⟩, ?_⟩
    · by_cases h0 : len = 0
      · left; rw [h0]; rfl
      · right
        obtain ⟨b, off, spot⟩ := a
        have hc := hcell 0 (by omega)
        have hspot : spot = none := by simpa [Addr.add] using World.cell?_spot hc
        subst hspot
        refine ⟨b, off, rfl, by have := cell_lt hc; simpa [Addr.add] using this, fun i hi => ?_⟩
        have hi' : i < len := by rw [List.length_map, htl] at hi; exact hi
        have hci := hcell i (by omega)
        have ea : (Addr.add ⟨b, off, none⟩ i) = ⟨b, off + i, none⟩ := by
          by_cases e0 : i = 0
          · subst e0; rfl
          · simp [Addr.add, e0]
        rw [ea] at hci
        rw [hci]
        have hi2 : i < ss.length := by omega
        simp only [List.getElem_map, List.getElem_take, ofL_self]
        simp [List.getD, hi2]
    · simp only [Rows.uptoBulk]
      have := bulk_strs (H := H) (ss.take len)
      omega

/-- How great a version is. -/
def lenP (x : PepL) : Nat := x.ep.length + lenI x.rel + x.n.length + x.m.length + x.k.length + lenI x.loc
theorem mid_of (x : PepL) (h : lenP x ≤ 1048576) : MidP x := by
  have h1 := lenI_ge x.rel
  have h2 := lenI_ge x.loc
  unfold lenP at h
  exact ⟨by omega, by omega, by omega, by omega, ⟨by omega, fun t ht => by have := h1.2 t ht; omega⟩, ⟨by omega, fun t ht => by have := h2.2 t ht; omega⟩⟩

set_option maxRecDepth 100000 in
theorem open_pep {H : Type} {enc : TypeId × Value → H} {W : World} {base : Nat} {v : Value} {d : DataW H} {p : List MemPlace} (hok : Value.okWide Try.prog W .any base 25 v)
    (h : ∃ m, DataW.trod enc Try.prog W 0 (fun _ => true) true m 25 v.cells.toList = some (d, p)) :
    ∃ (x : PepL) (r1 q1 : Option Addr) (c1 d1 : Nat), v = .agg #[.string (ofL x.ep), .slice r1 x.rel.length c1, .int .u8 x.c, .string (ofL x.n), .bool x.b, .string (ofL x.m), .bool x.d, .string (ofL x.k), .slice q1 x.loc.length d1] ∧
      Txt W (.slice r1 x.rel.length c1) x.rel ∧ Txt W (.slice q1 x.loc.length d1) x.loc ∧ lenP x ≤ Rows.uptoBulk d := by
  obtain ⟨m, hm⟩ := h
  obtain ⟨cs, rfl, hsz⟩ := okWide_struct Try.underlying25 hok
  rw [Try.cells25] at hsz
  obtain ⟨xs, n, _, hx, _, hxl, hf⟩ := DataW.trod_struct Try.underlying25 hm
  obtain ⟨c0, c1, c2, c3, c4, c5, c6, c7, c8, rfl⟩ : ∃ c0 c1 c2 c3 c4 c5 c6 c7 c8, cs = #[c0, c1, c2, c3, c4, c5, c6, c7, c8] := by
    rcases cs with ⟨l⟩
    match l, hsz with
    | [c0, c1, c2, c3, c4, c5, c6, c7, c8], _ => exact ⟨c0, c1, c2, c3, c4, c5, c6, c7, c8, rfl⟩
  obtain ⟨y0, y1, y2, y3, y4, y5, y6, y7, y8, rfl⟩ : ∃ y0 y1 y2 y3 y4 y5 y6 y7 y8, xs = [y0, y1, y2, y3, y4, y5, y6, y7, y8] := by
    match xs, hxl with
    | [y0, y1, y2, y3, y4, y5, y6, y7, y8], _ => exact ⟨y0, y1, y2, y3, y4, y5, y6, y7, y8, rfl⟩
  have e4 := Try.cells4
  have e5 := Try.cells5
  have e9 := Try.cells9
  have e23 := Try.cells23
  have f0 := hf 0 _ rfl
  have f1 := hf 1 _ rfl
  have f2 := hf 2 _ rfl
  have f3 := hf 3 _ rfl
  have f4 := hf 4 _ rfl
  have f5 := hf 5 _ rfl
  have f6 := hf 6 _ rfl
  have f7 := hf 7 _ rfl
  have f8 := hf 8 _ rfl
  simp only [Value.cells] at f0 f1 f2 f3 f4 f5 f6 f7 f8
  obtain ⟨s0, g0, hy0, _⟩ := DataW.trod_string (cs := [c0]) Try.underlying9 (f0 : DataW.trod enc Try.prog W 0 _ true n 9 [c0] = some y0)
  obtain rfl : c0 = .string s0 := by simpa using g0
  obtain ⟨t1, T1, l1⟩ := open_txt (f1 : DataW.trod enc Try.prog W 0 _ true n 23 [c1] = some y1)
  obtain ⟨a1, k1, rfl, _⟩ := id T1
  obtain ⟨s2, g2, hy2, _⟩ := DataW.trod_int (cs := [c2]) Try.underlying5 (f2 : DataW.trod enc Try.prog W 0 _ true n 5 [c2] = some y2)
  obtain rfl : c2 = .int .u8 s2 := by simpa using g2
  obtain ⟨s3, g3, hy3, _⟩ := DataW.trod_string (cs := [c3]) Try.underlying9 (f3 : DataW.trod enc Try.prog W 0 _ true n 9 [c3] = some y3)
  obtain rfl : c3 = .string s3 := by simpa using g3
  obtain ⟨s4, g4, hy4⟩ := DataW.trod_bool (cs := [c4]) Try.underlying4 (f4 : DataW.trod enc Try.prog W 0 _ true n 4 [c4] = some y4)
  obtain rfl : c4 = .bool s4 := by simpa using g4
  obtain ⟨s5, g5, hy5, _⟩ := DataW.trod_string (cs := [c5]) Try.underlying9 (f5 : DataW.trod enc Try.prog W 0 _ true n 9 [c5] = some y5)
  obtain rfl : c5 = .string s5 := by simpa using g5
  obtain ⟨s6, g6, hy6⟩ := DataW.trod_bool (cs := [c6]) Try.underlying4 (f6 : DataW.trod enc Try.prog W 0 _ true n 4 [c6] = some y6)
  obtain rfl : c6 = .bool s6 := by simpa using g6
  obtain ⟨s7, g7, hy7, _⟩ := DataW.trod_string (cs := [c7]) Try.underlying9 (f7 : DataW.trod enc Try.prog W 0 _ true n 9 [c7] = some y7)
  obtain rfl : c7 = .string s7 := by simpa using g7
  obtain ⟨t8, T8, l8⟩ := open_txt (f8 : DataW.trod enc Try.prog W 0 _ true n 23 [c8] = some y8)
  obtain ⟨a8, k8, rfl, _⟩ := id T8
  subst hy0 hy2 hy3 hy4 hy5 hy6 hy7
  refine ⟨⟨s0.data.toList, t1, s2, s3.data.toList, s4, s5.data.toList, s6, s7.data.toList, t8⟩, a1, a8, k1, k8, by simp only [ofL_self], T1, T8, ?_⟩
  cases hx
  simp only [lenP, List.map_cons, List.map_nil, Rows.uptoBulk, Rows.uptoBulkAll]
  omega

theorem row_walk (x : PepL) (r1 q1 : Option Addr) (c1 d1 : Nat) (s : ByteArray) (w : World) (rr : Txt w (.slice r1 x.rel.length c1) x.rel) (ll : Txt w (.slice q1 x.loc.length d1) x.loc) (hl : lenP x ≤ 1048576) :
    Calls Try.prog 5 #[.agg #[.string (ofL x.ep), .slice r1 x.rel.length c1, .int .u8 x.c, .string (ofL x.n), .bool x.b, .string (ofL x.m), .bool x.d, .string (ofL x.k), .slice q1 x.loc.length d1], .string s] w fun e w' => e = .returned (.bool true) ∧ Below w.heap.size w w' := by
  have hx := mid_of x hl
  unfold lenP at hl
  obtain ⟨ep, rel, c, n, b, m, d, k, loc⟩ := x
  dsimp only at hl rr ll ⊢
  cases hf : fitR ⟨ep, rel, c, n, b, m, d, k, loc⟩
  · exact row_fit ep rel n b m d k loc r1 q1 c1 d1 c s w rr ll hx hf
  · by_cases hc : c = 0
    · subst hc
      cases b
      · cases d
        · by_cases h0 : loc = []
          · subst h0
            exact row_main ep rel n m k r1 q1 c1 d1 s w rr hx (by omega) hf
          · exact row_loc ep rel n m k loc r1 q1 c1 d1 s w rr ll hx hf h0
        · exact row_dev ep rel n m k loc r1 q1 c1 d1 s w rr ll hx hf
      · exact row_post ep rel n m d k loc r1 q1 c1 d1 s w rr ll hx hf
    · exact row_pre ep rel n b m d k loc r1 q1 c1 d1 c s w rr ll hx hf (by simpa using hc)

end Go.Proofs.Ytagnikhkmaplpaa
