/-
  Walks: the row of releases behind a version of releases alone.
-/
import Derived.Test.YtagnikhkmaplpaaGreatQe
import Derived.Test.YtagnikhkmaplpaaGreatPv
import Derived.ProofKit
import Derived.OpenShut
import Derived.ShutString
import Derived.ChangeOld
import Derived.Below
import Derived.SizedLaws
import Derived.SliceStrings
import Derived.Deep.Fields
import Derived.Test.YtagnikhkmaplpaaGreatQu
namespace Go.Proofs.YtagnikhkmaplpaaGreat
open Go.RowKit Go.Shelf
set_option linter.unusedVariables false

/-- What the row has behind the release, without the first. -/
def words : List (List UInt8) := ends.tail
/-- One of them. -/
def endA (j : Nat) : List UInt8 := ends.getD j []
theorem endA_eq (j : Nat) (h : j < ends.length) : endA j = ends[j] := by
  unfold endA
  rw [List.getD_eq_getElem?_getD, List.getElem?_eq_getElem h]
  rfl
theorem words_at (j : Nat) (h : j < 11) : words[j]'(by show j < 11; exact h) = endA (j + 1) := by
  rw [endA_eq (j + 1) (by show j + 1 < 12; omega)]
  unfold words
  exact List.getElem_tail _
theorem ends_short : ∀ e ∈ ends, e.length ≤ 11 := by decide
theorem endA_short (j : Nat) : (endA j).length ≤ 11 := by
  by_cases h : j < ends.length
  · rw [endA_eq j h]
    exact ends_short _ (List.getElem_mem h)
  · unfold endA
    rw [List.getD_eq_getElem?_getD, List.getElem?_eq_none (by omega)]
    simp
theorem ends_rowA {ep : List UInt8} {rel : List (List UInt8)} (h : RelL ep rel) (j : Nat) (hj : j < 11) (h1 : (baseL ep rel ++ endA j).length ≤ 64) (h2 : (baseL ep rel ++ endA (j + 1)).length ≤ 64) : cmpT (baseL ep rel ++ endA j) (baseL ep rel ++ endA (j + 1)) = -1 := by
  have k1 : j + 1 < ends.length := by show j + 1 < 12; omega
  rw [endA_eq j (by omega), endA_eq (j + 1) k1] at *
  exact ends_row h j k1 h1 h2
theorem base_len (ep : List UInt8) (rel : List (List UInt8)) : (baseL ep rel).length ≤ ep.length + 1 + lenI rel := by
  have := joinL_len rel
  unfold baseL
  rw [List.length_append]
  split
  · simp; omega
  · simp; omega
theorem relL_of {ep : List UInt8} {rel : List (List UInt8)} {c : Int} {n : List UInt8} {b : Bool} {m : List UInt8} {d : Bool} {k : List UInt8} {loc : List (List UInt8)} (h : fitR ⟨ep, rel, c, n, b, m, d, k, loc⟩ = true) : RelL ep rel := by
  unfold fitR at h
  simp only [Bool.and_eq_true, Bool.not_eq_true', List.isEmpty_eq_false_iff, List.all_eq_true] at h
  exact ⟨h.1, h.2.1, h.2.2.2.1⟩
theorem words_below {W W' : World} {A : Nat} {ws : List (List UInt8)} (h : WordsAt W A ws) (hb : Below W.heap.size W W') : WordsAt W' A ws := (hb.block A (Array.getElem?_eq_some_iff.1 h).1).trans h

end Go.Proofs.YtagnikhkmaplpaaGreat

/-
  A version that came in, opened: its parts, and how long they are.
-/
namespace Go.Proofs.YtagnikhkmaplpaaGreat
open Go.ChangeShapes Go.WideShapes Go.ChangeAt Go.RowKit
set_option linter.unusedVariables false

theorem Tryz.cells4 : Tryz.prog.cellsOf 4 = 1 := by kernel_rfl
theorem Tryz.cells5 : Tryz.prog.cellsOf 5 = 1 := by kernel_rfl
theorem Tryz.cells9 : Tryz.prog.cellsOf 9 = 1 := by kernel_rfl
theorem Tryz.cells22 : Tryz.prog.cellsOf 22 = 1 := by kernel_rfl
theorem Tryz.cells24 : Tryz.prog.cellsOf 24 = 9 := by kernel_rfl

theorem bulk_strs {H : Type} : ∀ ss : List ByteArray, Rows.uptoBulkAll (H := H) (Go.ChangeShapes.strs ss) = lenI (ss.map fun s => s.data.toList)
  | [] => rfl
  | s :: r => by
    have ih := bulk_strs (H := H) r
    simp only [Go.ChangeShapes.strs, List.map_cons, Rows.uptoBulkAll, Rows.uptoBulk, lenI] at ih ⊢
    omega
/-- A slice of texts that came in. -/
theorem open_txt {H : Type} {enc : TypeId × Value → H} {W : World} {fuel : Nat} {c : Value} {y : DataW H × List MemPlace} (h : DataW.trod enc Tryz.prog W 0 (fun _ => true) true fuel 22 [c] = some y) :
    ∃ ts : List (List UInt8), Txt W c ts ∧ lenI ts + 1 ≤ Rows.uptoBulk y.1 := by
  rcases open_strings Tryz.underlying22 Tryz.underlying9 Tryz.cells9 h with ⟨hcs, rfl⟩ | ⟨a, len, cap, ss, hcs, _, hl, hm, hz, rfl, hcell, _⟩
  · obtain rfl : c = .slice none 0 0 := by simpa using hcs
    exact ⟨[], ⟨none, 0, rfl, .inl rfl⟩, by simp [lenI, Rows.uptoBulk]⟩
  · obtain rfl : c = .slice (some a) len cap := by simpa using hcs
    have hsl : ss.length = cap := by simpa using hz
    have htl : (ss.take len).length = len := by rw [List.length_take]; omega
    refine ⟨(ss.take len).map fun s => s.data.toList, ⟨some a, cap, by simp only [List.length_map, htl], ?_⟩, ?_⟩
    · by_cases h0 : len = 0
      · left; rw [h0]; rfl
      · right
        obtain ⟨b, off, spot⟩ := a
        have hc := hcell 0 (by omega)
        have hspot : spot = none := by simpa [Addr.add] using World.cell?_spot hc
        subst hspot
        refine ⟨b, off, rfl, by have := cell_lt hc; simpa [Addr.add] using this, fun i hi => ?_⟩
        have hi' : i < len := by rw [List.length_map, htl] at hi; exact hi
        have hci := hcell i (by omega)
        have ea : (Addr.add ⟨b, off, none⟩ i) = ⟨b, off + i, none⟩ := by
          by_cases e0 : i = 0
          · subst e0; rfl
          · simp [Addr.add, e0]
        rw [ea] at hci
        rw [hci]
        have hi2 : i < ss.length := by omega
        simp only [List.getElem_map, List.getElem_take, ofL_self]
        simp [List.getD, hi2]
    · simp only [Rows.uptoBulk]
      have := bulk_strs (H := H) (ss.take len)
      omega

/-- How great a version is. -/
def lenP (x : PepL) : Nat := x.ep.length + lenI x.rel + x.n.length + x.m.length + x.k.length + lenI x.loc
theorem mid_of (x : PepL) (h : lenP x ≤ 1048576) : MidP x := by
  have h1 := lenI_ge x.rel
  have h2 := lenI_ge x.loc
  unfold lenP at h
  exact ⟨by omega, by omega, by omega, by omega, ⟨by omega, fun t ht => by have := h1.2 t ht; omega⟩, ⟨by omega, fun t ht => by have := h2.2 t ht; omega⟩⟩

set_option maxRecDepth 100000 in
theorem open_pep {H : Type} {enc : TypeId × Value → H} {W : World} {base : Nat} {v : Value} {d : DataW H} {p : List MemPlace} (hok : Value.okWide Tryz.prog W .any base 24 v)
    (h : ∃ m, DataW.trod enc Tryz.prog W 0 (fun _ => true) true m 24 v.cells.toList = some (d, p)) :
    ∃ (x : PepL) (r1 q1 : Option Addr) (c1 d1 : Nat), v = .agg #[.string (ofL x.ep), .slice r1 x.rel.length c1, .int .u8 x.c, .string (ofL x.n), .bool x.b, .string (ofL x.m), .bool x.d, .string (ofL x.k), .slice q1 x.loc.length d1] ∧
      Txt W (.slice r1 x.rel.length c1) x.rel ∧ Txt W (.slice q1 x.loc.length d1) x.loc ∧ lenP x ≤ Rows.uptoBulk d := by
  obtain ⟨m, hm⟩ := h
  obtain ⟨cs, rfl, hsz⟩ := okWide_struct Tryz.underlying24 hok
  rw [Tryz.cells24] at hsz
  obtain ⟨xs, n, _, hx, _, hxl, hf⟩ := DataW.trod_struct Tryz.underlying24 hm
  obtain ⟨c0, c1, c2, c3, c4, c5, c6, c7, c8, rfl⟩ : ∃ c0 c1 c2 c3 c4 c5 c6 c7 c8, cs = #[c0, c1, c2, c3, c4, c5, c6, c7, c8] := by
    rcases cs with ⟨l⟩
    match l, hsz with
    | [c0, c1, c2, c3, c4, c5, c6, c7, c8], _ => exact ⟨c0, c1, c2, c3, c4, c5, c6, c7, c8, rfl⟩
  obtain ⟨y0, y1, y2, y3, y4, y5, y6, y7, y8, rfl⟩ : ∃ y0 y1 y2 y3 y4 y5 y6 y7 y8, xs = [y0, y1, y2, y3, y4, y5, y6, y7, y8] := by
    match xs, hxl with
    | [y0, y1, y2, y3, y4, y5, y6, y7, y8], _ => exact ⟨y0, y1, y2, y3, y4, y5, y6, y7, y8, rfl⟩
  have e4 := Tryz.cells4
  have e5 := Tryz.cells5
  have e9 := Tryz.cells9
  have e23 := Tryz.cells22
  have f0 := hf 0 _ rfl
  have f1 := hf 1 _ rfl
  have f2 := hf 2 _ rfl
  have f3 := hf 3 _ rfl
  have f4 := hf 4 _ rfl
  have f5 := hf 5 _ rfl
  have f6 := hf 6 _ rfl
  have f7 := hf 7 _ rfl
  have f8 := hf 8 _ rfl
  simp only [Value.cells] at f0 f1 f2 f3 f4 f5 f6 f7 f8
  obtain ⟨s0, g0, hy0, _⟩ := DataW.trod_string (cs := [c0]) Tryz.underlying9 (f0 : DataW.trod enc Tryz.prog W 0 _ true n 9 [c0] = some y0)
  obtain rfl : c0 = .string s0 := by simpa using g0
  obtain ⟨t1, T1, l1⟩ := open_txt (f1 : DataW.trod enc Tryz.prog W 0 _ true n 22 [c1] = some y1)
  obtain ⟨a1, k1, rfl, _⟩ := id T1
  obtain ⟨s2, g2, hy2, _⟩ := DataW.trod_int (cs := [c2]) Tryz.underlying5 (f2 : DataW.trod enc Tryz.prog W 0 _ true n 5 [c2] = some y2)
  obtain rfl : c2 = .int .u8 s2 := by simpa using g2
  obtain ⟨s3, g3, hy3, _⟩ := DataW.trod_string (cs := [c3]) Tryz.underlying9 (f3 : DataW.trod enc Tryz.prog W 0 _ true n 9 [c3] = some y3)
  obtain rfl : c3 = .string s3 := by simpa using g3
  obtain ⟨s4, g4, hy4⟩ := DataW.trod_bool (cs := [c4]) Tryz.underlying4 (f4 : DataW.trod enc Tryz.prog W 0 _ true n 4 [c4] = some y4)
  obtain rfl : c4 = .bool s4 := by simpa using g4
  obtain ⟨s5, g5, hy5, _⟩ := DataW.trod_string (cs := [c5]) Tryz.underlying9 (f5 : DataW.trod enc Tryz.prog W 0 _ true n 9 [c5] = some y5)
  obtain rfl : c5 = .string s5 := by simpa using g5
  obtain ⟨s6, g6, hy6⟩ := DataW.trod_bool (cs := [c6]) Tryz.underlying4 (f6 : DataW.trod enc Tryz.prog W 0 _ true n 4 [c6] = some y6)
  obtain rfl : c6 = .bool s6 := by simpa using g6
  obtain ⟨s7, g7, hy7, _⟩ := DataW.trod_string (cs := [c7]) Tryz.underlying9 (f7 : DataW.trod enc Tryz.prog W 0 _ true n 9 [c7] = some y7)
  obtain rfl : c7 = .string s7 := by simpa using g7
  obtain ⟨t8, T8, l8⟩ := open_txt (f8 : DataW.trod enc Tryz.prog W 0 _ true n 22 [c8] = some y8)
  obtain ⟨a8, k8, rfl, _⟩ := id T8
  subst hy0 hy2 hy3 hy4 hy5 hy6 hy7
  refine ⟨⟨s0.data.toList, t1, s2, s3.data.toList, s4, s5.data.toList, s6, s7.data.toList, t8⟩, a1, a8, k1, k8, by simp only [ofL_self], T1, T8, ?_⟩
  cases hx
  simp only [lenP, List.map_cons, List.map_nil, Rows.uptoBulk, Rows.uptoBulkAll]
  omega

end Go.Proofs.YtagnikhkmaplpaaGreat

/-
  Walks: the text of a fit version by the document; small versions.
-/
namespace Go.Proofs.YtagnikhkmaplpaaGreat
open Go.RowKit Go.Shelf
set_option linter.unusedVariables false

theorem fit_of {x : PepL} (h : fitR x = true) : FitT x := by
  unfold fitR letB at h
  simp only [Bool.and_eq_true, Bool.or_eq_true, beq_iff_eq, Bool.not_eq_true', List.isEmpty_eq_false_iff] at h
  obtain ⟨h1, h2, h3, h4, h5, h6, h7, h8⟩ := h
  exact ⟨h1, h2, h4, by omega, h6, h7, h8, h5⟩
theorem Rraw_any (x : PepL) (r1 q1 : Option Addr) (c1 d1 : Nat) (w : World) (rr : Txt w (.slice r1 x.rel.length c1) x.rel) (ll : Txt w (.slice q1 x.loc.length d1) x.loc) (hl : lenP x ≤ 1048576) (hc : x.c = 0 ∨ x.c = 97 ∨ x.c = 98 ∨ x.c = 114) :
    Calls Tryz.prog 34 #[.agg #[.string (ofL x.ep), .slice r1 x.rel.length c1, .int .u8 x.c, .string (ofL x.n), .bool x.b, .string (ofL x.m), .bool x.d, .string (ofL x.k), .slice q1 x.loc.length d1]] w fun e w' => e = .returned (.string (ofL (textP x))) ∧ Below w.heap.size w w' := by
  unfold lenP at hl
  obtain ⟨ep, rel, c, n, b, m, d, k, loc⟩ := x
  dsimp only at hl hc rr ll ⊢
  by_cases he : ep = [48]
  · rcases hc with rfl | rfl | rfl | rfl
    · exact Rraw_z0 ep rel n b m d k loc r1 q1 c1 d1 w rr ll hl he
    · exact Rraw_z97 ep rel n b m d k loc r1 q1 c1 d1 w rr ll hl he
    · exact Rraw_z98 ep rel n b m d k loc r1 q1 c1 d1 w rr ll hl he
    · exact Rraw_z114 ep rel n b m d k loc r1 q1 c1 d1 w rr ll hl he
  · rcases hc with rfl | rfl | rfl | rfl
    · exact Rraw_e0 ep rel n b m d k loc r1 q1 c1 d1 w rr ll hl he
    · exact Rraw_e97 ep rel n b m d k loc r1 q1 c1 d1 w rr ll hl he
    · exact Rraw_e98 ep rel n b m d k loc r1 q1 c1 d1 w rr ll hl he
    · exact Rraw_e114 ep rel n b m d k loc r1 q1 c1 d1 w rr ll hl he

set_option maxRecDepth 100000 in
set_option maxHeartbeats 2000000 in
theorem RText_any (x : PepL) (r1 q1 : Option Addr) (c1 d1 : Nat) (w : World) (rr : Txt w (.slice r1 x.rel.length c1) x.rel) (ll : Txt w (.slice q1 x.loc.length d1) x.loc) (hl : lenP x ≤ 1048576) (hf : fitR x = true) :
    Calls Tryz.prog 17 #[.agg #[.string (ofL x.ep), .slice r1 x.rel.length c1, .int .u8 x.c, .string (ofL x.n), .bool x.b, .string (ofL x.m), .bool x.d, .string (ofL x.k), .slice q1 x.loc.length d1]] w fun e w' => e = .returned (.string (ofL (textP x))) ∧ Below w.heap.size w w' := by
  have S0 : TB w x r1 q1 c1 d1 (w.alloc (.cells #[.string (ofL x.ep), .slice r1 x.rel.length c1, .int .u8 x.c, .string (ofL x.n), .bool x.b, .string (ofL x.m), .bool x.d, .string (ofL x.k), .slice q1 x.loc.length d1] 24)) := TB.start rr ll
  have FT := fun (W : World) (hW : TB w x r1 q1 c1 d1 W) => RFit_any x r1 q1 c1 d1 W hW.rr hW.ll (mid_of x hl)
  rw [hf] at FT
  have RW := fun (W : World) (hW : TB w x r1 q1 c1 d1 W) => Rraw_any x r1 q1 c1 d1 W hW.rr hW.ll hl (fit_of hf).f4
  have FT := hide FT
  have RW := hide RW
  clear rr ll hf hl
  obtain ⟨s0, s1, s2, s3, s4, s5, s6, s7, s8⟩ := S0.seen
  have HS := hide S0
  clear S0
  go_enter Tryz.func17, Tryz.ntmps17
  go_wp2_with fail
  generalize w.alloc (.cells #[.string (ofL x.ep), .slice r1 x.rel.length c1, .int .u8 x.c, .string (ofL x.n), .bool x.b, .string (ofL x.m), .bool x.d, .string (ofL x.k), .slice q1 x.loc.length d1] 24) = W0 at *
  refine (FT.out _ HS.out).mono ?_
  rintro e w2 ⟨rfl, b2⟩
  have S2 := HS.out.next b2
  clear s0 s1 s2 s3 s4 s5 s6 s7 s8
  obtain ⟨s0, s1, s2, s3, s4, s5, s6, s7, s8⟩ := S2.seen
  have H2 := hide S2
  clear S2
  go_wp2_with fail
  refine (RW.out _ H2.out).mono ?_
  rintro e w3 ⟨rfl, b3⟩
  go_wp2_with fail
  go_ret
  exact ⟨rfl, (H2.out.next b3).bel⟩

theorem joinL_len' (ts : List (List UInt8)) (h : ts ≠ []) : (joinL ts).length + 1 = lenI ts := by
  cases ts with
  | nil => exact absurd rfl h
  | cons t r =>
    have hd : ∀ us : List (List UInt8), (dotted us).length = lenI us := by
      intro us
      induction us with
      | nil => rfl
      | cons u v ih => simp only [dotted, List.flatMap_cons, List.length_append, List.length_cons, lenI] at ih ⊢; omega
    simp only [joinL, List.length_append, lenI, hd]
    omega
theorem small_row (ts : List (List UInt8)) (h : lenI ts ≤ 65) : ts.length ≤ 65 ∧ ∀ t ∈ ts, t.length ≤ 65 := by
  have := lenI_ge ts
  exact ⟨by omega, fun t ht => by have := this.2 t ht; omega⟩
theorem small_of (x : PepL) (hf : FitT x) (h : (textP x).length ≤ 64) : SmallP x := by
  have e1 : (textP x).length = (baseL x.ep x.rel).length + ((preT x).length + ((postT x).length + ((devT x).length + (locT x).length))) := by
    unfold textP tailT
    simp only [List.length_append]
  have e2 := joinL_len' x.rel hf.f2
  have e3 : (joinL x.rel).length ≤ (baseL x.ep x.rel).length := by unfold baseL; simp
  have l5 : lenI x.loc ≤ 65 := by
    by_cases hl : x.loc = []
    · rw [hl]; decide
    · have e4 := joinL_len' x.loc hl
      have : (joinL x.loc).length + 1 ≤ (locT x).length := by unfold locT; rw [if_neg hl]; simp
      omega
  refine ⟨?_, ?_, ?_, ?_, wide65 (small_row _ (by omega)), wide65 (small_row _ l5), by omega, by omega⟩
  · by_cases he : x.ep = [48]
    · rw [he]; decide
    · have : x.ep.length ≤ (baseL x.ep x.rel).length := by unfold baseL; rw [if_neg he]; simp
      omega
  · by_cases hc : x.c = 0
    · have : x.n = [] := num_false hf.f5 (by simpa using hc)
      rw [this]; decide
    · have : x.n.length ≤ (preT x).length := by unfold preT; rw [if_neg hc]; simp
      omega
  · cases hb : x.b
    · have : x.m = [] := num_false hf.f6 hb
      rw [this]; decide
    · have : x.m.length ≤ (postT x).length := by unfold postT; rw [hb]; simp; omega
      omega
  · cases hb : x.d
    · have : x.k = [] := num_false hf.f7 hb
      rw [this]; decide
    · have : x.k.length ≤ (devT x).length := by unfold devT; rw [hb]; simp; omega
      omega
theorem text_ne (x : PepL) (hf : FitT x) : ((ofL (textP x)).toList == []) = false := by
  obtain ⟨c, r, hb, _⟩ := base_digit ⟨hf.f1, hf.f2, List.all_eq_true.1 hf.f3⟩
  rw [toL, ofL_data]
  unfold textP
  rw [hb]
  rfl

end Go.Proofs.YtagnikhkmaplpaaGreat
