/-
  Walks: the row of releases behind a version of releases alone.
-/
import Derived.Test.YtagnikhkmaplpaaQe
import Derived.Test.YtagnikhkmaplpaaPv
namespace Go.Proofs.Ytagnikhkmaplpaa
open Go.RowKit Go.Shelf
set_option linter.unusedVariables false

set_option maxRecDepth 100000 in
set_option maxHeartbeats 2000000 in
theorem row_fit (ep : List UInt8) (rel : List (List UInt8)) (n : List UInt8) (b : Bool) (m : List UInt8) (d : Bool) (k : List UInt8) (loc : List (List UInt8)) (r1 q1 : Option Addr) (c1 d1 : Nat) (c : Int) (s : ByteArray) (w : World) (rr : Txt w (.slice r1 rel.length c1) rel) (ll : Txt w (.slice q1 loc.length d1) loc) (hx : MidP ⟨ep, rel, c, n, b, m, d, k, loc⟩) (hf : fitR ⟨ep, rel, c, n, b, m, d, k, loc⟩ = false) :
    Calls Try.prog 5 #[.agg #[.string (ofL ep), .slice r1 rel.length c1, .int .u8 c, .string (ofL n), .bool b, .string (ofL m), .bool d, .string (ofL k), .slice q1 loc.length d1], .string s] w fun e w' => e = .returned (.bool true) ∧ Below w.heap.size w w' := by
  have S0 : TB w ⟨ep, rel, c, n, b, m, d, k, loc⟩ r1 q1 c1 d1 (w.alloc (.cells #[.string (ofL ep), .slice r1 rel.length c1, .int .u8 c, .string (ofL n), .bool b, .string (ofL m), .bool d, .string (ofL k), .slice q1 loc.length d1] 25)) := TB.start (x := ⟨ep, rel, c, n, b, m, d, k, loc⟩) rr ll
  have FT := fun (W : World) (hW : TB w ⟨ep, rel, c, n, b, m, d, k, loc⟩ r1 q1 c1 d1 W) => RFit_any ⟨ep, rel, c, n, b, m, d, k, loc⟩ r1 q1 c1 d1 W hW.rr hW.ll hx
  rw [hf] at FT
  dsimp only at FT
  have FT := hide FT
  have AW := hide awake_any
  clear rr ll hf hx
  obtain ⟨s0, s1, s2, s3, s4, s5, s6, s7, s8⟩ := S0.seen
  dsimp only at s0 s1 s2 s3 s4 s5 s6 s7 s8
  have HS := hide S0
  clear S0
  go_enter Try.func5, Try.ntmps5
  go_wp2_with fail
  generalize w.alloc (.cells #[.string (ofL ep), .slice r1 rel.length c1, .int .u8 c, .string (ofL n), .bool b, .string (ofL m), .bool d, .string (ofL k), .slice q1 loc.length d1] 25) = W0 at *
  refine (FT.out _ HS.out).mono ?_
  rintro e w2 ⟨rfl, b2⟩
  have S2 := HS.out.next b2
  clear s0 s1 s2 s3 s4 s5 s6 s7 s8
  obtain ⟨s0, s1, s2, s3, s4, s5, s6, s7, s8⟩ := S2.seen
  dsimp only at s0 s1 s2 s3 s4 s5 s6 s7 s8
  have H2 := hide S2
  clear S2
  go_wp2_with fail
  refine (AW.out _).mono ?_
  rintro e w3 ⟨rfl, b3⟩
  go_wp2_with fail
  go_ret
  exact ⟨rfl, (H2.out.next b3).bel⟩

set_option maxRecDepth 100000 in
set_option maxHeartbeats 2000000 in
theorem row_pre (ep : List UInt8) (rel : List (List UInt8)) (n : List UInt8) (b : Bool) (m : List UInt8) (d : Bool) (k : List UInt8) (loc : List (List UInt8)) (r1 q1 : Option Addr) (c1 d1 : Nat) (c : Int) (s : ByteArray) (w : World) (rr : Txt w (.slice r1 rel.length c1) rel) (ll : Txt w (.slice q1 loc.length d1) loc) (hx : MidP ⟨ep, rel, c, n, b, m, d, k, loc⟩) (hf : fitR ⟨ep, rel, c, n, b, m, d, k, loc⟩ = true) (h0 : (c != 0) = true) :
    Calls Try.prog 5 #[.agg #[.string (ofL ep), .slice r1 rel.length c1, .int .u8 c, .string (ofL n), .bool b, .string (ofL m), .bool d, .string (ofL k), .slice q1 loc.length d1], .string s] w fun e w' => e = .returned (.bool true) ∧ Below w.heap.size w w' := by
  have S0 : TB w ⟨ep, rel, c, n, b, m, d, k, loc⟩ r1 q1 c1 d1 (w.alloc (.cells #[.string (ofL ep), .slice r1 rel.length c1, .int .u8 c, .string (ofL n), .bool b, .string (ofL m), .bool d, .string (ofL k), .slice q1 loc.length d1] 25)) := TB.start (x := ⟨ep, rel, c, n, b, m, d, k, loc⟩) rr ll
  have FT := fun (W : World) (hW : TB w ⟨ep, rel, c, n, b, m, d, k, loc⟩ r1 q1 c1 d1 W) => RFit_any ⟨ep, rel, c, n, b, m, d, k, loc⟩ r1 q1 c1 d1 W hW.rr hW.ll hx
  rw [hf] at FT
  dsimp only at FT
  have FT := hide FT
  have AW := hide awake_any
  clear rr ll hf hx
  obtain ⟨s0, s1, s2, s3, s4, s5, s6, s7, s8⟩ := S0.seen
  dsimp only at s0 s1 s2 s3 s4 s5 s6 s7 s8
  have HS := hide S0
  clear S0
  go_enter Try.func5, Try.ntmps5
  go_wp2_with fail
  generalize w.alloc (.cells #[.string (ofL ep), .slice r1 rel.length c1, .int .u8 c, .string (ofL n), .bool b, .string (ofL m), .bool d, .string (ofL k), .slice q1 loc.length d1] 25) = W0 at *
  refine (FT.out _ HS.out).mono ?_
  rintro e w2 ⟨rfl, b2⟩
  have S2 := HS.out.next b2
  clear s0 s1 s2 s3 s4 s5 s6 s7 s8
  obtain ⟨s0, s1, s2, s3, s4, s5, s6, s7, s8⟩ := S2.seen
  dsimp only at s0 s1 s2 s3 s4 s5 s6 s7 s8
  have H2 := hide S2
  clear S2
  go_wp2_with fail
  refine (AW.out _).mono ?_
  rintro e w3 ⟨rfl, b3⟩
  go_wp2_with fail
  go_ret
  exact ⟨rfl, (H2.out.next b3).bel⟩

set_option maxRecDepth 100000 in
set_option maxHeartbeats 2000000 in
theorem row_post (ep : List UInt8) (rel : List (List UInt8)) (n : List UInt8) (m : List UInt8) (d : Bool) (k : List UInt8) (loc : List (List UInt8)) (r1 q1 : Option Addr) (c1 d1 : Nat) (s : ByteArray) (w : World) (rr : Txt w (.slice r1 rel.length c1) rel) (ll : Txt w (.slice q1 loc.length d1) loc) (hx : MidP ⟨ep, rel, 0, n, true, m, d, k, loc⟩) (hf : fitR ⟨ep, rel, 0, n, true, m, d, k, loc⟩ = true) :
    Calls Try.prog 5 #[.agg #[.string (ofL ep), .slice r1 rel.length c1, .int .u8 0, .string (ofL n), .bool true, .string (ofL m), .bool d, .string (ofL k), .slice q1 loc.length d1], .string s] w fun e w' => e = .returned (.bool true) ∧ Below w.heap.size w w' := by
  have S0 : TB w ⟨ep, rel, 0, n, true, m, d, k, loc⟩ r1 q1 c1 d1 (w.alloc (.cells #[.string (ofL ep), .slice r1 rel.length c1, .int .u8 0, .string (ofL n), .bool true, .string (ofL m), .bool d, .string (ofL k), .slice q1 loc.length d1] 25)) := TB.start (x := ⟨ep, rel, 0, n, true, m, d, k, loc⟩) rr ll
  have FT := fun (W : World) (hW : TB w ⟨ep, rel, 0, n, true, m, d, k, loc⟩ r1 q1 c1 d1 W) => RFit_any ⟨ep, rel, 0, n, true, m, d, k, loc⟩ r1 q1 c1 d1 W hW.rr hW.ll hx
  rw [hf] at FT
  dsimp only at FT
  have FT := hide FT
  have AW := hide awake_any
  clear rr ll hf hx
  obtain ⟨s0, s1, s2, s3, s4, s5, s6, s7, s8⟩ := S0.seen
  dsimp only at s0 s1 s2 s3 s4 s5 s6 s7 s8
  have HS := hide S0
  clear S0
  go_enter Try.func5, Try.ntmps5
  go_wp2_with fail
  generalize w.alloc (.cells #[.string (ofL ep), .slice r1 rel.length c1, .int .u8 0, .string (ofL n), .bool true, .string (ofL m), .bool d, .string (ofL k), .slice q1 loc.length d1] 25) = W0 at *
  refine (FT.out _ HS.out).mono ?_
  rintro e w2 ⟨rfl, b2⟩
  have S2 := HS.out.next b2
  clear s0 s1 s2 s3 s4 s5 s6 s7 s8
  obtain ⟨s0, s1, s2, s3, s4, s5, s6, s7, s8⟩ := S2.seen
  dsimp only at s0 s1 s2 s3 s4 s5 s6 s7 s8
  have H2 := hide S2
  clear S2
  go_wp2_with fail
  refine (AW.out _).mono ?_
  rintro e w3 ⟨rfl, b3⟩
  go_wp2_with fail
  go_ret
  exact ⟨rfl, (H2.out.next b3).bel⟩

set_option maxRecDepth 100000 in
set_option maxHeartbeats 2000000 in
theorem row_dev (ep : List UInt8) (rel : List (List UInt8)) (n : List UInt8) (m : List UInt8) (k : List UInt8) (loc : List (List UInt8)) (r1 q1 : Option Addr) (c1 d1 : Nat) (s : ByteArray) (w : World) (rr : Txt w (.slice r1 rel.length c1) rel) (ll : Txt w (.slice q1 loc.length d1) loc) (hx : MidP ⟨ep, rel, 0, n, false, m, true, k, loc⟩) (hf : fitR ⟨ep, rel, 0, n, false, m, true, k, loc⟩ = true) :
    Calls Try.prog 5 #[.agg #[.string (ofL ep), .slice r1 rel.length c1, .int .u8 0, .string (ofL n), .bool false, .string (ofL m), .bool true, .string (ofL k), .slice q1 loc.length d1], .string s] w fun e w' => e = .returned (.bool true) ∧ Below w.heap.size w w' := by
  have S0 : TB w ⟨ep, rel, 0, n, false, m, true, k, loc⟩ r1 q1 c1 d1 (w.alloc (.cells #[.string (ofL ep), .slice r1 rel.length c1, .int .u8 0, .string (ofL n), .bool false, .string (ofL m), .bool true, .string (ofL k), .slice q1 loc.length d1] 25)) := TB.start (x := ⟨ep, rel, 0, n, false, m, true, k, loc⟩) rr ll
  have FT := fun (W : World) (hW : TB w ⟨ep, rel, 0, n, false, m, true, k, loc⟩ r1 q1 c1 d1 W) => RFit_any ⟨ep, rel, 0, n, false, m, true, k, loc⟩ r1 q1 c1 d1 W hW.rr hW.ll hx
  rw [hf] at FT
  dsimp only at FT
  have FT := hide FT
  have AW := hide awake_any
  clear rr ll hf hx
  obtain ⟨s0, s1, s2, s3, s4, s5, s6, s7, s8⟩ := S0.seen
  dsimp only at s0 s1 s2 s3 s4 s5 s6 s7 s8
  have HS := hide S0
  clear S0
  go_enter Try.func5, Try.ntmps5
  go_wp2_with fail
  generalize w.alloc (.cells #[.string (ofL ep), .slice r1 rel.length c1, .int .u8 0, .string (ofL n), .bool false, .string (ofL m), .bool true, .string (ofL k), .slice q1 loc.length d1] 25) = W0 at *
  refine (FT.out _ HS.out).mono ?_
  rintro e w2 ⟨rfl, b2⟩
  have S2 := HS.out.next b2
  clear s0 s1 s2 s3 s4 s5 s6 s7 s8
  obtain ⟨s0, s1, s2, s3, s4, s5, s6, s7, s8⟩ := S2.seen
  dsimp only at s0 s1 s2 s3 s4 s5 s6 s7 s8
  have H2 := hide S2
  clear S2
  go_wp2_with fail
  refine (AW.out _).mono ?_
  rintro e w3 ⟨rfl, b3⟩
  go_wp2_with fail
  go_ret
  exact ⟨rfl, (H2.out.next b3).bel⟩

set_option maxRecDepth 100000 in
set_option maxHeartbeats 2000000 in
theorem row_loc (ep : List UInt8) (rel : List (List UInt8)) (n : List UInt8) (m : List UInt8) (k : List UInt8) (loc : List (List UInt8)) (r1 q1 : Option Addr) (c1 d1 : Nat) (s : ByteArray) (w : World) (rr : Txt w (.slice r1 rel.length c1) rel) (ll : Txt w (.slice q1 loc.length d1) loc) (hx : MidP ⟨ep, rel, 0, n, false, m, false, k, loc⟩) (hf : fitR ⟨ep, rel, 0, n, false, m, false, k, loc⟩ = true) (h0 : loc ≠ []) :
    Calls Try.prog 5 #[.agg #[.string (ofL ep), .slice r1 rel.length c1, .int .u8 0, .string (ofL n), .bool false, .string (ofL m), .bool false, .string (ofL k), .slice q1 loc.length d1], .string s] w fun e w' => e = .returned (.bool true) ∧ Below w.heap.size w w' := by
  have S0 : TB w ⟨ep, rel, 0, n, false, m, false, k, loc⟩ r1 q1 c1 d1 (w.alloc (.cells #[.string (ofL ep), .slice r1 rel.length c1, .int .u8 0, .string (ofL n), .bool false, .string (ofL m), .bool false, .string (ofL k), .slice q1 loc.length d1] 25)) := TB.start (x := ⟨ep, rel, 0, n, false, m, false, k, loc⟩) rr ll
  have FT := fun (W : World) (hW : TB w ⟨ep, rel, 0, n, false, m, false, k, loc⟩ r1 q1 c1 d1 W) => RFit_any ⟨ep, rel, 0, n, false, m, false, k, loc⟩ r1 q1 c1 d1 W hW.rr hW.ll hx
  rw [hf] at FT
  dsimp only at FT
  have FT := hide FT
  have AW := hide awake_any
  have hp : 0 < loc.length := List.length_pos_iff.2 h0
  have hp' : (0 : Int) < (loc.length : Int) := by omega
  clear h0
  clear rr ll hf hx
  obtain ⟨s0, s1, s2, s3, s4, s5, s6, s7, s8⟩ := S0.seen
  dsimp only at s0 s1 s2 s3 s4 s5 s6 s7 s8
  have HS := hide S0
  clear S0
  go_enter Try.func5, Try.ntmps5
  go_wp2_with fail
  generalize w.alloc (.cells #[.string (ofL ep), .slice r1 rel.length c1, .int .u8 0, .string (ofL n), .bool false, .string (ofL m), .bool false, .string (ofL k), .slice q1 loc.length d1] 25) = W0 at *
  refine (FT.out _ HS.out).mono ?_
  rintro e w2 ⟨rfl, b2⟩
  have S2 := HS.out.next b2
  clear s0 s1 s2 s3 s4 s5 s6 s7 s8
  obtain ⟨s0, s1, s2, s3, s4, s5, s6, s7, s8⟩ := S2.seen
  dsimp only at s0 s1 s2 s3 s4 s5 s6 s7 s8
  have H2 := hide S2
  clear S2
  go_wp2_with fail
  refine (AW.out _).mono ?_
  rintro e w3 ⟨rfl, b3⟩
  go_wp2_with fail
  go_ret
  exact ⟨rfl, (H2.out.next b3).bel⟩

/-- What the row has behind the release, without the first. -/
def words : List (List UInt8) := ends.tail
/-- One of them. -/
def endA (j : Nat) : List UInt8 := ends.getD j []
theorem endA_eq (j : Nat) (h : j < ends.length) : endA j = ends[j] := by
  unfold endA
  rw [List.getD_eq_getElem?_getD, List.getElem?_eq_getElem h]
  rfl
theorem words_at (j : Nat) (h : j < 11) : words[j]'(by show j < 11; exact h) = endA (j + 1) := by
  rw [endA_eq (j + 1) (by show j + 1 < 12; omega)]
  unfold words
  exact List.getElem_tail _
theorem ends_short : ∀ e ∈ ends, e.length ≤ 11 := by decide
theorem endA_short (j : Nat) : (endA j).length ≤ 11 := by
  by_cases h : j < ends.length
  · rw [endA_eq j h]
    exact ends_short _ (List.getElem_mem h)
  · unfold endA
    rw [List.getD_eq_getElem?_getD, List.getElem?_eq_none (by omega)]
    simp
theorem ends_rowA {ep : List UInt8} {rel : List (List UInt8)} (h : RelL ep rel) (j : Nat) (hj : j < 11) (h1 : (baseL ep rel ++ endA j).length ≤ 64) (h2 : (baseL ep rel ++ endA (j + 1)).length ≤ 64) : cmpT (baseL ep rel ++ endA j) (baseL ep rel ++ endA (j + 1)) = -1 := by
  have k1 : j + 1 < ends.length := by show j + 1 < 12; omega
  rw [endA_eq j (by omega), endA_eq (j + 1) k1] at *
  exact ends_row h j k1 h1 h2
theorem base_len (ep : List UInt8) (rel : List (List UInt8)) : (baseL ep rel).length ≤ ep.length + 1 + lenI rel := by
  have := joinL_len rel
  unfold baseL
  rw [List.length_append]
  split
  · simp; omega
  · simp; omega
theorem relL_of {ep : List UInt8} {rel : List (List UInt8)} {c : Int} {n : List UInt8} {b : Bool} {m : List UInt8} {d : Bool} {k : List UInt8} {loc : List (List UInt8)} (h : fitR ⟨ep, rel, c, n, b, m, d, k, loc⟩ = true) : RelL ep rel := by
  unfold fitR at h
  simp only [Bool.and_eq_true, Bool.not_eq_true', List.isEmpty_eq_false_iff, List.all_eq_true] at h
  exact ⟨h.1, h.2.1, h.2.2.2.1⟩
theorem words_below {W W' : World} {A : Nat} {ws : List (List UInt8)} (h : WordsAt W A ws) (hb : Below W.heap.size W W') : WordsAt W' A ws := (hb.block A (Array.getElem?_eq_some_iff.1 h).1).trans h

set_option maxRecDepth 100000 in
set_option maxHeartbeats 8000000 in
theorem row_main (ep : List UInt8) (rel : List (List UInt8)) (n m k : List UInt8) (r1 q1 : Option Addr) (c1 d1 : Nat) (s : ByteArray) (w : World) (rr : Txt w (.slice r1 rel.length c1) rel) (hx : MidP ⟨ep, rel, 0, n, false, m, false, k, []⟩) (hl : ep.length + lenI rel ≤ 1048576) (hf : fitR ⟨ep, rel, 0, n, false, m, false, k, []⟩ = true) :
    Calls Try.prog 5 #[.agg #[.string (ofL ep), .slice r1 rel.length c1, .int .u8 0, .string (ofL n), .bool false, .string (ofL m), .bool false, .string (ofL k), .slice q1 0 d1], .string s] w fun e w' => e = .returned (.bool true) ∧ Below w.heap.size w w' := by
  have S0 : TB w ⟨ep, rel, 0, n, false, m, false, k, []⟩ r1 q1 c1 d1 (w.alloc (.cells #[.string (ofL ep), .slice r1 rel.length c1, .int .u8 0, .string (ofL n), .bool false, .string (ofL m), .bool false, .string (ofL k), .slice q1 0 d1] 25)) := TB.start (x := ⟨ep, rel, 0, n, false, m, false, k, []⟩) rr ⟨q1, d1, rfl, .inl rfl⟩
  have FT := fun (W : World) (hW : TB w ⟨ep, rel, 0, n, false, m, false, k, []⟩ r1 q1 c1 d1 W) => RFit_any ⟨ep, rel, 0, n, false, m, false, k, []⟩ r1 q1 c1 d1 W hW.rr hW.ll hx
  rw [hf] at FT
  dsimp only at FT
  simp only [List.length_nil] at FT
  have FT := hide FT
  have TX := hide (fun (W : World) (hW : TB w ⟨ep, rel, 0, n, false, m, false, k, []⟩ r1 q1 c1 d1 W) => RText_rel ep rel n m k r1 q1 c1 d1 W hW.rr hl hx hf)
  have AW := hide awake_any
  have HR := hide (ends_rowA (relL_of hf))
  have hB := base_len ep rel
  generalize baseL ep rel = B at *
  have lB : B.length ≤ 1048577 := by omega
  have h0 : ofL B ++ ⟨#[46, 100, 101, 118, 48]⟩ = ofL (B ++ (endA 0)) := cat_LL B _
  have sB := ofL_size B
  clear rr hf hx hl hB
  obtain ⟨s0, s1, s2, s3, s4, s5, s6, s7, s8⟩ := S0.seen
  dsimp only at s0 s1 s2 s3 s4 s5 s6 s7 s8
  rw [List.length_nil] at s8
  have HS := hide S0
  clear S0
  go_enter Try.func5, Try.ntmps5
  go_wp2_with fail
  generalize w.alloc (.cells #[.string (ofL ep), .slice r1 rel.length c1, .int .u8 0, .string (ofL n), .bool false, .string (ofL m), .bool false, .string (ofL k), .slice q1 0 d1] 25) = W0 at *
  refine (FT.out _ HS.out).mono ?_
  rintro e w2 ⟨rfl, b2⟩
  have S2 := HS.out.next b2
  clear s0 s1 s2 s3 s4 s5 s6 s7 s8
  obtain ⟨s0, s1, s2, s3, s4, s5, s6, s7, s8⟩ := S2.seen
  dsimp only at s0 s1 s2 s3 s4 s5 s6 s7 s8
  rw [List.length_nil] at s8
  have H2 := hide S2
  clear S2
  go_wp2_with fail
  refine (TX.out _ H2.out).mono ?_
  rintro e w3 ⟨rfl, b3⟩
  have H3 := hide (H2.out.next b3)
  clear s0 s1 s2 s3 s4 s5 s6 s7 s8
  go_wp2_with fail
  have H4 : Hid (TB w ⟨ep, rel, 0, n, false, m, false, k, []⟩ r1 q1 c1 d1 (w3.alloc (.cells #[.string ⟨#[97, 48, 46, 100, 101, 118, 49]⟩, .string ⟨#[97, 48]⟩, .string ⟨#[97, 49]⟩, .string ⟨#[98, 48]⟩, .string ⟨#[114, 99, 48]⟩, .string ⟨#[]⟩, .string ⟨#[43, 120]⟩, .string ⟨#[43, 49]⟩, .string ⟨#[46, 112, 111, 115, 116, 48, 46, 100, 101, 118, 48]⟩, .string ⟨#[46, 112, 111, 115, 116, 48]⟩, .string ⟨#[46, 112, 111, 115, 116, 49]⟩] 9))) := H3.out.next ((Below.refl _ w3).alloc (Nat.le_refl _) _)
  have HW : Hid (WordsAt (w3.alloc (.cells #[.string ⟨#[97, 48, 46, 100, 101, 118, 49]⟩, .string ⟨#[97, 48]⟩, .string ⟨#[97, 49]⟩, .string ⟨#[98, 48]⟩, .string ⟨#[114, 99, 48]⟩, .string ⟨#[]⟩, .string ⟨#[43, 120]⟩, .string ⟨#[43, 49]⟩, .string ⟨#[46, 112, 111, 115, 116, 48, 46, 100, 101, 118, 48]⟩, .string ⟨#[46, 112, 111, 115, 116, 48]⟩, .string ⟨#[46, 112, 111, 115, 116, 49]⟩] 9)) w3.heap.size words) := World.alloc_heap_new w3 _
  generalize w3.heap.size = A at *
  go_loopw [5, 37] (fun y i wr => ∃ j : Nat, j < 12 ∧ i = .int .i64 j ∧ y = .string (ofL (B ++ (endA j))) ∧ Hid (TB w ⟨ep, rel, 0, n, false, m, false, k, []⟩ r1 q1 c1 d1 wr) ∧ Hid (WordsAt wr A words)) (fun _ i _ => 11 - (intOf i).toNat)
  case atStart => exact ⟨0, by omega, rfl, rfl, H4, HW⟩
  case round =>
    clear H4 HW
    obtain ⟨j, hj, rfl, rfl, HT, HA⟩ := hrel
    obtain ⟨s0, s1, s2, s3, s4, s5, s6, s7, s8⟩ := HT.out.seen
    dsimp only at s0 s1 s2 s3 s4 s5 s6 s7 s8
    rw [List.length_nil] at s8
    have l1 := endA_short j
    have z1 := ofL_size (B ++ (endA j))
    rw [List.length_append] at z1
    by_cases hlt : j < 11
    · have hlt' : (j : Int) < 11 := by omega
      have hj0 : (0 : Int) ≤ (j : Int) := by omega
      have p1 : wr.cell? ⟨A, j, none⟩ = some (.string (ofL (endA (j + 1)))) := (HA.out.cell j hlt).trans (congrArg (fun t => some (Value.string (ofL t))) (words_at j hlt))
      have l2 := endA_short (j + 1)
      have z2 := ofL_size (B ++ (endA (j + 1)))
      have z3 := ofL_size (endA (j + 1))
      rw [List.length_append] at z2
      have hcat := cat_LL B (endA (j + 1))
      have HC : Hid ((ofL (B ++ (endA j))).size ≤ 64 → (ofL (B ++ (endA (j + 1)))).size ≤ 64 → ∀ w, Calls Try.prog 6 #[.string (ofL (B ++ (endA j))), .string (ofL (B ++ (endA (j + 1))))] w fun e w' => e = .returned (.int .i64 (-1)) ∧ Below w.heap.size w w') := by
        show _ → _ → _
        intro a1 a2 w
        have := CompareT_any (ofL (B ++ (endA j))) (ofL (B ++ (endA (j + 1)))) w (by omega) (by omega)
        rw [ofL_data, ofL_data, HR.out j hlt (by rw [← ofL_size]; exact a1) (by rw [← ofL_size]; exact a2)] at this
        exact this
      generalize hY : ofL (B ++ (endA (j + 1))) = Y at *
      have hY := hide hY
      generalize ofL (B ++ (endA j)) = X at *
      generalize ofL (endA (j + 1)) = E at *
      generalize (endA (j + 1)).length = le at *
      generalize (endA j).length = lf at *
      by_cases g1 : Y.size ≤ 64
      · have g1' : ¬ (64 : Int) < (Y.size : Int) := by omega
        by_cases g2 : X.size ≤ 64
        · have g2' : ¬ (64 : Int) < (X.size : Int) := by omega
          have CC := hide (HC.out g2 g1)
          go_wp2_with fail
          refine (TX.out _ HT.out).mono ?_
          rintro e w4 ⟨rfl, b4⟩
          have H5 := HT.out.next b4
          have A5 := words_below HA.out b4
          clear s0 s1 s2 s3 s4 s5 s6 s7 s8
          go_wp2_with fail
          refine (CC.out _).mono ?_
          rintro e w5 ⟨rfl, b5⟩
          go_wp2_with fail
          go_roundw
          case rel => exact ⟨j + 1, by omega, by go_num, by rw [hY.out], H5.next b5, words_below A5 b5⟩
          case measure => simp [intOf]; omega
        · have g2' : (64 : Int) < (X.size : Int) := by omega
          clear HC
          go_wp2_with fail
          refine (TX.out _ HT.out).mono ?_
          rintro e w4 ⟨rfl, b4⟩
          have H5 := hide (HT.out.next b4)
          clear s0 s1 s2 s3 s4 s5 s6 s7 s8
          go_wp2_with fail
          refine (AW.out _).mono ?_
          rintro e w5 ⟨rfl, b5⟩
          go_wp2_with fail
          go_ret
          exact ⟨rfl, (H5.out.next b5).bel⟩
      · have g1' : (64 : Int) < (Y.size : Int) := by omega
        clear HC
        go_wp2_with fail
        refine (TX.out _ HT.out).mono ?_
        rintro e w4 ⟨rfl, b4⟩
        have H5 := hide (HT.out.next b4)
        clear s0 s1 s2 s3 s4 s5 s6 s7 s8
        go_wp2_with fail
        refine (AW.out _).mono ?_
        rintro e w5 ⟨rfl, b5⟩
        go_wp2_with fail
        go_ret
        exact ⟨rfl, (H5.out.next b5).bel⟩
    · obtain rfl : j = 11 := by omega
      clear s0 s1 s2 s3 s4 s5 s6 s7 s8
      go_wp2_with fail
      refine (AW.out _).mono ?_
      rintro e w5 ⟨rfl, b5⟩
      go_wp2_with fail
      go_ret
      exact ⟨rfl, (HT.out.next b5).bel⟩

end Go.Proofs.Ytagnikhkmaplpaa
