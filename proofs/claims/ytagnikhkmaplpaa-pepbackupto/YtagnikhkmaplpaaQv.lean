/-
  Walks: the text of a fit version by the document; small versions.
-/
import Derived.Test.YtagnikhkmaplpaaQu
import Derived.Test.YtagnikhkmaplpaaQg
namespace Go.Proofs.Ytagnikhkmaplpaa
open Go.RowKit Go.Shelf
set_option linter.unusedVariables false

theorem fit_of {x : PepL} (h : fitR x = true) : FitT x := by
  unfold fitR letB at h
  simp only [Bool.and_eq_true, Bool.or_eq_true, beq_iff_eq, Bool.not_eq_true', List.isEmpty_eq_false_iff] at h
  obtain ⟨h1, h2, h3, h4, h5, h6, h7, h8⟩ := h
  exact ⟨h1, h2, h4, by omega, h6, h7, h8, h5⟩
theorem Rraw_any (x : PepL) (r1 q1 : Option Addr) (c1 d1 : Nat) (w : World) (rr : Txt w (.slice r1 x.rel.length c1) x.rel) (ll : Txt w (.slice q1 x.loc.length d1) x.loc) (hl : lenP x ≤ 1048576) (hc : x.c = 0 ∨ x.c = 97 ∨ x.c = 98 ∨ x.c = 114) :
    Calls Try.prog 21 #[.agg #[.string (ofL x.ep), .slice r1 x.rel.length c1, .int .u8 x.c, .string (ofL x.n), .bool x.b, .string (ofL x.m), .bool x.d, .string (ofL x.k), .slice q1 x.loc.length d1]] w fun e w' => e = .returned (.string (ofL (textP x))) ∧ Below w.heap.size w w' := by
  unfold lenP at hl
  obtain ⟨ep, rel, c, n, b, m, d, k, loc⟩ := x
  dsimp only at hl hc rr ll ⊢
  by_cases he : ep = [48]
  · rcases hc with rfl | rfl | rfl | rfl
    · exact Rraw_z0 ep rel n b m d k loc r1 q1 c1 d1 w rr ll hl he
    · exact Rraw_z97 ep rel n b m d k loc r1 q1 c1 d1 w rr ll hl he
    · exact Rraw_z98 ep rel n b m d k loc r1 q1 c1 d1 w rr ll hl he
    · exact Rraw_z114 ep rel n b m d k loc r1 q1 c1 d1 w rr ll hl he
  · rcases hc with rfl | rfl | rfl | rfl
    · exact Rraw_e0 ep rel n b m d k loc r1 q1 c1 d1 w rr ll hl he
    · exact Rraw_e97 ep rel n b m d k loc r1 q1 c1 d1 w rr ll hl he
    · exact Rraw_e98 ep rel n b m d k loc r1 q1 c1 d1 w rr ll hl he
    · exact Rraw_e114 ep rel n b m d k loc r1 q1 c1 d1 w rr ll hl he

set_option maxRecDepth 100000 in
set_option maxHeartbeats 2000000 in
theorem RText_any (x : PepL) (r1 q1 : Option Addr) (c1 d1 : Nat) (w : World) (rr : Txt w (.slice r1 x.rel.length c1) x.rel) (ll : Txt w (.slice q1 x.loc.length d1) x.loc) (hl : lenP x ≤ 1048576) (hf : fitR x = true) :
    Calls Try.prog 10 #[.agg #[.string (ofL x.ep), .slice r1 x.rel.length c1, .int .u8 x.c, .string (ofL x.n), .bool x.b, .string (ofL x.m), .bool x.d, .string (ofL x.k), .slice q1 x.loc.length d1]] w fun e w' => e = .returned (.string (ofL (textP x))) ∧ Below w.heap.size w w' := by
  have S0 : TB w x r1 q1 c1 d1 (w.alloc (.cells #[.string (ofL x.ep), .slice r1 x.rel.length c1, .int .u8 x.c, .string (ofL x.n), .bool x.b, .string (ofL x.m), .bool x.d, .string (ofL x.k), .slice q1 x.loc.length d1] 25)) := TB.start rr ll
  have FT := fun (W : World) (hW : TB w x r1 q1 c1 d1 W) => RFit_any x r1 q1 c1 d1 W hW.rr hW.ll (mid_of x hl)
  rw [hf] at FT
  have RW := fun (W : World) (hW : TB w x r1 q1 c1 d1 W) => Rraw_any x r1 q1 c1 d1 W hW.rr hW.ll hl (fit_of hf).f4
  have FT := hide FT
  have RW := hide RW
  clear rr ll hf hl
  obtain ⟨s0, s1, s2, s3, s4, s5, s6, s7, s8⟩ := S0.seen
  have HS := hide S0
  clear S0
  go_enter Try.func10, Try.ntmps10
  go_wp2_with fail
  generalize w.alloc (.cells #[.string (ofL x.ep), .slice r1 x.rel.length c1, .int .u8 x.c, .string (ofL x.n), .bool x.b, .string (ofL x.m), .bool x.d, .string (ofL x.k), .slice q1 x.loc.length d1] 25) = W0 at *
  refine (FT.out _ HS.out).mono ?_
  rintro e w2 ⟨rfl, b2⟩
  have S2 := HS.out.next b2
  clear s0 s1 s2 s3 s4 s5 s6 s7 s8
  obtain ⟨s0, s1, s2, s3, s4, s5, s6, s7, s8⟩ := S2.seen
  have H2 := hide S2
  clear S2
  go_wp2_with fail
  refine (RW.out _ H2.out).mono ?_
  rintro e w3 ⟨rfl, b3⟩
  go_wp2_with fail
  go_ret
  exact ⟨rfl, (H2.out.next b3).bel⟩

theorem joinL_len' (ts : List (List UInt8)) (h : ts ≠ []) : (joinL ts).length + 1 = lenI ts := by
  cases ts with
  | nil => exact absurd rfl h
  | cons t r =>
    have hd : ∀ us : List (List UInt8), (dotted us).length = lenI us := by
      intro us
      induction us with
      | nil => rfl
      | cons u v ih => simp only [dotted, List.flatMap_cons, List.length_append, List.length_cons, lenI] at ih ⊢; omega
    simp only [joinL, List.length_append, lenI, hd]
    omega
theorem small_row (ts : List (List UInt8)) (h : lenI ts ≤ 65) : ts.length ≤ 65 ∧ ∀ t ∈ ts, t.length ≤ 65 := by
  have := lenI_ge ts
  exact ⟨by omega, fun t ht => by have := this.2 t ht; omega⟩
theorem small_of (x : PepL) (hf : FitT x) (h : (textP x).length ≤ 64) : SmallP x := by
  have e1 : (textP x).length = (baseL x.ep x.rel).length + ((preT x).length + ((postT x).length + ((devT x).length + (locT x).length))) := by
    unfold textP tailT
    simp only [List.length_append]
  have e2 := joinL_len' x.rel hf.f2
  have e3 : (joinL x.rel).length ≤ (baseL x.ep x.rel).length := by unfold baseL; simp
  refine ⟨?_, ?_, ?_, ?_, small_row _ (by omega), small_row _ ?_⟩
  · by_cases he : x.ep = [48]
    · rw [he]; decide
    · have : x.ep.length ≤ (baseL x.ep x.rel).length := by unfold baseL; rw [if_neg he]; simp
      omega
  · by_cases hc : x.c = 0
    · have : x.n = [] := num_false hf.f5 (by simpa using hc)
      rw [this]; decide
    · have : x.n.length ≤ (preT x).length := by unfold preT; rw [if_neg hc]; simp
      omega
  · cases hb : x.b
    · have : x.m = [] := num_false hf.f6 hb
      rw [this]; decide
    · have : x.m.length ≤ (postT x).length := by unfold postT; rw [hb]; simp; omega
      omega
  · cases hb : x.d
    · have : x.k = [] := num_false hf.f7 hb
      rw [this]; decide
    · have : x.k.length ≤ (devT x).length := by unfold devT; rw [hb]; simp; omega
      omega
  · by_cases hl : x.loc = []
    · rw [hl]; decide
    · have e4 := joinL_len' x.loc hl
      have : (joinL x.loc).length + 1 ≤ (locT x).length := by unfold locT; rw [if_neg hl]; simp
      omega
theorem text_ne (x : PepL) (hf : FitT x) : ((ofL (textP x)).toList == []) = false := by
  obtain ⟨c, r, hb, _⟩ := base_digit ⟨hf.f1, hf.f2, List.all_eq_true.1 hf.f3⟩
  rw [toL, ofL_data]
  unfold textP
  rw [hb]
  rfl

end Go.Proofs.Ytagnikhkmaplpaa
