/-
  Proved: for any text and any version that hold together at most 1,048,576 values and letters, a version written and read is the same, its normal form is its own and stands where it did, and chapter 3's examples hold: PepBack returns true and leaves its arguments as they were. The condition: the bulk of the arguments is at most 1,048,576 (the document's text of a version is longer than what came in).
-/
import Derived.Test.YtagnikhkmaplpaaQw
import Derived.Test.YtagnikhkmaplpaaQx
import Derived.Test.YtagnikhkmaplpaaQy
import Derived.ProofKit
import Derived.OpenShut
import Derived.ShutString
import Derived.ChangeOld
import Derived.Below
import Derived.JoinedCond
import Derived.SliceStrings
import Derived.Deep.Fields
namespace Go.Proofs.Ytagnikhkmaplpaa
namespace PepBackP
open Go.ChangeShapes Go.WideShapes Go.ChangeAt Go.RowKit
open Go.ChangeMaps (open_string shut_string)
set_option linter.unusedVariables false

theorem own : ownKnob Try.prog.godebug = none := by kernel_rfl
theorem laidOut : laidOutB Try.prog = true := by kernel_rfl

theorem open_cap {H : Type} {enc : TypeId × Value → H} {W : World} {fuel : Nat} {c : Value} {y : DataW H × List MemPlace} (h : DataW.trod enc Try.prog W 0 (fun _ => true) true fuel 23 [c] = some y) : Cap c := by
  rcases open_strings Try.underlying23 Try.underlying9 Try.cells9 h with ⟨hcs, _⟩ | ⟨a, len, cap, ss, hcs, _, hl, _, _, _, _, _⟩
  · obtain rfl : c = .slice none 0 0 := by simpa using hcs
    exact cap_nil
  · obtain rfl : c = .slice (some a) len cap := by simpa using hcs
    rintro a' n' c' h'
    cases h'
    exact hl
set_option maxRecDepth 100000 in
theorem open_caps {H : Type} {enc : TypeId × Value → H} {W : World} {base : Nat} {v : Value} {d : DataW H} {p : List MemPlace} (hok : Value.okWide Try.prog W .any base 25 v)
    (h : ∃ m, DataW.trod enc Try.prog W 0 (fun _ => true) true m 25 v.cells.toList = some (d, p)) : ∀ c0 c1 c2 c3 c4 c5 c6 c7 c8, v = .agg #[c0, c1, c2, c3, c4, c5, c6, c7, c8] → Cap c1 ∧ Cap c8 := by
  rintro c0 c1 c2 c3 c4 c5 c6 c7 c8 rfl
  obtain ⟨m, hm⟩ := h
  obtain ⟨xs, n, _, hx, _, hxl, hf⟩ := DataW.trod_struct Try.underlying25 hm
  obtain ⟨y0, y1, y2, y3, y4, y5, y6, y7, y8, rfl⟩ : ∃ y0 y1 y2 y3 y4 y5 y6 y7 y8, xs = [y0, y1, y2, y3, y4, y5, y6, y7, y8] := by
    match xs, hxl with
    | [y0, y1, y2, y3, y4, y5, y6, y7, y8], _ => exact ⟨y0, y1, y2, y3, y4, y5, y6, y7, y8, rfl⟩
  have e4 := Try.cells4
  have e5 := Try.cells5
  have e9 := Try.cells9
  have e23 := Try.cells23
  have f1 := hf 1 _ rfl
  have f8 := hf 8 _ rfl
  simp only [Value.cells] at f1 f8
  exact ⟨open_cap (f1 : DataW.trod enc Try.prog W 0 _ true n 23 [c1] = some y1), open_cap (f8 : DataW.trod enc Try.prog W 0 _ true n 23 [c8] = some y8)⟩
theorem back_walk (x : PepL) (r1 q1 : Option Addr) (c1 d1 : Nat) (s : ByteArray) (w : World) (rr : Txt w (.slice r1 x.rel.length c1) x.rel) (ll : Txt w (.slice q1 x.loc.length d1) x.loc) (k1 : x.rel.length ≤ c1) (k2 : x.loc.length ≤ d1) (hl : lenP x ≤ 1048576) (hs : s.size ≤ 1048576) :
    Calls Try.prog 4 #[.string s, .agg #[.string (ofL x.ep), .slice r1 x.rel.length c1, .int .u8 x.c, .string (ofL x.n), .bool x.b, .string (ofL x.m), .bool x.d, .string (ofL x.k), .slice q1 x.loc.length d1]] w fun e w' => e = .returned (.bool true) ∧ Below w.heap.size w w' := by
  cases ho : okP s.data.toList
  · cases hf : fitR x
    · exact back_A1 x r1 q1 c1 d1 s w rr ll k1 k2 hl hs hf ho
    · by_cases hg : (textP x).length ≤ 64
      · exact back_C1 x r1 q1 c1 d1 s w rr ll k1 k2 hl hs hf hg ho
      · exact back_B1 x r1 q1 c1 d1 s w rr ll k1 k2 hl hs hf hg ho
  · by_cases hn : (textP (pepOf (lowL s.data.toList))).length ≤ 64
    · cases hf : fitR x
      · exact back_A3 x r1 q1 c1 d1 s w rr ll k1 k2 hl hs hf ho hn
      · by_cases hg : (textP x).length ≤ 64
        · exact back_C3 x r1 q1 c1 d1 s w rr ll k1 k2 hl hs hf hg ho hn
        · exact back_B3 x r1 q1 c1 d1 s w rr ll k1 k2 hl hs hf hg ho hn
    · cases hf : fitR x
      · exact back_A2 x r1 q1 c1 d1 s w rr ll k1 k2 hl hs hf ho hn
      · by_cases hg : (textP x).length ≤ 64
        · exact back_C2 x r1 q1 c1 d1 s w rr ll k1 k2 hl hs hf hg ho hn
        · exact back_B2 x r1 q1 c1 d1 s w rr ll k1 k2 hl hs hf hg ho hn

theorem short {H : Type} {d0 d1 : DataW H} (hk : Rows.uptoSmall H [d0, d1] = true) : Rows.uptoBulk d0 ≤ 1048576 ∧ Rows.uptoBulk d1 ≤ 1048576 := by
  have h : Rows.uptoBulkAll [d0, d1] ≤ 1048576 := of_decide_eq_true hk
  simp only [Rows.uptoBulkAll] at h
  omega

set_option maxRecDepth 100000 in
theorem contract (H : Type) (enc : TypeId × Value → H) (W : World) (base : Nat) (args : Array Value) (ds gs : List (DataW H)) (before : List MemPlace)
    (hval : ∀ (j : Nat) t v, Try.f4.params[j]? = some t → args[j]? = some v → Value.okWide Try.prog W .any base t v)
    (hW : DataW.Whole enc Try.prog Try.f4.params.toList Rows.pepBackSpec.vars false W args.toList ds gs before) (hk : Rows.uptoSmall H (ds ++ gs) = true) :
    Calls Try.prog 4 args W fun e W' => ∃ v, e = .returned v ∧ Rows.pepBackSpec.post enc Try.prog Try.f4 false true false false W args v W' := by
  have hW' := hW
  obtain ⟨p, q, hA0, hV, rfl, hfz, hnd⟩ := hW
  have hA : DataW.TrodAll enc Try.prog W 0 (fun _ => true) true Try.f4.params.toList args.toList ds p := hA0
  rw [Try.params4] at hA hval
  obtain ⟨v0, vs0, d0, ds0, p0, q0, hargs, rfl, rfl, h0, r0⟩ := trodAll_cons hA
  obtain ⟨v1, vs1, d1, ds1, p1, q1, rfl, rfl, rfl, h1, r1⟩ := trodAll_cons r0
  obtain ⟨rfl, rfl, rfl⟩ := trodAll_nil r1
  obtain rfl : args = #[v0, v1] := by cases args; simp_all
  obtain ⟨rfl, rfl⟩ := trodVars_none hV
  obtain ⟨a0, rfl, rfl, rfl, w0⟩ := open_string Try.underlying9 (hval 0 9 v0 rfl rfl) h0
  have k1 := h1
  have lt1 : ∀ x ∈ p1, x.block < W.heap.size := by obtain ⟨m, hm⟩ := k1; exact DataW.trod_lt m _ _ _ hm
  have hcap := open_caps (hval 1 25 v1 rfl rfl) h1
  obtain ⟨x, r, q, c, d, rfl, rr, ll, lx⟩ := open_pep (hval 1 25 v1 rfl rfl) h1
  obtain ⟨c1, c2⟩ := hcap _ _ _ _ _ _ _ _ _ rfl
  have hs := (short hk).1
  simp only [Rows.uptoBulk] at hs
  rw [len_data] at hs
  clear hA0
  refine (back_walk x r q c d a0 W rr ll (c1 _ _ _ rfl) (c2 _ _ _ rfl) (Nat.le_trans lx (short hk).2) (by omega)).mono fun e W' ⟨he, bel⟩ => ?_
  subst he
  exact ⟨_, rfl, _, _, _, [], _, [], hW', trodAll_mk1 (shut_bool Try.underlying4 _), (trodAll_cons_mk (shut_string Try.underlying9 w0) (trodAll_cons_mk (Below.trod laidOut (by kernel_rfl) (of_decide_eq_true (by kernel_rfl)) k1 bel lt1) trodAll_mk0)), rfl, bel.frame _, fun h => by cases h⟩

set_option maxRecDepth 100000 in
theorem lifted (os : Os) (started : os.Started) (H : Type) (enc : TypeId × Value → H) (F : Stop.Interp) :
    ReturnsInHanded {} Try.checked os 4 .any ((Rows.OpenSpec.upto Rows.pepBackSpec).pre6 enc Try.prog Try.f4 Rows.pepBackUptoRow.domain false) (((Rows.OpenSpec.upto Rows.pepBackSpec).at F).post enc Try.prog Try.f4 false true false false) := by
  refine returnsInHanded_of_cond (C := Try.checked) (s := Rows.OpenSpec.upto Rows.pepBackSpec) (k := Rows.uptoSmall) rfl own started (by kernel_rfl) Try.func4
    (OpenSpec.witness (enc := enc) (C := Try.checked) (s := Rows.OpenSpec.upto Rows.pepBackSpec) (k := Rows.uptoSmall) rfl false ⟨#[], #[.string .empty, .agg #[.string .empty, .slice none 0 0, .int .u8 0, .string .empty, .bool false, .string .empty, .bool false, .string .empty, .slice none 0 0]], []⟩ 8 (by kernel_rfl) (by kernel_rfl) (by kernel_rfl)
      (x := ([.lit (.string []), .agg [.lit (.string []), .nil, .lit (.int .u8 0), .lit (.string []), .lit (.bool false), .lit (.string []), .lit (.bool false), .lit (.string []), .nil]], [], [])) (by kernel_rfl) rfl (by kernel_rfl)) ?_
  intro W base args ds gs before hval hW _ hk _
  exact contract H enc W base args ds gs before hval hW hk

theorem over : Rows.pepBackUptoRow.holds Try.pinned (Rows.OpenSpec.upto Rows.pepBackSpec) :=
  OpenClaim.holds_of_cond 4 Try.f4 rfl rfl rfl rfl rfl rfl rfl ⟨rfl, rfl, rfl, rfl, rfl⟩ rfl rfl rfl rfl rfl (by kernel_rfl) Try.func4 (by kernel_rfl)
    (of_decide_eq_true (by kernel_rfl)) (by unfold Func.isWrapper; first | (rw [if_pos (by decide +kernel)]; kernel_rfl) | (rw [if_neg (by decide +kernel)]; exact ⟨rfl, rfl⟩))
    (fun os started H enc _ F => lifted os started H enc F)
end PepBackP

theorem pepBack_holds : Rows.PepBackUptoSaid := PepBackP.over
#print axioms pepBack_holds
end Go.Proofs.Ytagnikhkmaplpaa
