/-
  Rows of tokens and of texts that came in, opened; and the way from a walk to a row that lists a variable and bears a condition.
-/
import Derived.Test.YtobcoppbphfcaaaDoorCa
import Derived.Test.YtobcoppbphfcaaaDoorFb
import Derived.SliceStrings
import Derived.Deep.Slices
import Derived.JoinedCond
namespace Go.Proofs.YtobcoppbphfcaaaDoor
open Go.ChangeShapes Go.WideShapes Go.ChangeAt Go.RowKit
set_option linter.unusedVariables false

theorem bulk_len {H : Type} : ∀ ss : List ByteArray, ss.length ≤ Rows.uptoBulkAll (H := H) (Go.ChangeShapes.strs ss)
  | [] => Nat.zero_le _
  | s :: r => by
    have ih := bulk_len (H := H) r
    simp only [Go.ChangeShapes.strs, List.map_cons, Rows.uptoBulkAll, Rows.uptoBulk, List.length_cons] at ih ⊢
    omega
/-- A slice of texts that came in. -/
theorem open_txts {H : Type} {enc : TypeId × Value → H} {W : World} {fuel : Nat} {c : Value} {y : DataW H × List MemPlace} (h : DataW.trod enc Tryd.prog W 0 (fun _ => true) true fuel 33 [c] = some y) :
    ∃ (a : Option Addr) (n cap : Nat) (ts : List (List UInt8)), c = .slice a n cap ∧ ts.length = n ∧ Txt W (.slice a n cap) ts ∧ (a = none → n = 0 ∧ cap = 0) ∧ n ≤ Rows.uptoBulk y.1 := by
  rcases open_strings Tryd.underlying33 Tryd.underlying9 c9 h with ⟨hcs, rfl⟩ | ⟨a, len, cap, ss, hcs, _, hl, hm, hz, rfl, hcell, _⟩
  · obtain rfl : c = .slice none 0 0 := by simpa using hcs
    exact ⟨none, 0, 0, [], rfl, rfl, ⟨none, 0, rfl, .inl rfl⟩, fun _ => ⟨rfl, rfl⟩, Nat.zero_le _⟩
  · obtain rfl : c = .slice (some a) len cap := by simpa using hcs
    have hsl : ss.length = cap := by simpa using hz
    have htl : (ss.take len).length = len := by rw [List.length_take]; omega
    refine ⟨some a, len, cap, (ss.take len).map fun s => s.data.toList, rfl, by rw [List.length_map, htl], ⟨some a, cap, by simp only [List.length_map, htl], ?_⟩, (fun h => by cases h), ?_⟩
    · by_cases h0 : len = 0
      · left; rw [h0]; rfl
      · right
        obtain ⟨b, off, spot⟩ := a
        have hc := hcell 0 (by omega)
        have hspot : spot = none := by simpa [Addr.add] using World.cell?_spot hc
        subst hspot
        refine ⟨b, off, rfl, by have := cell_lt hc; simpa [Addr.add] using this, fun i hi => ?_⟩
        have hi' : i < len := by rw [List.length_map, htl] at hi; exact hi
        have hci := hcell i (by omega)
        rw [show (Addr.add ⟨b, off, none⟩ i) = ⟨b, off + i, none⟩ by by_cases e0 : i = 0; subst e0; rfl; simp [Addr.add, e0]] at hci
        rw [hci]
        have hi2 : i < ss.length := by omega
        simp only [List.getElem_map, List.getElem_take, ofL_self]
        simp [List.getD, hi2]
    · simp only [Rows.uptoBulk]
      have := bulk_len (H := H) (ss.take len)
      omega

/-- A token as data. -/
def tokD {H : Type} (t : Tok) : DataW H := .agg [.lit (.bool t.dash), .lit (.bool t.num), .lit (.string t.text)]
theorem bulk_toks {H : Type} (D : Nat → DataW H) (τ : Nat → Tok) : ∀ l : List Nat, (∀ i ∈ l, D i = tokD (τ i)) → l.length ≤ Rows.uptoBulkAll (l.map D) ∧ ∀ i ∈ l, (τ i).text.length ≤ Rows.uptoBulkAll (l.map D)
  | [], _ => ⟨Nat.zero_le _, fun i h => by cases h⟩
  | j :: r, h => by
    obtain ⟨h1, h2⟩ := bulk_toks D τ r (fun i hi => h i (List.mem_cons_of_mem _ hi))
    have hj := h j List.mem_cons_self
    simp only [List.map_cons, Rows.uptoBulkAll, List.length_cons]
    rw [hj]
    simp only [tokD, Rows.uptoBulk, Rows.uptoBulkAll]
    refine ⟨by omega, fun i hi => ?_⟩
    rcases List.mem_cons.1 hi with rfl | hi
    · omega
    · have := h2 i hi; omega

theorem laidOut : laidOutB Tryd.prog = true := by kernel_rfl
instance : Inhabited Tok := ⟨nilT⟩
theorem c48 : Tryd.prog.cellsOf 48 = 3 := by kernel_rfl
theorem c4 : Tryd.prog.cellsOf 4 = 1 := by kernel_rfl
theorem add_at (b o j : Nat) : (Addr.add ⟨b, o, none⟩ j) = ⟨b, o + j, none⟩ := by
  by_cases e0 : j = 0
  · subst e0; rfl
  · simp [Addr.add, e0]

set_option maxRecDepth 100000 in
/-- A slice of tokens that came in. -/
theorem open_toks {H : Type} {enc : TypeId × Value → H} {W : World} {fuel : Nat} {c : Value} {y : DataW H × List MemPlace} (h : DataW.trod enc Tryd.prog W 0 (fun _ => true) true fuel 22 [c] = some y) :
    ∃ (a : Option Addr) (n cap : Nat) (ts : List Tok), c = .slice a n cap ∧ Toks W (.slice a n cap) ts ∧ (a = none → n = 0 ∧ cap = 0) ∧ n ≤ Rows.uptoBulk y.1 ∧ ∀ t ∈ ts, t.text.length ≤ Rows.uptoBulk y.1 := by
  rcases Go.Deep.open_slice Tryd.underlying22 h with ⟨hcs, rfl⟩ | ⟨a, len, cap, m, n, D, Pl, hcs, _, hl, hm, hmm, rfl, hx⟩
  · obtain rfl : c = .slice none 0 0 := by simpa using hcs
    exact ⟨none, 0, 0, [], rfl, ⟨none, 0, rfl, .inl rfl⟩, fun _ => ⟨rfl, rfl⟩, Nat.zero_le _, fun t ht => by cases ht⟩
  · obtain rfl : c = .slice (some a) len cap := by simpa using hcs
    have hmc : m = cap := by simpa using hmm
    have each : ∀ i, i < len → ∃ t : Tok, W.cell? (a.add (i * 3)) = some (.bool t.dash) ∧ W.cell? (a.add (i * 3 + 1)) = some (.bool t.num) ∧ W.cell? (a.add (i * 3 + 2)) = some (.string (ofL t.text)) ∧ D i = tokD t := by
      intro i hi
      obtain ⟨cs', h1, h2⟩ := hx i (by omega)
      rw [c48] at h1
      obtain ⟨_, hlen, hcell⟩ := World.cells?_some h1
      obtain ⟨xs, k, _, hxy, _, hxl, hf⟩ := DataW.trod_struct Tryd.underlying48 h2
      match xs, hxl, cs', hlen with
      | [y0, y1, y2], _, [v0, v1, v2], _ =>
        have g0 := hf 0 _ rfl
        have g1 := hf 1 _ rfl
        have g2 := hf 2 _ rfl
        obtain ⟨d, e0, z0⟩ := DataW.trod_bool (cs := [v0]) Tryd.underlying4 (g0 : DataW.trod enc Tryd.prog W 0 _ true k 4 [v0] = some y0)
        obtain ⟨nn, e1, z1⟩ := DataW.trod_bool (cs := [v1]) Tryd.underlying4 (g1 : DataW.trod enc Tryd.prog W 0 _ true k 4 [v1] = some y1)
        obtain ⟨s, e2, z2, _⟩ := DataW.trod_string (cs := [v2]) Tryd.underlying9 (g2 : DataW.trod enc Tryd.prog W 0 _ true k 9 [v2] = some y2)
        obtain rfl : v0 = .bool d := by simpa using e0
        obtain rfl : v1 = .bool nn := by simpa using e1
        obtain rfl : v2 = .string s := by simpa using e2
        subst z0 z1 z2
        have q0 := hcell 0 (by omega)
        have q1 := hcell 1 (by omega)
        have q2 := hcell 2 (by omega)
        rw [Go.Deep.add_add] at q0 q1 q2
        simp only [Prod.mk.injEq] at hxy
        refine ⟨⟨d, nn, s.data.toList⟩, by simpa using q0, by simpa using q1, by simpa [ofL_self] using q2, ?_⟩
        rw [hxy.1]; rfl
    obtain ⟨τ, hτ⟩ := Go.Deep.choose_lt each
    obtain ⟨hb1, hb2⟩ := bulk_toks D τ (List.range len) (fun i hi => (hτ i (List.mem_range.1 hi)).2.2.2)
    rw [List.length_range] at hb1
    have hlen : ((List.range len).map τ).length = len := by rw [List.length_map, List.length_range]
    refine ⟨some a, len, cap, (List.range len).map τ, rfl, ⟨some a, cap, by rw [hlen], ?_⟩, (fun h => by cases h), ?_, ?_⟩
    · by_cases h0 : len = 0
      · left; rw [h0]; rfl
      · right
        obtain ⟨b, off, spot⟩ := a
        have hc := (hτ 0 (by omega)).1
        have hspot : spot = none := by simpa [Addr.add] using World.cell?_spot hc
        subst hspot
        refine ⟨b, off, rfl, by have := cell_lt hc; simpa [Addr.add] using this, fun i hi => ?_⟩
        have hi' : i < len := by rw [hlen] at hi; exact hi
        obtain ⟨q0, q1, q2, _⟩ := hτ i hi'
        rw [add_at] at q0 q1 q2
        have e : ((List.range len).map τ)[i] = τ i := by simp
        rw [e]
        exact ⟨q0, by rw [Nat.add_assoc]; exact q1, by rw [Nat.add_assoc]; exact q2⟩
    · simp only [Rows.uptoBulk]; omega
    · intro t ht
      obtain ⟨i, hi, rfl⟩ := List.mem_map.1 ht
      have := hb2 i hi
      simp only [Rows.uptoBulk]; omega

/-- A row that lists variables and bears a condition of its own: what the walk owes. -/
theorem handed_cond_and {H : Type} {enc : TypeId × Value → H} {a : Assume} {C : Checked} {os : Os} {f : FuncId} {fn : Func} {s : OpenSpec} {k : (H : Type) → List (DataW H) → Bool} (hk : s.cond = some k) {F : Stop.Interp} {conds : List PathCond} {apart fresh handsOn again : Bool} {X : World → Prop}
    (hX : ∀ (w w' : World), w.heap = w'.heap → X w → X w')
    (own : ownKnob C.prog.godebug = none) (started : os.Started) (noInit : C.prog.inits.idxOf? f = none) (hfn : C.prog.funcs[f]? = some fn)
    (witness : ∃ (w : World) (tape : Tape) (i : Input), w.os = os ∧ (w.forCall tape i).Shaped C.prog ∧ i.vars = [] ∧ Input.okWide C.prog (w.forCall tape i) .any w.heap.size f i ∧
      ((s.pre enc C.prog fn conds apart (w.forCall tape i).memory i.args ∧ X (w.forCall tape i).memory) ∧ sizedMet enc C.prog fn s apart (w.forCall tape i).memory i.args) ∧ a.holds C.prog (lone (Frame.enter C.prog f i.args .normal) [] (w.forCall tape i)))
    (contract : ∀ (W : World) (base : Nat) (args : Array Value) (ds gs : List (DataW H)) (before : List MemPlace),
      (∀ (j : Nat) t v, fn.params[j]? = some t → args[j]? = some v → Value.okWide C.prog W .any base t v) →
      DataW.Whole enc C.prog fn.params.toList s.vars apart W args.toList ds gs before → k H (ds ++ gs) = true → X W →
      Calls C.prog f args W fun e W' => ∃ v, e = .returned v ∧ (s.at F).post enc C.prog fn apart fresh handsOn again W args v W') :
    ReturnsInHanded a C os f .any (fun w args => (s.pre enc C.prog fn conds apart w args ∧ X w) ∧ sizedMet enc C.prog fn s apart w args) ((s.at F).post enc C.prog fn apart fresh handsOn again) := by
  refine returnsInHanded_of_calls own started noInit witness ?_
  intro w tape i _ _ _ hok hpre hholds
  obtain ⟨_, _, _, fn', hfn', _, _, _, _, hval⟩ := hok
  have e : fn' = fn := Option.some.inj (hfn'.symm.trans hfn)
  subst e
  obtain ⟨⟨hp, hx⟩, _⟩ := hpre
  obtain ⟨ds, gs, before, hw, _, hkk⟩ := (OpenSpec.pre_some hk conds apart _ _).1 hp
  have hw' := DataW.Whole.of_heap (w' := w.forCall tape i) (by rfl) hw
  refine (contract (w.forCall tape i) w.heap.size i.args ds gs before hval hw' hkk (hX _ _ (by rfl) hx)).mono fun e W' ⟨v, he, hp⟩ => ?_
  subst he
  exact ChangeSpec.post_blind hp

end Go.Proofs.YtobcoppbphfcaaaDoor
