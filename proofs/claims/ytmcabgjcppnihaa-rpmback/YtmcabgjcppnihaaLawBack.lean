/-
  Proved: for any text and any version, a fit version is read back from its text, and a version that is read is fit and its text stands where the text stands; and chapter 5's examples hold: RpmBack returns true and leaves its arguments as they were. No condition but the form's own reach (each string takes at most 2^47 - 4096 bytes).
-/
import Derived.Test.YtmcabgjcppnihaaGa
namespace Go.Proofs.Ytmcabgjcppnihaa
namespace RpmBackP
open Go.ChangeShapes Go.WideShapes Go.ChangeAt Go.RowKit
open Go.ChangeMaps (open_string shut_string)
set_option linter.unusedVariables false

theorem own : ownKnob Try.prog.godebug = none := by kernel_rfl

theorem sz_of {l : List UInt8} {x : RpmL} (h : parseL l = .ok x) : Sz x := by
  obtain ⟨h1, h2, h3⟩ := parse_short h
  exact ⟨by omega, by omega, by omega⟩

/-- The box of a version turned, a fault beside it. -/
theorem four_world {W : World} {B : Nat} {x0 x1 x2 x3 : Value} (a b c d : Value) (o : Obj) (h : W.heap[B]? = some (.cells #[x0, x1, x2, x3] 23 (0, 0))) :
    ∃ W', W' = (((((W.setCell ⟨B, 0, none⟩ a).setCell ⟨B, 1, none⟩ b).setCell ⟨B, 2, none⟩ c).setCell ⟨B, 3, none⟩ d).alloc o) ∧ W'.heap[B]? = some (.cells #[a, b, c, d] 23 (0, 0)) ∧ Below B W W' ∧ W'.heap[W.heap.size]? = some o := by
  have h0 : (W.setCell ⟨B, 0, none⟩ a).heap[B]? = some (.cells #[a, x1, x2, x3] 23 (0, 0)) := set_lies 0 a h
  have s0 : (W.setCell ⟨B, 0, none⟩ a).heap.size = W.heap.size := Array.size_modify
  have b0 : Below B W (W.setCell ⟨B, 0, none⟩ a) := (Below.refl B W).setCell (p := ⟨B, 0, none⟩) (Nat.le_refl _) a
  generalize W.setCell ⟨B, 0, none⟩ a = W0 at *
  have h1 : (W0.setCell ⟨B, 1, none⟩ b).heap[B]? = some (.cells #[a, b, x2, x3] 23 (0, 0)) := set_lies 1 b h0
  have s1 : (W0.setCell ⟨B, 1, none⟩ b).heap.size = W0.heap.size := Array.size_modify
  have b1 : Below B W (W0.setCell ⟨B, 1, none⟩ b) := b0.setCell (p := ⟨B, 1, none⟩) (Nat.le_refl _) b
  generalize W0.setCell ⟨B, 1, none⟩ b = W1 at *
  have h2 : (W1.setCell ⟨B, 2, none⟩ c).heap[B]? = some (.cells #[a, b, c, x3] 23 (0, 0)) := set_lies 2 c h1
  have s2 : (W1.setCell ⟨B, 2, none⟩ c).heap.size = W1.heap.size := Array.size_modify
  have b2 : Below B W (W1.setCell ⟨B, 2, none⟩ c) := b1.setCell (p := ⟨B, 2, none⟩) (Nat.le_refl _) c
  generalize W1.setCell ⟨B, 2, none⟩ c = W2 at *
  have h3 : (W2.setCell ⟨B, 3, none⟩ d).heap[B]? = some (.cells #[a, b, c, d] 23 (0, 0)) := set_lies 3 d h2
  have s3 : (W2.setCell ⟨B, 3, none⟩ d).heap.size = W2.heap.size := Array.size_modify
  have b3 : Below B W (W2.setCell ⟨B, 3, none⟩ d) := b2.setCell (p := ⟨B, 3, none⟩) (Nat.le_refl _) d
  generalize W2.setCell ⟨B, 3, none⟩ d = W3 at *
  have hlt := (Array.getElem?_eq_some_iff.1 h3).1
  refine ⟨_, rfl, (Below.heap_alloc _ _ _ hlt).trans h3, b3.alloc (by omega) _, ?_⟩
  rw [show W.heap.size = W3.heap.size by omega]
  exact World.alloc_heap_new W3 o

set_option maxRecDepth 100000 in
set_option maxHeartbeats 4000000 in
theorem walkEN (s : ByteArray) (v : RpmL) (w : World) (hs : Sz v) (x : Int × Nat) (hp : parseL s.data.toList = .error x) (hf : fitB v = false) :
    Calls Try.prog 6 #[.string s, verV v] w fun e w' => e = .returned (.bool true) ∧ Below w.heap.size w w' := by
  have P1 := fun w => Parse_any s w
  rw [pres_err hp] at P1
  have hxb : (x.1 != 0) = true := by simpa using parse_errs hp
  have F2 := fun w => Fit_any v w hs
  rw [hf] at F2
  unfold verV at F2
  have P1 := hide P1
  have F2 := hide F2
  unfold verV
  clear hp hf hs
  go_enter Try.func6, Try.ntmps6
  go_wp2_with fail
  refine (F2.out _).mono ?_
  rintro e w1 ⟨rfl, b1⟩
  have k1 := box_kept b1
  have B1 := box_step b1
  clear b1
  go_wp2_with fail
  refine (P1.out _).mono ?_
  rintro e w4 ⟨rfl, b4⟩
  have k4 := carry b4 k1
  have B4 := step1 B1 b4
  have d0 := cell_at 0 k4 rfl
  have d1 := cell_at 1 k4 rfl
  have d2 := cell_at 2 k4 rfl
  have d3 := cell_at 3 k4 rfl
  have z0 := one_free 0 k4
  have z1 := one_free 1 k4
  have z2 := one_free 2 k4
  have z3 := one_free 3 k4
  have hl4 := (Array.getElem?_eq_some_iff.1 k4).1
  clear b4
  obtain ⟨W5, hW5, k5, b5, f5⟩ := four_world (.string ⟨#[]⟩) (.string ⟨#[]⟩) (.string ⟨#[]⟩) (.bool false) (.cells #[.int .i64 x.1, .int .i64 (x.2 : Int)] 26) k4
  have B5 := B4.trans b5
  go_wp2_with fail
  rw [← hW5]
  refine (awake_any _).mono ?_
  rintro e w9 ⟨rfl, b9⟩
  go_wp2_with fail
  go_ret
  exact ⟨rfl, step1 B5 b9⟩

set_option maxRecDepth 100000 in
set_option maxHeartbeats 4000000 in
theorem walkEF (s : ByteArray) (v : RpmL) (w : World) (hs : Sz v) (x : Int × Nat) (hp : parseL s.data.toList = .error x) (hf : fitB v = true) :
    Calls Try.prog 6 #[.string s, verV v] w fun e w' => e = .returned (.bool true) ∧ Below w.heap.size w w' := by
  have P1 := fun w => Parse_any s w
  rw [pres_err hp] at P1
  have hxb : (x.1 != 0) = true := by simpa using parse_errs hp
  have F2 := fun w => Fit_any v w hs
  rw [hf] at F2
  have G2 := fun w => Text_any v w hs
  have hq := (fitB_iff v).1 hf
  have hfo : formL v = writeL v := by unfold formL; rw [hf]; rfl
  rw [hfo] at G2
  have P2 := fun w => Parse_any (ofL (writeL v)) w
  rw [ofL_data, pres_ok hq] at P2
  have P2 := hide P2
  have ea : ((ofL v.ep).toList == (ofL v.ep).toList) = true := by simp
  have eb : ((ofL v.ver).toList == (ofL v.ver).toList) = true := by simp
  have ec : ((ofL v.rel).toList == (ofL v.rel).toList) = true := by simp
  clear hq hfo
  unfold verV at G2
  have G2 := hide G2
  unfold verV at F2
  have P1 := hide P1
  have F2 := hide F2
  unfold verV
  clear hp hf hs
  go_enter Try.func6, Try.ntmps6
  go_wp2_with fail
  refine (F2.out _).mono ?_
  rintro e w1 ⟨rfl, b1⟩
  have k1 := box_kept b1
  have B1 := box_step b1
  clear b1
  have c0 := cell_at 0 k1 rfl
  have c1 := cell_at 1 k1 rfl
  have c2 := cell_at 2 k1 rfl
  have c3 := cell_at 3 k1 rfl
  go_wp2_with fail
  refine (G2.out _).mono ?_
  rintro e w2 ⟨rfl, b2⟩
  have k2 := carry b2 k1
  have B2 := step1 B1 b2
  clear b2 c0 c1 c2 c3
  go_wp2_with fail
  refine (P2.out _).mono ?_
  rintro e w3 ⟨rfl, b3⟩
  have k3 := carry b3 k2
  have B3 := step1 B2 b3
  have c0 := cell_at 0 k3 rfl
  have c1 := cell_at 1 k3 rfl
  have c2 := cell_at 2 k3 rfl
  have c3 := cell_at 3 k3 rfl
  have hl3 := (Array.getElem?_eq_some_iff.1 k3).1
  have hl31 : w.heap.size < w3.heap.size + 1 := by omega
  clear b3
  go_wp2_with fail
  refine (P1.out _).mono ?_
  rintro e w4 ⟨rfl, b4⟩
  have k4 := carry2 b4 k3
  have B4 := step2 B3 b4
  have d0 := cell_at 0 k4 rfl
  have d1 := cell_at 1 k4 rfl
  have d2 := cell_at 2 k4 rfl
  have d3 := cell_at 3 k4 rfl
  have z0 := one_free 0 k4
  have z1 := one_free 1 k4
  have z2 := one_free 2 k4
  have z3 := one_free 3 k4
  have hl4 := (Array.getElem?_eq_some_iff.1 k4).1
  clear b4
  obtain ⟨W5, hW5, k5, b5, f5⟩ := four_world (.string ⟨#[]⟩) (.string ⟨#[]⟩) (.string ⟨#[]⟩) (.bool false) (.cells #[.int .i64 x.1, .int .i64 (x.2 : Int)] 26) k4
  have B5 := B4.trans b5
  go_wp2_with fail
  rw [← hW5]
  refine (awake_any _).mono ?_
  rintro e w9 ⟨rfl, b9⟩
  go_wp2_with fail
  go_ret
  exact ⟨rfl, step1 B5 b9⟩

set_option maxRecDepth 100000 in
set_option maxHeartbeats 4000000 in
theorem walkON (s : ByteArray) (v : RpmL) (w : World) (hs : Sz v) (x : RpmL) (hp : parseL s.data.toList = .ok x) (hf : fitB v = false) :
    Calls Try.prog 6 #[.string s, verV v] w fun e w' => e = .returned (.bool true) ∧ Below w.heap.size w w' := by
  have P1 := fun w => Parse_any s w
  rw [pres_ok hp] at P1
  have F1 := fun w => Fit_any x w (sz_of hp)
  rw [read_fitB hp] at F1
  have G1 := fun w => Text_any x w (sz_of hp)
  have C1 := fun w => CompareT_any (ofL (formL x)) s w
  rw [ofL_data, read_cmp hp] at C1
  unfold verV at F1 G1
  have F1 := hide F1
  have G1 := hide G1
  have C1 := hide C1
  have F2 := fun w => Fit_any v w hs
  rw [hf] at F2
  unfold verV at F2
  have P1 := hide P1
  have F2 := hide F2
  unfold verV
  clear hp hf hs
  go_enter Try.func6, Try.ntmps6
  go_wp2_with fail
  refine (F2.out _).mono ?_
  rintro e w1 ⟨rfl, b1⟩
  have k1 := box_kept b1
  have B1 := box_step b1
  clear b1
  go_wp2_with fail
  refine (P1.out _).mono ?_
  rintro e w4 ⟨rfl, b4⟩
  have k4 := carry b4 k1
  have B4 := step1 B1 b4
  have d0 := cell_at 0 k4 rfl
  have d1 := cell_at 1 k4 rfl
  have d2 := cell_at 2 k4 rfl
  have d3 := cell_at 3 k4 rfl
  have z0 := one_free 0 k4
  have z1 := one_free 1 k4
  have z2 := one_free 2 k4
  have z3 := one_free 3 k4
  have hl4 := (Array.getElem?_eq_some_iff.1 k4).1
  clear b4
  obtain ⟨W5, hW5, k5, b5, f5⟩ := four_world (.string (ofL x.ep)) (.string (ofL x.ver)) (.string (ofL x.rel)) (.bool x.has) (.cells #[.int .i64 0, .int .i64 0] 26) k4
  have g0 := cell_at 0 k5 rfl
  have g1 := cell_at 1 k5 rfl
  have g2 := cell_at 2 k5 rfl
  have g3 := cell_at 3 k5 rfl
  have g4 := cell_at 0 f5 rfl
  have B5 := B4.trans b5
  go_wp2_with fail
  rw [← hW5]
  refine (F1.out _).mono ?_
  rintro e w6 ⟨rfl, b6⟩
  have k6 := carry b6 k5
  have B6 := step1 B5 b6
  have h0 := cell_at 0 k6 rfl
  have h1 := cell_at 1 k6 rfl
  have h2 := cell_at 2 k6 rfl
  have h3 := cell_at 3 k6 rfl
  clear hW5 d0 d1 d2 d3 z0 z1 z2 z3 g0 g1 g2 g3 g4
  go_wp2_with fail
  refine (G1.out _).mono ?_
  rintro e w7 ⟨rfl, b7⟩
  have B7 := step1 B6 b7
  go_wp2_with fail
  refine (C1.out _).mono ?_
  rintro e w8 ⟨rfl, b8⟩
  have B8 := step1 B7 b8
  go_wp2_with fail
  refine (awake_any _).mono ?_
  rintro e w9 ⟨rfl, b9⟩
  go_wp2_with fail
  go_ret
  exact ⟨rfl, step1 B8 b9⟩

set_option maxRecDepth 100000 in
set_option maxHeartbeats 4000000 in
theorem walkOF (s : ByteArray) (v : RpmL) (w : World) (hs : Sz v) (x : RpmL) (hp : parseL s.data.toList = .ok x) (hf : fitB v = true) :
    Calls Try.prog 6 #[.string s, verV v] w fun e w' => e = .returned (.bool true) ∧ Below w.heap.size w w' := by
  have P1 := fun w => Parse_any s w
  rw [pres_ok hp] at P1
  have F1 := fun w => Fit_any x w (sz_of hp)
  rw [read_fitB hp] at F1
  have G1 := fun w => Text_any x w (sz_of hp)
  have C1 := fun w => CompareT_any (ofL (formL x)) s w
  rw [ofL_data, read_cmp hp] at C1
  unfold verV at F1 G1
  have F1 := hide F1
  have G1 := hide G1
  have C1 := hide C1
  have F2 := fun w => Fit_any v w hs
  rw [hf] at F2
  have G2 := fun w => Text_any v w hs
  have hq := (fitB_iff v).1 hf
  have hfo : formL v = writeL v := by unfold formL; rw [hf]; rfl
  rw [hfo] at G2
  have P2 := fun w => Parse_any (ofL (writeL v)) w
  rw [ofL_data, pres_ok hq] at P2
  have P2 := hide P2
  have ea : ((ofL v.ep).toList == (ofL v.ep).toList) = true := by simp
  have eb : ((ofL v.ver).toList == (ofL v.ver).toList) = true := by simp
  have ec : ((ofL v.rel).toList == (ofL v.rel).toList) = true := by simp
  clear hq hfo
  unfold verV at G2
  have G2 := hide G2
  unfold verV at F2
  have P1 := hide P1
  have F2 := hide F2
  unfold verV
  clear hp hf hs
  go_enter Try.func6, Try.ntmps6
  go_wp2_with fail
  refine (F2.out _).mono ?_
  rintro e w1 ⟨rfl, b1⟩
  have k1 := box_kept b1
  have B1 := box_step b1
  clear b1
  have c0 := cell_at 0 k1 rfl
  have c1 := cell_at 1 k1 rfl
  have c2 := cell_at 2 k1 rfl
  have c3 := cell_at 3 k1 rfl
  go_wp2_with fail
  refine (G2.out _).mono ?_
  rintro e w2 ⟨rfl, b2⟩
  have k2 := carry b2 k1
  have B2 := step1 B1 b2
  clear b2 c0 c1 c2 c3
  go_wp2_with fail
  refine (P2.out _).mono ?_
  rintro e w3 ⟨rfl, b3⟩
  have k3 := carry b3 k2
  have B3 := step1 B2 b3
  have c0 := cell_at 0 k3 rfl
  have c1 := cell_at 1 k3 rfl
  have c2 := cell_at 2 k3 rfl
  have c3 := cell_at 3 k3 rfl
  have hl3 := (Array.getElem?_eq_some_iff.1 k3).1
  have hl31 : w.heap.size < w3.heap.size + 1 := by omega
  clear b3
  go_wp2_with fail
  refine (P1.out _).mono ?_
  rintro e w4 ⟨rfl, b4⟩
  have k4 := carry2 b4 k3
  have B4 := step2 B3 b4
  have d0 := cell_at 0 k4 rfl
  have d1 := cell_at 1 k4 rfl
  have d2 := cell_at 2 k4 rfl
  have d3 := cell_at 3 k4 rfl
  have z0 := one_free 0 k4
  have z1 := one_free 1 k4
  have z2 := one_free 2 k4
  have z3 := one_free 3 k4
  have hl4 := (Array.getElem?_eq_some_iff.1 k4).1
  clear b4
  obtain ⟨W5, hW5, k5, b5, f5⟩ := four_world (.string (ofL x.ep)) (.string (ofL x.ver)) (.string (ofL x.rel)) (.bool x.has) (.cells #[.int .i64 0, .int .i64 0] 26) k4
  have g0 := cell_at 0 k5 rfl
  have g1 := cell_at 1 k5 rfl
  have g2 := cell_at 2 k5 rfl
  have g3 := cell_at 3 k5 rfl
  have g4 := cell_at 0 f5 rfl
  have B5 := B4.trans b5
  go_wp2_with fail
  rw [← hW5]
  refine (F1.out _).mono ?_
  rintro e w6 ⟨rfl, b6⟩
  have k6 := carry b6 k5
  have B6 := step1 B5 b6
  have h0 := cell_at 0 k6 rfl
  have h1 := cell_at 1 k6 rfl
  have h2 := cell_at 2 k6 rfl
  have h3 := cell_at 3 k6 rfl
  clear hW5 d0 d1 d2 d3 z0 z1 z2 z3 g0 g1 g2 g3 g4
  go_wp2_with fail
  refine (G1.out _).mono ?_
  rintro e w7 ⟨rfl, b7⟩
  have B7 := step1 B6 b7
  go_wp2_with fail
  refine (C1.out _).mono ?_
  rintro e w8 ⟨rfl, b8⟩
  have B8 := step1 B7 b8
  go_wp2_with fail
  refine (awake_any _).mono ?_
  rintro e w9 ⟨rfl, b9⟩
  go_wp2_with fail
  go_ret
  exact ⟨rfl, step1 B8 b9⟩

theorem walk (s : ByteArray) (v : RpmL) (w : World) (hs : Sz v) :
    Calls Try.prog 6 #[.string s, verV v] w fun e w' => e = .returned (.bool true) ∧ Below w.heap.size w w' := by
  cases hp : parseL s.data.toList with
  | error x =>
    cases hf : fitB v
    · exact walkEN s v w hs x hp hf
    · exact walkEF s v w hs x hp hf
  | ok x =>
    cases hf : fitB v
    · exact walkON s v w hs x hp hf
    · exact walkOF s v w hs x hp hf

set_option maxRecDepth 100000 in
theorem lifted (os : Os) (started : os.Started) (H : Type) (enc : TypeId × Value → H) :
    ReturnsInHanded {} Try.checked os 6 .any (Rows.rpmBackSpec.pre6 enc Try.prog Try.f6 Rows.rpmBackRow.domain false) (Rows.rpmBackSpec.post enc Try.prog Try.f6 false true false false) := by
  refine returnsInHanded_of_change_sized (C := Try.checked) own started (by kernel_rfl) Try.func6
    (ChangeSpec.witness6 (enc := enc) (C := Try.checked) false ⟨#[], #[.string ByteArray.empty, .agg #[.string .empty, .string .empty, .string .empty, .bool false]], []⟩ 8 (by kernel_rfl) (by kernel_rfl) (by kernel_rfl) (by kernel_rfl)) ?_
  intro W base args ds gs before hval0 hW hcnd hsz0 _
  have hval : ∀ (j : Nat) t v, Try.f6.params[j]? = some t → args[j]? = some v → Value.okWide Try.prog W .any base t v := hval0
  have hsz : (DataW.weightsEach Try.prog (Try.f6.params.toList ++ Rows.rpmBackSpec.plain.varTypes Try.prog) (ds ++ gs)).all (· ≤ reachBytes) = true := hsz0
  have hW' := hW
  obtain ⟨p, q, hA0, hV, rfl, hfz, hnd⟩ := hW
  have hA : DataW.TrodAll enc Try.prog W 0 (fun _ => true) true Try.f6.params.toList args.toList ds p := hA0
  rw [Try.params6] at hA hval hsz
  obtain ⟨v0, vs0, d0, ds0, p0, q0, hargs, rfl, rfl, h0, r0⟩ := trodAll_cons hA
  obtain ⟨v1, vs1, d1, ds1, p1, q1, rfl, rfl, rfl, h1, r1⟩ := trodAll_cons r0
  obtain ⟨rfl, rfl, rfl⟩ := trodAll_nil r1
  obtain rfl : args = #[v0, v1] := by cases args; simp_all
  obtain ⟨rfl, rfl⟩ := trodVars_none hV
  obtain ⟨a0, rfl, rfl, rfl, w0⟩ := open_string Try.underlying9 (hval 0 9 v0 rfl rfl) h0
  have s0 : a0.data.toList.length ≤ reachBytes := sized_string hsz (j := 0) (t := 9) rfl rfl
  rw [len_data] at s0
  have s0 : a0.size ≤ 140737488351232 := s0
  have k1 := h1
  have lt1 : ∀ x ∈ p1, x.block < W.heap.size := by obtain ⟨m, hm⟩ := k1; exact DataW.trod_lt m _ _ _ hm
  obtain ⟨a1, hv1, hd1⟩ := open_ver (hval 1 23 v1 rfl rfl) h1
  subst hd1
  subst hv1
  have s1 : Sz a1 := sized_ver hsz (j := 1) rfl rfl
  clear hA0 hval0 hsz0 hsz
  refine (walk a0 a1 W s1).mono fun e W' ⟨he, bel⟩ => ?_
  subst he
  exact ⟨_, rfl, _, _, _, [], _, [], hW', trodAll_mk1 (shut_bool Try.underlying4 _), (trodAll_cons_mk (shut_string Try.underlying9 w0) (trodAll_cons_mk (Below.trod laidOut (by kernel_rfl) (of_decide_eq_true (by kernel_rfl)) k1 bel lt1) trodAll_mk0)), rfl, bel.frame _, fun h => by cases h⟩

theorem over : Rows.rpmBackRow.holds Try.pinned (OpenSpec.ofChange Rows.rpmBackSpec) :=
  OpenClaim.holds_of_wide 6 Try.f6 rfl rfl rfl rfl rfl rfl rfl ⟨rfl, rfl, rfl, rfl, rfl⟩ rfl rfl rfl rfl rfl (by kernel_rfl) Try.func6 (by kernel_rfl)
    (of_decide_eq_true (by kernel_rfl)) (by unfold Func.isWrapper; first | (rw [if_pos (by decide +kernel)]; kernel_rfl) | (rw [if_neg (by decide +kernel)]; exact ⟨rfl, rfl⟩))
    (fun os started H enc _ => lifted os started H enc)
end RpmBackP

theorem rpmBack_holds : Rows.RpmBackSaid := RpmBackP.over
#print axioms rpmBack_holds
end Go.Proofs.Ytmcabgjcppnihaa
