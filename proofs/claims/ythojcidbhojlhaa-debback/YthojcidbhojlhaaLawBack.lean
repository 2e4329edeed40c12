/-
  Proved: for any text and any version, a version that is read is fit and its text stands where the text stands; a fit version is read back from its text, and what is not fit has none; and chapter 4's examples hold: DebBack returns true and leaves its arguments as they were. No condition but the form's own reach (each string takes at most 2^47 - 4096 bytes).
-/
import Derived.Test.YthojcidbhojlhaaGa
import Derived.Test.YthojcidbhojlhaaDk
import Derived.ProofKit
import Derived.OpenShut
import Derived.ShutString
import Derived.ChangeOld
import Derived.Below
import Derived.SizedLaws
namespace Go.Proofs.Ythojcidbhojlhaa
namespace DebBackP
open Go.ChangeShapes Go.WideShapes Go.ChangeAt Go.RowKit
open Go.ChangeMaps (open_string shut_string)
set_option linter.unusedVariables false

theorem own : ownKnob Try.prog.godebug = none := by kernel_rfl

theorem sz_of {l : List UInt8} {x : DebL} (h : parseL l = .ok x) : Sz x := by
  obtain ⟨h1, h2, h3⟩ := parse_short h
  exact ⟨by omega, by omega, by omega⟩

set_option maxRecDepth 100000 in
set_option maxHeartbeats 4000000 in
theorem walkEN (s : ByteArray) (v : DebL) (w : World) (hs : Sz v) (x : Int × Nat) (hp : parseL s.data.toList = .error x) (hf : fitB v = false) :
    Calls Try.prog 6 #[.string s, verV v] w fun e w' => e = .returned (.bool true) ∧ Below w.heap.size w w' := by
  have P1 := fun w => Parse_any s w
  rw [pres_err hp] at P1
  have hxb : (x.1 == 0) = false := by simpa using parse_errs hp
  have F2 := fun w => Fit_any v w hs
  rw [hf] at F2
  have G2 := fun w => Format_any v w hs
  have hfo : formL v = [] := by unfold formL; rw [hf]; rfl
  rw [hfo] at G2
  have e0 : ((ofL []).toList == []) = true := isE
  clear hfo
  unfold verV at F2 G2
  have P1 := hide P1
  have F2 := hide F2
  have G2 := hide G2
  unfold verV
  clear hp hf hs
  go_enter Try.func6, Try.ntmps6
  go_wp2_with fail
  refine (P1.out _).mono ?_
  rintro e w1 ⟨rfl, b1⟩
  have k1 := box_kept b1
  have B0 := (Below.refl _ w).alloc (Nat.le_refl _) (.cells #[.string (ofL v.ep), .string (ofL v.up), .string (ofL v.rev)] 23)
  have B1 := B0.trans (b1.mono B0.size)
  have B1a := B1.alloc B1.size (.cells #[.string ⟨#[]⟩, .string ⟨#[]⟩, .string ⟨#[]⟩] 23)
  have B1b := B1a.alloc B1a.size (.cells #[.int .i64 x.1, .int .i64 (x.2 : Int)] 26)
  have l1 := (Array.getElem?_eq_some_iff.1 k1).1
  have k2 := (Below.heap_alloc _ (.cells #[.int .i64 x.1, .int .i64 (x.2 : Int)] 26) _ (by simp; omega)).trans ((Below.heap_alloc w1 (.cells #[.string ⟨#[]⟩, .string ⟨#[]⟩, .string ⟨#[]⟩] 23) _ l1).trans k1)
  clear b1 B0 B1 B1a
  have g0 := cell_at 0 k2 rfl
  have g1 := cell_at 1 k2 rfl
  have g2 := cell_at 2 k2 rfl
  have hl1 : w.heap.size < w1.heap.size + 1 := by omega
  have c0 := cell_at 0 k1 rfl
  have c1 := cell_at 1 k1 rfl
  have c2 := cell_at 2 k1 rfl
  go_wp2_with fail
  refine (F2.out _).mono ?_
  rintro e w5 ⟨rfl, b5⟩
  have j5 := (b5.block _ (Array.getElem?_eq_some_iff.1 k2).1).trans k2
  have B5 := B1b.trans (b5.mono B1b.size)
  have h0 := cell_at 0 j5 rfl
  have h1 := cell_at 1 j5 rfl
  have h2 := cell_at 2 j5 rfl
  go_wp2_with fail
  refine (G2.out _).mono ?_
  rintro e w6 ⟨rfl, b6⟩
  have j6 := (b6.block _ (Array.getElem?_eq_some_iff.1 j5).1).trans j5
  have B6 := B5.trans (b6.mono B5.size)
  go_wp2_with fail
  refine (awake_any _).mono ?_
  rintro e w9 ⟨rfl, b9⟩
  go_wp2_with fail
  go_ret
  exact ⟨rfl, B6.trans (b9.mono B6.size)⟩

set_option maxRecDepth 100000 in
set_option maxHeartbeats 4000000 in
theorem walkEF (s : ByteArray) (v : DebL) (w : World) (hs : Sz v) (x : Int × Nat) (hp : parseL s.data.toList = .error x) (hf : fitB v = true) :
    Calls Try.prog 6 #[.string s, verV v] w fun e w' => e = .returned (.bool true) ∧ Below w.heap.size w w' := by
  have P1 := fun w => Parse_any s w
  rw [pres_err hp] at P1
  have hxb : (x.1 == 0) = false := by simpa using parse_errs hp
  have F2 := fun w => Fit_any v w hs
  rw [hf] at F2
  have G2 := fun w => Format_any v w hs
  have hq := (fitB_iff v).1 hf
  have hfo : formL v = writeL v := by unfold formL; rw [hf]; rfl
  rw [hfo] at G2
  have P2 := fun w => Parse_any (ofL (writeL v)) w
  rw [ofL_data, pres_ok hq] at P2
  have P2 := hide P2
  have ea : ((ofL v.ep).toList == (ofL v.ep).toList) = true := by simp
  have eb : ((ofL v.up).toList == (ofL v.up).toList) = true := by simp
  have ec : ((ofL v.rev).toList == (ofL v.rev).toList) = true := by simp
  clear hq hfo
  unfold verV at F2 G2
  have P1 := hide P1
  have F2 := hide F2
  have G2 := hide G2
  unfold verV
  clear hp hf hs
  go_enter Try.func6, Try.ntmps6
  go_wp2_with fail
  refine (P1.out _).mono ?_
  rintro e w1 ⟨rfl, b1⟩
  have k1 := box_kept b1
  have B0 := (Below.refl _ w).alloc (Nat.le_refl _) (.cells #[.string (ofL v.ep), .string (ofL v.up), .string (ofL v.rev)] 23)
  have B1 := B0.trans (b1.mono B0.size)
  have B1a := B1.alloc B1.size (.cells #[.string ⟨#[]⟩, .string ⟨#[]⟩, .string ⟨#[]⟩] 23)
  have B1b := B1a.alloc B1a.size (.cells #[.int .i64 x.1, .int .i64 (x.2 : Int)] 26)
  have l1 := (Array.getElem?_eq_some_iff.1 k1).1
  have k2 := (Below.heap_alloc _ (.cells #[.int .i64 x.1, .int .i64 (x.2 : Int)] 26) _ (by simp; omega)).trans ((Below.heap_alloc w1 (.cells #[.string ⟨#[]⟩, .string ⟨#[]⟩, .string ⟨#[]⟩] 23) _ l1).trans k1)
  clear b1 B0 B1 B1a
  have g0 := cell_at 0 k2 rfl
  have g1 := cell_at 1 k2 rfl
  have g2 := cell_at 2 k2 rfl
  have hl1 : w.heap.size < w1.heap.size + 1 := by omega
  have c0 := cell_at 0 k1 rfl
  have c1 := cell_at 1 k1 rfl
  have c2 := cell_at 2 k1 rfl
  go_wp2_with fail
  refine (F2.out _).mono ?_
  rintro e w5 ⟨rfl, b5⟩
  have j5 := (b5.block _ (Array.getElem?_eq_some_iff.1 k2).1).trans k2
  have B5 := B1b.trans (b5.mono B1b.size)
  have h0 := cell_at 0 j5 rfl
  have h1 := cell_at 1 j5 rfl
  have h2 := cell_at 2 j5 rfl
  go_wp2_with fail
  refine (G2.out _).mono ?_
  rintro e w6 ⟨rfl, b6⟩
  have j6 := (b6.block _ (Array.getElem?_eq_some_iff.1 j5).1).trans j5
  have B6 := B5.trans (b6.mono B5.size)
  go_wp2_with fail
  refine (P2.out _).mono ?_
  rintro e w7 ⟨rfl, b7⟩
  have j7 := (b7.block _ (Array.getElem?_eq_some_iff.1 j6).1).trans j6
  have B7 := B6.trans (b7.mono B6.size)
  have B7a := B7.alloc B7.size (.cells #[.string (ofL v.ep), .string (ofL v.up), .string (ofL v.rev)] 23)
  have B8 := B7a.alloc B7a.size (.cells #[.int .i64 0, .int .i64 0] 26)
  have m0 := cell_at 0 j7 rfl
  have m1 := cell_at 1 j7 rfl
  have m2 := cell_at 2 j7 rfl
  have hl7 := (Array.getElem?_eq_some_iff.1 j7).1
  have hl8 : w.heap.size < w7.heap.size + 1 := by omega
  have B8 := hide B8
  clear b5 b6 b7 B5 B6 B7 B7a
  go_wp2_with fail
  refine (awake_any _).mono ?_
  rintro e w9 ⟨rfl, b9⟩
  go_wp2_with fail
  go_ret
  exact ⟨rfl, B8.out.trans (b9.mono B8.out.size)⟩

set_option maxRecDepth 100000 in
set_option maxHeartbeats 4000000 in
theorem walkON (s : ByteArray) (v : DebL) (w : World) (hs : Sz v) (x : DebL) (hp : parseL s.data.toList = .ok x) (hf : fitB v = false) :
    Calls Try.prog 6 #[.string s, verV v] w fun e w' => e = .returned (.bool true) ∧ Below w.heap.size w w' := by
  have P1 := fun w => Parse_any s w
  rw [pres_ok hp] at P1
  have F1 := fun w => Fit_any x w (sz_of hp)
  rw [read_back hp] at F1
  have G1 := fun w => Format_any x w (sz_of hp)
  have C1 := fun w => CompareT_any (ofL (formL x)) s w
  rw [ofL_data, read_cmp hp] at C1
  unfold verV at F1 G1
  have F1 := hide F1
  have G1 := hide G1
  have C1 := hide C1
  have F2 := fun w => Fit_any v w hs
  rw [hf] at F2
  have G2 := fun w => Format_any v w hs
  have hfo : formL v = [] := by unfold formL; rw [hf]; rfl
  rw [hfo] at G2
  have e0 : ((ofL []).toList == []) = true := isE
  clear hfo
  unfold verV at F2 G2
  have P1 := hide P1
  have F2 := hide F2
  have G2 := hide G2
  unfold verV
  clear hp hf hs
  go_enter Try.func6, Try.ntmps6
  go_wp2_with fail
  refine (P1.out _).mono ?_
  rintro e w1 ⟨rfl, b1⟩
  have k1 := box_kept b1
  have B0 := (Below.refl _ w).alloc (Nat.le_refl _) (.cells #[.string (ofL v.ep), .string (ofL v.up), .string (ofL v.rev)] 23)
  have B1 := B0.trans (b1.mono B0.size)
  have B1a := B1.alloc B1.size (.cells #[.string (ofL x.ep), .string (ofL x.up), .string (ofL x.rev)] 23)
  have B1b := B1a.alloc B1a.size (.cells #[.int .i64 0, .int .i64 0] 26)
  have l1 := (Array.getElem?_eq_some_iff.1 k1).1
  have k2 := (Below.heap_alloc _ (.cells #[.int .i64 0, .int .i64 0] 26) _ (by simp; omega)).trans ((Below.heap_alloc w1 (.cells #[.string (ofL x.ep), .string (ofL x.up), .string (ofL x.rev)] 23) _ l1).trans k1)
  clear b1 B0 B1 B1a
  go_wp2_with fail
  refine (F1.out _).mono ?_
  rintro e w2 ⟨rfl, b2⟩
  obtain ⟨eA, eF⟩ := lies23 b2
  have j2 := (b2.block _ (Array.getElem?_eq_some_iff.1 k2).1).trans k2
  have B2 := B1b.trans (b2.mono B1b.size)
  have a0 := cell_at 0 eA rfl
  have a1 := cell_at 1 eA rfl
  have a2 := cell_at 2 eA rfl
  have f0 := cell_at 0 eF rfl
  go_wp2_with fail
  refine (G1.out _).mono ?_
  rintro e w3 ⟨rfl, b3⟩
  have j3 := (b3.block _ (Array.getElem?_eq_some_iff.1 j2).1).trans j2
  have B3 := B2.trans (b3.mono B2.size)
  go_wp2_with fail
  refine (C1.out _).mono ?_
  rintro e w4 ⟨rfl, b4⟩
  have j4 := (b4.block _ (Array.getElem?_eq_some_iff.1 j3).1).trans j3
  have B4 := B3.trans (b4.mono B3.size)
  have g0 := cell_at 0 j4 rfl
  have g1 := cell_at 1 j4 rfl
  have g2 := cell_at 2 j4 rfl
  clear b2 b3 b4 B1b B2 B3 j2 j3 k1 k2 eA eF
  go_wp2_with fail
  refine (F2.out _).mono ?_
  rintro e w5 ⟨rfl, b5⟩
  have j5 := (b5.block _ (Array.getElem?_eq_some_iff.1 j4).1).trans j4
  have B5 := B4.trans (b5.mono B4.size)
  have h0 := cell_at 0 j5 rfl
  have h1 := cell_at 1 j5 rfl
  have h2 := cell_at 2 j5 rfl
  go_wp2_with fail
  refine (G2.out _).mono ?_
  rintro e w6 ⟨rfl, b6⟩
  have j6 := (b6.block _ (Array.getElem?_eq_some_iff.1 j5).1).trans j5
  have B6 := B5.trans (b6.mono B5.size)
  go_wp2_with fail
  refine (awake_any _).mono ?_
  rintro e w9 ⟨rfl, b9⟩
  go_wp2_with fail
  go_ret
  exact ⟨rfl, B6.trans (b9.mono B6.size)⟩

set_option maxRecDepth 100000 in
set_option maxHeartbeats 4000000 in
theorem walkOF (s : ByteArray) (v : DebL) (w : World) (hs : Sz v) (x : DebL) (hp : parseL s.data.toList = .ok x) (hf : fitB v = true) :
    Calls Try.prog 6 #[.string s, verV v] w fun e w' => e = .returned (.bool true) ∧ Below w.heap.size w w' := by
  have P1 := fun w => Parse_any s w
  rw [pres_ok hp] at P1
  have F1 := fun w => Fit_any x w (sz_of hp)
  rw [read_back hp] at F1
  have G1 := fun w => Format_any x w (sz_of hp)
  have C1 := fun w => CompareT_any (ofL (formL x)) s w
  rw [ofL_data, read_cmp hp] at C1
  unfold verV at F1 G1
  have F1 := hide F1
  have G1 := hide G1
  have C1 := hide C1
  have F2 := fun w => Fit_any v w hs
  rw [hf] at F2
  have G2 := fun w => Format_any v w hs
  have hq := (fitB_iff v).1 hf
  have hfo : formL v = writeL v := by unfold formL; rw [hf]; rfl
  rw [hfo] at G2
  have P2 := fun w => Parse_any (ofL (writeL v)) w
  rw [ofL_data, pres_ok hq] at P2
  have P2 := hide P2
  have ea : ((ofL v.ep).toList == (ofL v.ep).toList) = true := by simp
  have eb : ((ofL v.up).toList == (ofL v.up).toList) = true := by simp
  have ec : ((ofL v.rev).toList == (ofL v.rev).toList) = true := by simp
  clear hq hfo
  unfold verV at F2 G2
  have P1 := hide P1
  have F2 := hide F2
  have G2 := hide G2
  unfold verV
  clear hp hf hs
  go_enter Try.func6, Try.ntmps6
  go_wp2_with fail
  refine (P1.out _).mono ?_
  rintro e w1 ⟨rfl, b1⟩
  have k1 := box_kept b1
  have B0 := (Below.refl _ w).alloc (Nat.le_refl _) (.cells #[.string (ofL v.ep), .string (ofL v.up), .string (ofL v.rev)] 23)
  have B1 := B0.trans (b1.mono B0.size)
  have B1a := B1.alloc B1.size (.cells #[.string (ofL x.ep), .string (ofL x.up), .string (ofL x.rev)] 23)
  have B1b := B1a.alloc B1a.size (.cells #[.int .i64 0, .int .i64 0] 26)
  have l1 := (Array.getElem?_eq_some_iff.1 k1).1
  have k2 := (Below.heap_alloc _ (.cells #[.int .i64 0, .int .i64 0] 26) _ (by simp; omega)).trans ((Below.heap_alloc w1 (.cells #[.string (ofL x.ep), .string (ofL x.up), .string (ofL x.rev)] 23) _ l1).trans k1)
  clear b1 B0 B1 B1a
  go_wp2_with fail
  refine (F1.out _).mono ?_
  rintro e w2 ⟨rfl, b2⟩
  obtain ⟨eA, eF⟩ := lies23 b2
  have j2 := (b2.block _ (Array.getElem?_eq_some_iff.1 k2).1).trans k2
  have B2 := B1b.trans (b2.mono B1b.size)
  have a0 := cell_at 0 eA rfl
  have a1 := cell_at 1 eA rfl
  have a2 := cell_at 2 eA rfl
  have f0 := cell_at 0 eF rfl
  go_wp2_with fail
  refine (G1.out _).mono ?_
  rintro e w3 ⟨rfl, b3⟩
  have j3 := (b3.block _ (Array.getElem?_eq_some_iff.1 j2).1).trans j2
  have B3 := B2.trans (b3.mono B2.size)
  go_wp2_with fail
  refine (C1.out _).mono ?_
  rintro e w4 ⟨rfl, b4⟩
  have j4 := (b4.block _ (Array.getElem?_eq_some_iff.1 j3).1).trans j3
  have B4 := B3.trans (b4.mono B3.size)
  have g0 := cell_at 0 j4 rfl
  have g1 := cell_at 1 j4 rfl
  have g2 := cell_at 2 j4 rfl
  clear b2 b3 b4 B1b B2 B3 j2 j3 k1 k2 eA eF
  go_wp2_with fail
  refine (F2.out _).mono ?_
  rintro e w5 ⟨rfl, b5⟩
  have j5 := (b5.block _ (Array.getElem?_eq_some_iff.1 j4).1).trans j4
  have B5 := B4.trans (b5.mono B4.size)
  have h0 := cell_at 0 j5 rfl
  have h1 := cell_at 1 j5 rfl
  have h2 := cell_at 2 j5 rfl
  go_wp2_with fail
  refine (G2.out _).mono ?_
  rintro e w6 ⟨rfl, b6⟩
  have j6 := (b6.block _ (Array.getElem?_eq_some_iff.1 j5).1).trans j5
  have B6 := B5.trans (b6.mono B5.size)
  go_wp2_with fail
  refine (P2.out _).mono ?_
  rintro e w7 ⟨rfl, b7⟩
  have j7 := (b7.block _ (Array.getElem?_eq_some_iff.1 j6).1).trans j6
  have B7 := B6.trans (b7.mono B6.size)
  have B7a := B7.alloc B7.size (.cells #[.string (ofL v.ep), .string (ofL v.up), .string (ofL v.rev)] 23)
  have B8 := B7a.alloc B7a.size (.cells #[.int .i64 0, .int .i64 0] 26)
  have m0 := cell_at 0 j7 rfl
  have m1 := cell_at 1 j7 rfl
  have m2 := cell_at 2 j7 rfl
  have hl7 := (Array.getElem?_eq_some_iff.1 j7).1
  have hl8 : w.heap.size < w7.heap.size + 1 := by omega
  have B8 := hide B8
  clear b5 b6 b7 B5 B6 B7 B7a
  go_wp2_with fail
  refine (awake_any _).mono ?_
  rintro e w9 ⟨rfl, b9⟩
  go_wp2_with fail
  go_ret
  exact ⟨rfl, B8.out.trans (b9.mono B8.out.size)⟩

theorem walk (s : ByteArray) (v : DebL) (hs : Sz v) (w : World) :
    Calls Try.prog 6 #[.string s, verV v] w fun e w' => e = .returned (.bool true) ∧ Below w.heap.size w w' := by
  cases hp : parseL s.data.toList with
  | error x =>
    cases hf : fitB v
    · exact walkEN s v w hs x hp hf
    · exact walkEF s v w hs x hp hf
  | ok x =>
    cases hf : fitB v
    · exact walkON s v w hs x hp hf
    · exact walkOF s v w hs x hp hf

set_option maxRecDepth 100000 in
theorem lifted (os : Os) (started : os.Started) (H : Type) (enc : TypeId × Value → H) :
    ReturnsInHanded {} Try.checked os 6 .any (Rows.debBackSpec.pre6 enc Try.prog Try.f6 Rows.debBackRow.domain false) (Rows.debBackSpec.post enc Try.prog Try.f6 false true false false) := by
  refine returnsInHanded_of_change_sized (C := Try.checked) own started (by kernel_rfl) Try.func6
    (ChangeSpec.witness6 (enc := enc) (C := Try.checked) false ⟨#[], #[.string ByteArray.empty, .agg #[.string .empty, .string .empty, .string .empty]], []⟩ 8 (by kernel_rfl) (by kernel_rfl) (by kernel_rfl) (by kernel_rfl)) ?_
  intro W base args ds gs before hval0 hW hcnd hsz0 _
  have hval : ∀ (j : Nat) t v, Try.f6.params[j]? = some t → args[j]? = some v → Value.okWide Try.prog W .any base t v := hval0
  have hsz : (DataW.weightsEach Try.prog (Try.f6.params.toList ++ Rows.debBackSpec.plain.varTypes Try.prog) (ds ++ gs)).all (· ≤ reachBytes) = true := hsz0
  have hW' := hW
  obtain ⟨p, q, hA0, hV, rfl, hfz, hnd⟩ := hW
  have hA : DataW.TrodAll enc Try.prog W 0 (fun _ => true) true Try.f6.params.toList args.toList ds p := hA0
  rw [Try.params6] at hA hval hsz
  obtain ⟨v0, vs0, d0, ds0, p0, q0, hargs, rfl, rfl, h0, r0⟩ := trodAll_cons hA
  obtain ⟨v1, vs1, d1, ds1, p1, q1, rfl, rfl, rfl, h1, r1⟩ := trodAll_cons r0
  obtain ⟨rfl, rfl, rfl⟩ := trodAll_nil r1
  obtain rfl : args = #[v0, v1] := by cases args; simp_all
  obtain ⟨rfl, rfl⟩ := trodVars_none hV
  obtain ⟨a0, rfl, rfl, rfl, w0⟩ := open_string Try.underlying9 (hval 0 9 v0 rfl rfl) h0
  have s0 : a0.data.toList.length ≤ reachBytes := sized_string hsz (j := 0) (t := 9) rfl rfl
  rw [len_data] at s0
  have s0 : a0.size ≤ 140737488351232 := s0
  have k1 := h1
  have lt1 : ∀ x ∈ p1, x.block < W.heap.size := by obtain ⟨m, hm⟩ := k1; exact DataW.trod_lt m _ _ _ hm
  obtain ⟨a1, hv1, hd1⟩ := open_ver (hval 1 23 v1 rfl rfl) h1
  subst hd1
  subst hv1
  have s1 : Sz a1 := sized_ver hsz (j := 1) rfl rfl
  clear hA0 hval0 hsz0 hsz
  refine (walk a0 a1 s1 W).mono fun e W' ⟨he, bel⟩ => ?_
  subst he
  exact ⟨_, rfl, _, _, _, [], _, [], hW', trodAll_mk1 (shut_bool Try.underlying4 _), (trodAll_cons_mk (shut_string Try.underlying9 w0) (trodAll_cons_mk (Below.trod laidOut (by kernel_rfl) (of_decide_eq_true (by kernel_rfl)) k1 bel lt1) trodAll_mk0)), rfl, bel.frame _, fun h => by cases h⟩

theorem over : Rows.debBackRow.holds Try.pinned (OpenSpec.ofChange Rows.debBackSpec) :=
  OpenClaim.holds_of_wide 6 Try.f6 rfl rfl rfl rfl rfl rfl rfl ⟨rfl, rfl, rfl, rfl, rfl⟩ rfl rfl rfl rfl rfl (by kernel_rfl) Try.func6 (by kernel_rfl)
    (of_decide_eq_true (by kernel_rfl)) (by unfold Func.isWrapper; first | (rw [if_pos (by decide +kernel)]; kernel_rfl) | (rw [if_neg (by decide +kernel)]; exact ⟨rfl, rfl⟩))
    (fun os started H enc _ => lifted os started H enc)
end DebBackP

theorem debBack_holds : Rows.DebBackSaid := DebBackP.over
#print axioms debBack_holds
end Go.Proofs.Ythojcidbhojlhaa
