/-
  Proved: for any text and any byte that hold together at most 1,048,576 values and letters, the text's lines, what stands between separators, and the text without blanks at its ends are in the program what they are in the document's answer, and chapter 1's examples hold: ScanPieces returns true and leaves its arguments as they were. The condition: the bulk of the arguments is at most 1,048,576 (a piece takes 32 bytes in memory, so that pieces of a text of some 2^43 bytes pass what one slice may take).
-/
import Derived.Test.YtglceodiajbhiaaWn
import Derived.ProofKit
import Derived.OpenShut
import Derived.ShutString
import Derived.ChangeOld
import Derived.Below
import Derived.JoinedCond
namespace Go.Proofs.Ytglceodiajbhiaa
namespace ScanPiecesP
open Go.ChangeShapes Go.WideShapes Go.ChangeAt Go.RowKit
open Go.ChangeMaps (open_string shut_string)
set_option linter.unusedVariables false

theorem own : ownKnob Try.prog.godebug = none := by kernel_rfl

theorem short {H : Type} {s : ByteArray} {d : DataW H} (hk : Rows.uptoSmall H [.lit (.string s.data.toList), d] = true) : s.size ≤ 1048576 := by
  have h : Rows.uptoBulkAll [DataW.lit (H := H) (.string s.data.toList), d] ≤ 1048576 := of_decide_eq_true hk
  simp only [Rows.uptoBulkAll, Rows.uptoBulk] at h
  rw [len_data] at h
  omega

theorem lines_at (s : ByteArray) (w : World) (hs : s.size ≤ 1048576) :
    Calls Try.prog 26 #[.string s] w fun e w' => ∃ v, e = .returned v ∧ Pcs w' v ((linesL s.data.toList).map fun p => (s.extract p.1 p.2.1, (p.1 : Int), (p.2.2 : Int))) ∧ Below w.heap.size w w' := by
  refine (Lines_any s w (by omega)).mono ?_
  rintro e w' ⟨v, rfl, hr, hb⟩
  exact ⟨v, rfl, ⟨_, by rw [List.length_map, ← ln_tri]; exact hr⟩, hb⟩
theorem rlines_at (s : ByteArray) (w : World) (hs : s.size ≤ 1048576) :
    Calls Try.prog 27 #[.string s] w fun e w' => ∃ v, e = .returned v ∧ Pcs w' v ((linesL s.data.toList).map fun p => (s.extract p.1 p.2.1, (p.1 : Int), (p.2.2 : Int))) ∧ Below w.heap.size w w' := by
  refine (RLines_any s w (by omega)).mono ?_
  rintro e w' ⟨v, rfl, hr, hb⟩
  exact ⟨v, rfl, ⟨_, by rw [List.length_map, ← ln_tri]; exact hr⟩, hb⟩
theorem split_at (s : ByteArray) (sep : UInt8) (w : World) (hs : s.size ≤ 1048576) :
    Calls Try.prog 28 #[.string s, .int .u8 (sep.toNat : Int)] w fun e w' => ∃ v, e = .returned v ∧ Pcs w' v ((cuts sep s.data.toList).map fun p => (s.extract p.1 p.2, (p.1 : Int), 0)) ∧ Below w.heap.size w w' := by
  refine (Split_any s sep w (by omega)).mono ?_
  rintro e w' ⟨v, rfl, hr, hb⟩
  exact ⟨v, rfl, ⟨_, by rw [List.length_map, ← cut_tri]; exact hr⟩, hb⟩
theorem rsplit_at (s : ByteArray) (sep : UInt8) (w : World) (hs : s.size ≤ 1048576) :
    Calls Try.prog 29 #[.string s, .int .u8 (sep.toNat : Int)] w fun e w' => ∃ v, e = .returned v ∧ Pcs w' v ((cuts sep s.data.toList).map fun p => (s.extract p.1 p.2, (p.1 : Int), 0)) ∧ Below w.heap.size w w' := by
  refine (RSplit_any s sep w (by omega)).mono ?_
  rintro e w' ⟨v, rfl, hr, hb⟩
  exact ⟨v, rfl, ⟨_, by rw [List.length_map, ← cut_tri]; exact hr⟩, hb⟩

theorem lns_len (l : List UInt8) (n : Nat) : ∀ (cs : List (Nat × Nat)) (k : Nat), (lns l n cs k).length ≤ cs.length
  | [], _ => by simp [lns]
  | (a, b) :: r, k => by
    have := lns_len l n r (k + 1)
    unfold lns
    split <;> simp <;> omega

set_option maxHeartbeats 1000000 in
theorem walk (s : ByteArray) (sep : UInt8) (w : World) (hs : s.size ≤ 1048576) :
    Calls Try.prog 5 #[.string s, .int .u8 (sep.toNat : Int)] w fun e w' => e = .returned (.bool true) ∧ Below w.heap.size w w' := by
  have hc1 := cutsA_len sep s.data.toList 0 0
  have hc2 := cutsA_len 10 s.data.toList 0 0
  have hl2 := lns_len s.data.toList s.data.toList.length (cuts 10 s.data.toList) 1
  rw [len_data] at hc1 hc2
  have HS : Hid (((cuts sep s.data.toList).map fun p => (s.extract p.1 p.2, (p.1 : Int), (0 : Int))).length ≤ 4000000000001) := by
    show _ ≤ _
    rw [List.length_map]; unfold cuts; omega
  have HL : Hid (((linesL s.data.toList).map fun p => (s.extract p.1 p.2.1, (p.1 : Int), (p.2.2 : Int))).length ≤ 4000000000001) := by
    show _ ≤ _
    rw [List.length_map]; unfold linesL; unfold cuts at *; omega
  have L1 := hide (fun w => lines_at s w hs)
  have L2 := hide (fun w => rlines_at s w hs)
  have S1 := hide (fun w => split_at s sep w hs)
  have S2 := hide (fun w => rsplit_at s sep w hs)
  clear hc1 hc2 hl2
  generalize (linesL s.data.toList).map (fun p => (s.extract p.1 p.2.1, (p.1 : Int), (p.2.2 : Int))) = ls at *
  generalize (cuts sep s.data.toList).map (fun p => (s.extract p.1 p.2, (p.1 : Int), (0 : Int))) = cs at *
  go_enter Try.func5, Try.ntmps5
  go_wp2_with fail
  refine (Strip_any _ _ (by unfold maxLen; omega)).mono ?_
  rintro e w' ⟨rfl, rfl⟩
  go_wp2_with fail
  refine (RStrip_any _ _ (by unfold maxLen; omega)).mono ?_
  rintro e w' ⟨rfl, rfl⟩
  go_wp2_with fail
  refine (L1.out _).mono ?_
  rintro e w1 ⟨v1, rfl, p1, b1⟩
  go_wp2_with fail
  refine (L2.out _).mono ?_
  rintro e w2 ⟨v2, rfl, p2, b2⟩
  have p1' := hide (p1.below b2)
  have p2' := hide p2
  clear p1 p2
  go_wp2_with fail
  refine (pcs_any _ _ _ _ HL.out p1'.out p2'.out).mono ?_
  rintro e w3 ⟨rfl, b3⟩
  have c3 : Below w'.heap.size w' w3 := b1.trans ((b2.mono b1.size).trans (b3.mono (Nat.le_trans b1.size b2.size)))
  clear b1 b2 b3 p1' p2'
  go_wp2_with fail
  refine (S1.out _).mono ?_
  rintro e w4 ⟨v4, rfl, p4, b4⟩
  go_wp2_with fail
  refine (S2.out _).mono ?_
  rintro e w5 ⟨v5, rfl, p5, b5⟩
  have p4' := hide (p4.below b5)
  have p5' := hide p5
  clear p4 p5
  go_wp2_with fail
  refine (pcs_any _ _ _ _ HS.out p4'.out p5'.out).mono ?_
  rintro e w6 ⟨rfl, b6⟩
  have c6 : Below w3.heap.size w3 w6 := b4.trans ((b5.mono b4.size).trans (b6.mono (Nat.le_trans b4.size b5.size)))
  clear b4 b5 b6 p4' p5'
  go_wp2_with fail
  refine (awake_any _).mono ?_
  rintro e w7 ⟨rfl, b7⟩
  go_wp2_with fail
  go_ret
  exact ⟨rfl, c3.trans ((c6.mono c3.size).trans (b7.mono (Nat.le_trans c3.size c6.size)))⟩

theorem byte_of (a : Int) (h : (Lit.int .u8 a).wf = true) : ∃ c : UInt8, a = (c.toNat : Int) := by
  have hb := bounds_u8 h
  refine ⟨UInt8.ofNat a.toNat, ?_⟩
  rw [UInt8.toNat_ofNat']
  omega

theorem contract (H : Type) (enc : TypeId × Value → H) (W : World) (base : Nat) (args : Array Value) (ds gs : List (DataW H)) (before : List MemPlace)
    (hval : ∀ (j : Nat) t v, Try.f5.params[j]? = some t → args[j]? = some v → Value.okWide Try.prog W .any base t v)
    (hW : DataW.Whole enc Try.prog Try.f5.params.toList Rows.scanPiecesSpec.vars false W args.toList ds gs before) (hk : Rows.uptoSmall H (ds ++ gs) = true) :
    Calls Try.prog 5 args W fun e W' => ∃ v, e = .returned v ∧ Rows.scanPiecesSpec.post enc Try.prog Try.f5 false true false false W args v W' := by
  have hW' := hW
  obtain ⟨p, q, hA0, hV, rfl, hfz, hnd⟩ := hW
  have hA : DataW.TrodAll enc Try.prog W 0 (fun _ => true) true Try.f5.params.toList args.toList ds p := hA0
  rw [Try.params5] at hA hval
  obtain ⟨v0, vs0, d0, ds0, p0, q0, hargs, rfl, rfl, h0, r0⟩ := trodAll_cons hA
  obtain ⟨v1, vs1, d1, ds1, p1, q1, rfl, rfl, rfl, h1, r1⟩ := trodAll_cons r0
  obtain ⟨rfl, rfl, rfl⟩ := trodAll_nil r1
  obtain rfl : args = #[v0, v1] := by cases args; simp_all
  obtain ⟨rfl, rfl⟩ := trodVars_none hV
  obtain ⟨s, rfl, rfl, rfl, w0⟩ := open_string Try.underlying9 (hval 0 9 v0 rfl rfl) h0
  obtain ⟨a1, rfl, rfl, rfl, w1⟩ := open_int Try.underlying5 (hval 1 5 v1 rfl rfl) h1
  clear hA0
  obtain ⟨c, rfl⟩ := byte_of a1 w1
  refine (walk s c W (short hk)).mono fun e W' ⟨he, bel⟩ => ?_
  subst he
  exact ⟨_, rfl, _, _, _, [], _, [], hW', trodAll_mk1 (shut_bool Try.underlying4 _), (trodAll_cons_mk (shut_string Try.underlying9 w0) (trodAll_cons_mk (shut_int Try.underlying5 w1) trodAll_mk0)), rfl, bel.frame _, fun h => by cases h⟩

set_option maxRecDepth 100000 in
theorem lifted (os : Os) (started : os.Started) (H : Type) (enc : TypeId × Value → H) (F : Stop.Interp) :
    ReturnsInHanded {} Try.checked os 5 .any ((Rows.OpenSpec.upto Rows.scanPiecesSpec).pre6 enc Try.prog Try.f5 Rows.scanPiecesUptoRow.domain false) (((Rows.OpenSpec.upto Rows.scanPiecesSpec).at F).post enc Try.prog Try.f5 false true false false) := by
  refine returnsInHanded_of_cond (C := Try.checked) (s := Rows.OpenSpec.upto Rows.scanPiecesSpec) (k := Rows.uptoSmall) rfl own started (by kernel_rfl) Try.func5
    (OpenSpec.witness (enc := enc) (C := Try.checked) (s := Rows.OpenSpec.upto Rows.scanPiecesSpec) (k := Rows.uptoSmall) rfl false ⟨#[], #[.string .empty, .int .u8 0], []⟩ 8 (by kernel_rfl) (by kernel_rfl) (by kernel_rfl)
      (x := ([.lit (.string []), .lit (.int .u8 0)], [], [])) (by kernel_rfl) rfl (by kernel_rfl)) ?_
  intro W base args ds gs before hval hW _ hk _
  exact contract H enc W base args ds gs before hval hW hk

theorem over : Rows.scanPiecesUptoRow.holds Try.pinned (Rows.OpenSpec.upto Rows.scanPiecesSpec) :=
  OpenClaim.holds_of_cond 5 Try.f5 rfl rfl rfl rfl rfl rfl rfl ⟨rfl, rfl, rfl, rfl, rfl⟩ rfl rfl rfl rfl rfl (by kernel_rfl) Try.func5 (by kernel_rfl)
    (of_decide_eq_true (by kernel_rfl)) (by unfold Func.isWrapper; first | (rw [if_pos (by decide +kernel)]; kernel_rfl) | (rw [if_neg (by decide +kernel)]; exact ⟨rfl, rfl⟩))
    (fun os started H enc _ F => lifted os started H enc F)
end ScanPiecesP

theorem scanPieces_holds : Rows.ScanPiecesUptoSaid := ScanPiecesP.over
#print axioms scanPieces_holds
end Go.Proofs.Ytglceodiajbhiaa
