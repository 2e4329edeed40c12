/-
  Walks: NpmspecEither, for any readers of ranges.
-/
import Derived.Test.YtplbdciikkpjoaaZLies
import Derived.ProofKit
import Derived.Below
namespace Go.Proofs.Ytplbdciikkpjoaa
open Go.RowKit Go.Shelf
set_option linter.unusedVariables false

theorem add_run (a b c : ByteArray) (h : a ++ b = c) (hs : a.size + b.size ≤ 9000000000000000000) : Op.stringOp .add a b = pure (.string c) := by
  unfold Op.stringOp
  have hm : IntKind.i64.max = 9223372036854775807 := rfl
  dsimp only
  rw [if_neg (by rw [hm]; omega), h]

set_option maxRecDepth 100000 in
set_option maxHeartbeats 4000000 in
theorem either_walk (V : List UInt8 → Bool) (T : List UInt8 → List UInt8 → Bool)
    (HV : ∀ (s : ByteArray) (w : World), Calls Try.prog 4 #[.string s] w fun e w' => e = .returned (.bool (V s.data.toList)) ∧ Below w.heap.size w w')
    (HM : ∀ (s u : ByteArray) (w : World), Calls Try.prog 6 #[.string s, .string u] w fun e w' => e = .returned (.bool (T s.data.toList u.data.toList)) ∧ Below w.heap.size w w')
    (HA : ∀ w : World, Calls Try.prog 5 #[] w fun e w' => e = .returned (.bool true) ∧ Below w.heap.size w w')
    (hT : ∀ a b t, V a = true → V b = true → V (a ++ 124 :: 124 :: b) = true → T (a ++ 124 :: 124 :: b) t = (T a t || T b t))
    (hL : ∀ a, V a = true → a.length ≤ 256) (a b c : ByteArray) (w : World) :
    Calls Try.prog 3 #[.string a, .string b, .string c] w fun e w' => e = .returned (.bool true) ∧ Below w.heap.size w w' := by
  obtain ⟨m, hm⟩ : ∃ m : ByteArray, m = a ++ ⟨#[124, 124]⟩ := ⟨_, rfl⟩
  obtain ⟨z, hz⟩ : ∃ z : ByteArray, z = m ++ b := ⟨_, rfl⟩
  have hms : m.size = a.size + 2 := by rw [hm, ByteArray.size_append]; rfl
  have AD := hide (show a.size ≤ 256 → b.size ≤ 256 → Op.stringOp .add a ⟨#[124, 124]⟩ = pure (.string m) ∧ Op.stringOp .add m b = pure (.string z) from fun ha hb => ⟨add_run a ⟨#[124, 124]⟩ m hm.symm (by show _ + 2 ≤ _; omega), add_run m b z hz.symm (by omega)⟩)
  have LA := hide (hL a.data.toList)
  have LB := hide (hL b.data.toList)
  rw [len_data] at LA LB
  have hzl : z.data.toList = a.data.toList ++ 124 :: 124 :: b.data.toList := by
    rw [hz, hm]
    simp
  have HT := hide (hT a.data.toList b.data.toList c.data.toList)
  rw [← hzl] at HT
  have HV1 := hide (fun W => HV a W)
  have HV2 := hide (fun W => HV b W)
  have HV3 := hide (fun W => HV z W)
  have HM1 := hide (fun W => HM a c W)
  have HM2 := hide (fun W => HM b c W)
  have HM3 := hide (fun W => HM z c W)
  have HA1 := hide HA
  clear HV HM HA hT hzl hms hm hz hL
  generalize V a.data.toList = x1 at *
  generalize V b.data.toList = x2 at *
  generalize V z.data.toList = x3 at *
  generalize T a.data.toList c.data.toList = y1 at *
  generalize T b.data.toList c.data.toList = y2 at *
  generalize T z.data.toList c.data.toList = y3 at *
  cases x1
  case false =>
    clear HT
    go_enter Try.func3, Try.ntmps3
    go_wp2_with fail
    refine (HV1.out _).mono ?_
    rintro e w1 ⟨rfl, b1⟩
    go_wp2_with fail
    refine (HA1.out _).mono ?_
    rintro e w2 ⟨rfl, b2⟩
    go_wp2_with fail
    go_ret
    have s1 := b1.size
    exact ⟨rfl, b1.trans (b2.mono (by omega))⟩
  cases x2
  case false =>
    clear HT
    go_enter Try.func3, Try.ntmps3
    go_wp2_with fail
    refine (HV1.out _).mono ?_
    rintro e w1 ⟨rfl, b1⟩
    go_wp2_with fail
    refine (HV2.out _).mono ?_
    rintro e w2 ⟨rfl, b2⟩
    go_wp2_with fail
    refine (HA1.out _).mono ?_
    rintro e w3 ⟨rfl, b3⟩
    go_wp2_with fail
    go_ret
    have s1 := b1.size
    have s2 := b2.size
    exact ⟨rfl, b1.trans ((b2.mono (by omega)).trans (b3.mono (by omega)))⟩
  obtain ⟨ad1, ad2⟩ := AD.out (LA.out rfl) (LB.out rfl)
  cases x3
  case false =>
    clear HT
    go_enter Try.func3, Try.ntmps3
    go_wp2_with fail
    refine (HV1.out _).mono ?_
    rintro e w1 ⟨rfl, b1⟩
    go_wp2_with fail
    refine (HV2.out _).mono ?_
    rintro e w2 ⟨rfl, b2⟩
    go_wp2_with fail
    refine (HV3.out _).mono ?_
    rintro e w3 ⟨rfl, b3⟩
    go_wp2_with fail
    refine (HA1.out _).mono ?_
    rintro e w4 ⟨rfl, b4⟩
    go_wp2_with fail
    go_ret
    have s1 := b1.size
    have s2 := b2.size
    have s3 := b3.size
    exact ⟨rfl, b1.trans ((b2.mono (by omega)).trans ((b3.mono (by omega)).trans (b4.mono (by omega))))⟩
  have hy := HT.out rfl rfl rfl
  clear HT
  subst hy
  cases y1
  · cases y2
    all_goals
      go_enter Try.func3, Try.ntmps3
      go_wp2_with fail
      refine (HV1.out _).mono ?_
      rintro e w1 ⟨rfl, b1⟩
      go_wp2_with fail
      refine (HV2.out _).mono ?_
      rintro e w2 ⟨rfl, b2⟩
      go_wp2_with fail
      refine (HV3.out _).mono ?_
      rintro e w3 ⟨rfl, b3⟩
      go_wp2_with fail
      refine (HM3.out _).mono ?_
      rintro e w4 ⟨rfl, b4⟩
      go_wp2_with fail
      refine (HM1.out _).mono ?_
      rintro e w5 ⟨rfl, b5⟩
      go_wp2_with fail
      refine (HM2.out _).mono ?_
      rintro e w6 ⟨rfl, b6⟩
      go_wp2_with fail
      refine (HA1.out _).mono ?_
      rintro e w7 ⟨rfl, b7⟩
      go_wp2_with fail
      go_ret
      have s1 := b1.size
      have s2 := b2.size
      have s3 := b3.size
      have s4 := b4.size
      have s5 := b5.size
      have s6 := b6.size
      exact ⟨rfl, b1.trans ((b2.mono (by omega)).trans ((b3.mono (by omega)).trans ((b4.mono (by omega)).trans ((b5.mono (by omega)).trans ((b6.mono (by omega)).trans (b7.mono (by omega)))))))⟩
  · go_enter Try.func3, Try.ntmps3
    go_wp2_with fail
    refine (HV1.out _).mono ?_
    rintro e w1 ⟨rfl, b1⟩
    go_wp2_with fail
    refine (HV2.out _).mono ?_
    rintro e w2 ⟨rfl, b2⟩
    go_wp2_with fail
    refine (HV3.out _).mono ?_
    rintro e w3 ⟨rfl, b3⟩
    go_wp2_with fail
    refine (HM3.out _).mono ?_
    rintro e w4 ⟨rfl, b4⟩
    go_wp2_with fail
    refine (HM1.out _).mono ?_
    rintro e w5 ⟨rfl, b5⟩
    go_wp2_with fail
    refine (HA1.out _).mono ?_
    rintro e w6 ⟨rfl, b6⟩
    go_wp2_with fail
    go_ret
    have s1 := b1.size
    have s2 := b2.size
    have s3 := b3.size
    have s4 := b4.size
    have s5 := b5.size
    exact ⟨rfl, b1.trans ((b2.mono (by omega)).trans ((b3.mono (by omega)).trans ((b4.mono (by omega)).trans ((b5.mono (by omega)).trans (b6.mono (by omega))))))⟩

end Go.Proofs.Ytplbdciikkpjoaa
