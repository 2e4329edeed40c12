/-
  Walks: the document's order of texts.
-/
import Derived.Test.YtpedljmpobhimaaGreatDoorFe
namespace Go.Proofs.YtpedljmpobhimaaGreatDoor
open Go.RowKit Go.Shelf
set_option linter.unusedVariables false

theorem isTok_of {t : Tok} (h : TokF t) : isTokB t = true := by
  unfold isTokB
  rcases h with ⟨h1, h2⟩ | ⟨h1, h2, h3⟩
  · rw [h1, h2]; rfl
  · rw [h2, h3 false]; simp
theorem toks_fitB {l : List UInt8} {ts : List Tok} (h : toksL l = .ok ts) : fitB ts = true := by
  unfold fitB
  rw [Bool.and_eq_true, List.all_eq_true]
  refine ⟨fun t ht => isTok_of (toks_fit h t ht).1, ?_⟩
  rw [decide_eq_true_iff, toks_eq h]
  exact trimT_idem _

set_option maxRecDepth 100000 in
set_option maxHeartbeats 4000000 in
theorem RCompare_any (s t : ByteArray) (w : World) :
    Calls Tryz.prog 20 #[.string s, .string t] w fun e w' => e = .returned (.int .i64 (cmpT s.data.toList t.data.toList)) ∧ Below w.heap.size w w' := by
  have HT : Hid (cmpT s.data.toList t.data.toList = match toksL s.data.toList, toksL t.data.toList with
    | .ok x, .ok y => ordL x y
    | .ok _, .error _ => 1
    | .error _, .ok _ => -1
    | .error _, .error _ => Lib.compareBytes s.data.toList t.data.toList) := rfl
  generalize cmpT s.data.toList t.data.toList = C at *
  have TS := hide (fun w => Rtokens_any s w)
  have TT := hide (fun w => Rtokens_any t w)
  have T1 := hide (fun w => Rtruth_any true w)
  have T0 := hide (fun w => Rtruth_any false w)
  cases hs : toksL s.data.toList with
  | error x =>
    have hx0 : (x.1 != 0) = true := by simpa using toks_errs hs
    have hx1 : (x.1 == 0) = false := by simpa using toks_errs hs
    have TS : ∀ w, Calls Tryz.prog 40 #[.string s] w fun r w' => r = .returned (.tuple #[.slice none 0 0, .int .i64 x.1, .int .i64 (x.2 : Int)]) ∧ Below w.heap.size w w' := fun w => (TS.out w).mono fun e w' h => by
      rcases h with ⟨y, h1, h2⟩ | ⟨ts, ao, cv, h1, _⟩
      · rw [hs] at h1; cases h1; exact h2
      · rw [hs] at h1; cases h1
    have TS := hide TS
    cases ht : toksL t.data.toList with
    | error y =>
      have hy0 : (y.1 != 0) = true := by simpa using toks_errs ht
      have TT : ∀ w, Calls Tryz.prog 40 #[.string t] w fun r w' => r = .returned (.tuple #[.slice none 0 0, .int .i64 y.1, .int .i64 (y.2 : Int)]) ∧ Below w.heap.size w w' := fun w => (TT.out w).mono fun e w' h => by
        rcases h with ⟨z, h1, h2⟩ | ⟨ts, ao, cv, h1, _⟩
        · rw [ht] at h1; cases h1; exact h2
        · rw [ht] at h1; cases h1
      have TT := hide TT
      rw [hs, ht] at HT
      have HBT := hide (cmp3 s.toList t.toList)
      rw [toL, toL] at HBT
      have HT9 : Hid (C = Lib.compareBytes s.data.toList t.data.toList) := HT
      clear HT
      generalize Lib.compareBytes s.data.toList t.data.toList = c2 at *
      rw [← toL, ← toL] at HBT
      clear hs ht
      rcases HBT.out with ⟨rfl, hbl⟩ | ⟨rfl, hbl, heq⟩ | ⟨rfl, hbl, heq⟩
      · go_enter Tryz.func20, Tryz.ntmps20
        go_wp2_with fail
        refine (TS.out _).mono ?_
        rintro e w1 ⟨rfl, b1⟩
        go_wp2_with fail
        refine (TT.out _).mono ?_
        rintro e w2 ⟨rfl, b2⟩
        have b12 := b1.trans (b2.mono b1.size)
        go_wp2_with fail
        refine (T0.out _).mono ?_
        rintro e w' ⟨rfl, hw'⟩
        rw [hw']; clear hw' w'
        go_wp2_with fail
        refine (T1.out _).mono ?_
        rintro e w' ⟨rfl, hw'⟩
        rw [hw']; clear hw' w'
        go_wp2_with fail
        go_ret
        exact ⟨ret_i HT9.out.symm, b12⟩
      · go_enter Tryz.func20, Tryz.ntmps20
        go_wp2_with fail
        refine (TS.out _).mono ?_
        rintro e w1 ⟨rfl, b1⟩
        go_wp2_with fail
        refine (TT.out _).mono ?_
        rintro e w2 ⟨rfl, b2⟩
        have b12 := b1.trans (b2.mono b1.size)
        go_wp2_with fail
        refine (T0.out _).mono ?_
        rintro e w' ⟨rfl, hw'⟩
        rw [hw']; clear hw' w'
        go_wp2_with fail
        refine (T0.out _).mono ?_
        rintro e w' ⟨rfl, hw'⟩
        rw [hw']; clear hw' w'
        go_wp2_with fail
        go_ret
        exact ⟨ret_i HT9.out.symm, b12⟩
      · go_enter Tryz.func20, Tryz.ntmps20
        go_wp2_with fail
        refine (TS.out _).mono ?_
        rintro e w1 ⟨rfl, b1⟩
        go_wp2_with fail
        refine (TT.out _).mono ?_
        rintro e w2 ⟨rfl, b2⟩
        have b12 := b1.trans (b2.mono b1.size)
        go_wp2_with fail
        refine (T1.out _).mono ?_
        rintro e w' ⟨rfl, hw'⟩
        rw [hw']; clear hw' w'
        go_wp2_with fail
        refine (T0.out _).mono ?_
        rintro e w' ⟨rfl, hw'⟩
        rw [hw']; clear hw' w'
        go_wp2_with fail
        go_ret
        exact ⟨ret_i HT9.out.symm, b12⟩
    | ok ys =>
      have HT9 : Hid (C = -1) := by rw [hs, ht] at HT; exact HT
      clear HT hs
      go_enter Tryz.func20, Tryz.ntmps20
      go_wp2_with fail
      refine (TS.out _).mono ?_
      rintro e w1 ⟨rfl, b1⟩
      go_wp2_with fail
      refine (TT.out _).mono ?_
      rintro e w2 (⟨z, h1, _⟩ | ⟨ts, ao, cv, h1, rfl, _, b2⟩)
      · rw [ht] at h1; cases h1
      have b12 := b1.trans (b2.mono b1.size)
      go_wp2_with fail
      refine (T0.out _).mono ?_
      rintro e w' ⟨rfl, hw'⟩
      rw [hw']; clear hw' w'
      go_wp2_with fail
      refine (T1.out _).mono ?_
      rintro e w' ⟨rfl, hw'⟩
      rw [hw']; clear hw' w'
      go_wp2_with fail
      go_ret
      exact ⟨ret_i HT9.out.symm, b12⟩
  | ok xs =>
    cases ht : toksL t.data.toList with
    | error y =>
      have hy0 : (y.1 != 0) = true := by simpa using toks_errs ht
      have hy1 : (y.1 == 0) = false := by simpa using toks_errs ht
      have TT : ∀ w, Calls Tryz.prog 40 #[.string t] w fun r w' => r = .returned (.tuple #[.slice none 0 0, .int .i64 y.1, .int .i64 (y.2 : Int)]) ∧ Below w.heap.size w w' := fun w => (TT.out w).mono fun e w' h => by
        rcases h with ⟨z, h1, h2⟩ | ⟨ts, ao, cv, h1, _⟩
        · rw [ht] at h1; cases h1; exact h2
        · rw [ht] at h1; cases h1
      have TT := hide TT
      have HT9 : Hid (C = 1) := by rw [hs, ht] at HT; exact HT
      clear HT ht
      go_enter Tryz.func20, Tryz.ntmps20
      go_wp2_with fail
      refine (TS.out _).mono ?_
      rintro e w1 (⟨z, h1, _⟩ | ⟨ts, ao, cv, h1, rfl, _, b1⟩)
      · rw [hs] at h1; cases h1
      go_wp2_with fail
      refine (TT.out _).mono ?_
      rintro e w2 ⟨rfl, b2⟩
      have b12 := b1.trans (b2.mono b1.size)
      go_wp2_with fail
      refine (T1.out _).mono ?_
      rintro e w' ⟨rfl, hw'⟩
      rw [hw']; clear hw' w'
      go_wp2_with fail
      refine (T0.out _).mono ?_
      rintro e w' ⟨rfl, hw'⟩
      rw [hw']; clear hw' w'
      go_wp2_with fail
      go_ret
      exact ⟨ret_i HT9.out.symm, b12⟩
    | ok ys =>
      have HT9 : Hid (C = ordF xs ys) := by
        rw [hs, ht] at HT
        show _ = _
        unfold ordF
        rw [toks_fitB hs, toks_fitB ht]
        exact HT.out
      clear HT
      obtain ⟨sx, mx⟩ := toks_short hs
      obtain ⟨sy, my⟩ := toks_short ht
      have HMX := hide mx
      have HMY := hide my
      clear mx my
      go_enter Tryz.func20, Tryz.ntmps20
      go_wp2_with fail
      refine (TS.out _).mono ?_
      rintro e w1 (⟨z, h1, _⟩ | ⟨ts1, ao1, cv1, h1, rfl, K1, b1⟩)
      · rw [hs] at h1; cases h1
      rw [hs] at h1
      cases h1
      go_wp2_with fail
      refine (TT.out _).mono ?_
      rintro e w2 (⟨z, h1, _⟩ | ⟨ts2, ao2, cv2, h1, rfl, K2, b2⟩)
      · rw [ht] at h1; cases h1
      rw [ht] at h1
      cases h1
      have b12 := b1.trans (b2.mono b1.size)
      have RO := hide (ROrder_any ao1 ao2 _ _ cv1 cv2 xs ys w2 (K1.below b2) K2 (by omega) (by omega) (fun t h => by have := HMX.out t h; omega) (fun t h => by have := HMY.out t h; omega))
      clear K1 K2 hs ht
      go_wp2_with fail
      refine RO.out.mono ?_
      rintro e w3 ⟨rfl, b3⟩
      go_wp2_with fail
      go_ret
      exact ⟨ret_i HT9.out.symm, b12.trans (b3.mono b12.size)⟩

end Go.Proofs.YtpedljmpobhimaaGreatDoor
