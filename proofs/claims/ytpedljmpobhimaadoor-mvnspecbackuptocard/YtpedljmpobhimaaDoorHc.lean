/-
  Walks: what stands at a place, where a version ends, whether it is one.
-/
import Derived.Test.YtpedljmpobhimaaDoorHb
import Derived.Test.YtpedljmpobhimaaDoorDn
namespace Go.Proofs.YtpedljmpobhimaaDoor
open Go.RowKit Go.Shelf
set_option linter.unusedVariables false

set_option maxRecDepth 100000 in
theorem IndexByte_any (s : ByteArray) (c : Int) (w : World) :
    Calls Tryd.prog 30 #[.string s, .int .u8 c] w fun e w' => e = .returned (.int .i64 (Lib.indexByte s.data.toList c.toNat.toUInt8)) ∧ w' = w := by
  go_enter Tryd.func30, Tryd.ntmps30
  go_wp2
  rw [run_callFunc_extern Tryd.func42 (by kernel_rfl) (by kernel_rfl) (by kernel_rfl) (e := Extern.BytealgIndexByte.indexByte) (by kernel_rfl), Lib.run_indexByteString]
  simp only [Result.andThen]
  rw [Oper.upon_value]
  go_wp2
  go_ret
  exact ⟨rfl, rfl⟩
theorem IndexS_any (s : ByteArray) (c : Int) (w : World) :
    Calls Tryd.prog 20 #[.string s, .int .u8 c] w fun e w' => e = .returned (.int .i64 (Lib.indexByte s.data.toList c.toNat.toUInt8)) ∧ w' = w := by
  go_enter Tryd.func20, Tryd.ntmps20
  go_wp2_with fail
  refine (IndexByte_any _ _ _).mono ?_
  rintro e w' ⟨rfl, rfl⟩
  go_wp2_with fail
  go_ret
  exact ⟨rfl, rfl⟩
theorem idx_has : ∀ (l : List UInt8) (c : UInt8), decide (0 ≤ Lib.indexByte l c) = l.contains c
  | [], c => rfl
  | b :: l, c => by
    have ih := idx_has l c
    have hg := Lib.indexByte_ge l c
    unfold Lib.indexByte
    rw [List.contains_cons]
    by_cases h : b = c
    · subst h; simp
    · rw [if_neg (by simpa using h), show (c == b) = false by simpa using fun e => h e.symm, Bool.false_or, ← ih]
      by_cases h1 : Lib.indexByte l c = -1
      · rw [h1]; rfl
      · rw [if_neg (by simpa using h1), decide_eq_true (by omega), decide_eq_true (by omega)]
theorem byte_back (c : UInt8) : ((c.toNat : Int)).toNat.toUInt8 = c := by simp

/-- Does one of some bytes stand at a place? -/
theorem isAt_any (s bs : ByteArray) (a : Nat) (w : World) :
    Calls Tryd.prog 12 #[.string s, .int .i64 (a : Int), .string bs] w fun e w' => e = .returned (.bool (hdIn bs.data.toList (s.data.toList.drop a))) ∧ w' = w := by
  by_cases h : a < s.size
  · have hX : hdIn bs.data.toList (s.data.toList.drop a) = decide (0 ≤ Lib.indexByte bs.data.toList s[a]) := by rw [drop_at s a h, idx_has]; rfl
    have CI := fun W => IndexS_any bs (s[a].toNat : Int) W
    rw [byte_back] at CI
    have CI := hide CI
    generalize hdIn bs.data.toList (s.data.toList.drop a) = X at *
    generalize Lib.indexByte bs.data.toList s[a] = I at *
    have HX := hide hX
    clear hX
    go_enter Tryd.func12, Tryd.ntmps12
    go_wp2_with fail
    refine (CI.out _).mono ?_
    rintro e w' ⟨rfl, rfl⟩
    go_wp2_with fail
    go_ret
    exact ⟨ret_b HX.out.symm, rfl⟩
  · have hX : hdIn bs.data.toList (s.data.toList.drop a) = false := by rw [drop_end s a (by omega)]; rfl
    rw [hX]
    go_enter Tryd.func12, Tryd.ntmps12
    go_wp2_with fail
    go_ret
    exact ⟨rfl, rfl⟩
/-- What is wrong at a place. -/
theorem Misfit_any (s : ByteArray) (a : Nat) (w : World) (ha : a ≤ s.size) :
    Calls Tryd.prog 24 #[.string s, .int .i64 (a : Int)] w fun e w' => e = .returned (.int .i64 (misR (s.data.toList.drop a))) ∧ w' = w := by
  by_cases h : a = s.size
  · have hb : ((a : Int) == (s.size : Int)) = true := by simp; omega
    have HM : Hid (misR (s.data.toList.drop a) = 11) := if_pos (drop_end s a (by omega))
    generalize misR (s.data.toList.drop a) = M at *
    clear h
    go_enter Tryd.func24, Tryd.ntmps24
    go_wp2_with fail
    go_ret
    exact ⟨ret_i HM.out.symm, rfl⟩
  · have hb : ((a : Int) == (s.size : Int)) = false := by simp; omega
    have HM : Hid (misR (s.data.toList.drop a) = 10) := if_neg (by rw [drop_at s a (by omega)]; simp)
    generalize misR (s.data.toList.drop a) = M at *
    clear h
    go_enter Tryd.func24, Tryd.ntmps24
    go_wp2_with fail
    go_ret
    exact ⟨ret_i HM.out.symm, rfl⟩
theorem Run6 (s : ByteArray) (a : Nat) (hs : s.size ≤ 256) (ha : a ≤ s.size) (z : Int) (hz : z = (a : Int)) (w : World) :
    Calls Tryd.prog 11 #[.string s, .int .i64 z, .int .i64 6] w fun r w' => r = .returned (.int .i64 ((a + blN (s.data.toList.drop a) : Nat) : Int)) ∧ w' = w := by
  subst hz
  have := Run_any s (a : Int) 6 w (by unfold maxLen; omega)
  rw [runI_in s a 6 ha] at this
  unfold blN
  simpa using this
theorem bl_le (s : ByteArray) (a : Nat) (ha : a ≤ s.size) : a + blN (s.data.toList.drop a) ≤ s.size := runL_drop_le 6 s a ha

theorem ve_hit (s : ByteArray) (j : Nat) (h : j < s.size) (hc : inV s[j] = true) : veN (s.data.toList.drop j) = 1 + veN (s.data.toList.drop (j + 1)) := by
  unfold veN
  rw [drop_at s j h, List.takeWhile_cons, if_pos hc, List.length_cons]
  omega
theorem ve_miss (s : ByteArray) (j : Nat) (h : j < s.size) (hc : inV s[j] = false) : veN (s.data.toList.drop j) = 0 := by
  unfold veN
  rw [drop_at s j h, List.takeWhile_cons, if_neg (by rw [hc]; decide)]
  rfl
theorem ve_end (s : ByteArray) (j : Nat) (h : ¬ j < s.size) : veN (s.data.toList.drop j) = 0 := by
  rw [drop_end s j (by omega)]; rfl
theorem ve_le (r : List UInt8) : veN r ≤ r.length := (List.takeWhile_sublist inV).length_le
theorem inV_at (s : ByteArray) (j : Nat) (h : j < s.size) : inV s[j] = (!(isC (s[j].toNat : Int) 6) && !(hdIn [44, 91, 93, 40, 41] (s.data.toList.drop j))) := by
  rw [drop_at s j h]; rfl

set_option maxHeartbeats 1000000 in
theorem versionEnd_any (s : ByteArray) (a : Nat) (w : World) (hs : s.size ≤ 256) (ha : a ≤ s.size) :
    Calls Tryd.prog 35 #[.string s, .int .i64 (a : Int)] w fun e w' => e = .returned (.int .i64 ((a + veN (s.data.toList.drop a) : Nat) : Int)) ∧ w' = w := by
  generalize hR : a + veN (s.data.toList.drop a) = R
  have HR0 := hide hR
  clear hR
  have CI := hide (fun (k : Nat) W => isAt_any s ⟨#[44, 91, 93, 40, 41]⟩ k W)
  go_enter Tryd.func35, Tryd.ntmps35
  go_wp2_with fail
  go_loop [1] (fun i => ∃ j : Nat, a + j ≤ s.size ∧ i = .int .i64 ((a + j : Nat) : Int) ∧ Hid (veN (s.data.toList.drop a) = j + veN (s.data.toList.drop (a + j)))) (fun i => s.size - (intOf i).toNat)
  case atStart => exact ⟨0, by omega, by simp, by simp [Hid]⟩
  case round =>
    obtain ⟨j, hj, rfl, HR⟩ := hrel
    obtain ⟨k, hk⟩ : ∃ k, k = a + j := ⟨_, rfl⟩
    rw [← hk] at HR hj ⊢
    by_cases hlt : k < s.size
    · have hin := inV_at s k hlt
      by_cases hc : isC (s[k].toNat : Int) 6 = true
      · have H1 := hide (ve_miss s k hlt (by rw [hin, hc]; rfl))
        have HK := hide hk
        clear hk hin
        go_wp2_with (go_at_call 19; refine (Is_any _ _ _).mono ?_; rintro e w' ⟨rfl, rfl⟩)
        go_ret
        exact ⟨ret_i (by have a := HR.out; have b := H1.out; have c := HK.out; have d := HR0.out; omega), rfl⟩
      · have hc' : isC (s[k].toNat : Int) 6 = false := by simpa using hc
        clear hc
        have CK := hide (CI.out k)
        change Hid (∀ W, Calls Tryd.prog 12 #[.string s, .int .i64 (k : Int), .string ⟨#[44, 91, 93, 40, 41]⟩] W fun e w' => e = .returned (.bool (hdIn [44, 91, 93, 40, 41] (s.data.toList.drop k))) ∧ w' = W) at CK
        generalize hdIn [44, 91, 93, 40, 41] (s.data.toList.drop k) = X at *
        cases X with
        | true =>
          have H1 := hide (ve_miss s k hlt (by rw [hin, hc']; rfl))
          have HK := hide hk
          clear hk hin
          go_wp2_with (first | (go_at_call 19; refine (Is_any _ _ _).mono ?_; rintro e w' ⟨rfl, rfl⟩) | (go_at_call 12; refine (CK.out _).mono ?_; rintro e w' ⟨rfl, rfl⟩))
          go_ret
          exact ⟨ret_i (by have a := HR.out; have b := H1.out; have c := HK.out; have d := HR0.out; omega), rfl⟩
        | false =>
          have H1 := hide (ve_hit s k hlt (by rw [hin, hc']; rfl))
          have HK := hide hk
          clear hk hin
          go_wp2_with (first | (go_at_call 19; refine (Is_any _ _ _).mono ?_; rintro e w' ⟨rfl, rfl⟩) | (go_at_call 12; refine (CK.out _).mono ?_; rintro e w' ⟨rfl, rfl⟩))
          go_round
          case rel => exact ⟨j + 1, by have := HK.out; omega, by have := HK.out; subst this; go_num, by have a := HR.out; have b := H1.out; have c := HK.out; subst c; show _ = _; rw [Nat.add_assoc] at b; omega⟩
          case measure => simp [intOf]; omega
    · have H1 := hide (ve_end s k hlt)
      have HK := hide hk
      clear hk
      go_wp2_with fail
      go_ret
      exact ⟨ret_i (by have a := HR.out; have b := H1.out; have c := HK.out; have d := HR0.out; omega), rfl⟩

/-- Is it a version? -/
theorem isVersion_any (s : ByteArray) (w : World) (hk : Kn w) :
    Calls Tryd.prog 36 #[.string s] w fun e w' => e = .returned (.bool (isVer s.data.toList)) ∧ Below w.heap.size w w' := by
  have hp0 : 0 < w.heap.size := by have := hk.pos; omega
  cases hp : toksL s.data.toList with
  | error x =>
    have hv : isVer s.data.toList = false := by unfold isVer okT; rw [hp]
    have C := hide (fun w => Tokens_no s x hp w)
    have hx0 : (x.1 == 0) = false := by simpa using toks_errs hp
    rw [hv]
    clear hp hv hk
    go_enter Tryd.func36, Tryd.ntmps36
    go_wp2_with fail
    refine (C.out _).mono ?_
    rintro e' w1 ⟨rfl, b1⟩
    go_wp2_with fail
    go_ret
    exact ⟨rfl, b1.alloc b1.size _⟩
  | ok ts =>
    have hv : isVer s.data.toList = true := by unfold isVer okT; rw [hp]
    have C := hide (fun w h => Tokens_ok s ts hp w h)
    rw [hv]
    clear hp hv hk
    go_enter Tryd.func36, Tryd.ntmps36
    go_wp2_with fail
    refine (C.out _ hp0).mono ?_
    rintro e' w1 ⟨v, rfl, ht, b1⟩
    obtain ⟨b, cap, sp, rfl, _, _⟩ := ht
    go_wp2_with fail
    go_ret
    exact ⟨rfl, b1.alloc b1.size _⟩

end Go.Proofs.YtpedljmpobhimaaDoor
