/-
  Walks: what stands at a place, where a version ends, whether it is one.
-/
import Derived.Test.YtpedljmpobhimaaGreatDoorHb
import Derived.Test.YtpedljmpobhimaaGreatDoorDn
namespace Go.Proofs.YtpedljmpobhimaaGreatDoor
open Go.RowKit Go.Shelf
set_option linter.unusedVariables false

set_option maxRecDepth 100000 in
theorem IndexByte_any (s : ByteArray) (c : Int) (w : World) :
    Calls Tryz.prog 69 #[.string s, .int .u8 c] w fun e w' => e = .returned (.int .i64 (Lib.indexByte s.data.toList c.toNat.toUInt8)) ∧ w' = w := by
  go_enter Tryz.func69, Tryz.ntmps69
  go_wp2
  rw [run_callFunc_extern Tryz.func89 (by kernel_rfl) (by kernel_rfl) (by kernel_rfl) (e := Extern.BytealgIndexByte.indexByte) (by kernel_rfl), Lib.run_indexByteString]
  simp only [Result.andThen]
  rw [Oper.upon_value]
  go_wp2
  go_ret
  exact ⟨rfl, rfl⟩
theorem IndexS_any (s : ByteArray) (c : Int) (w : World) :
    Calls Tryz.prog 45 #[.string s, .int .u8 c] w fun e w' => e = .returned (.int .i64 (Lib.indexByte s.data.toList c.toNat.toUInt8)) ∧ w' = w := by
  go_enter Tryz.func45, Tryz.ntmps45
  go_wp2_with fail
  refine (IndexByte_any _ _ _).mono ?_
  rintro e w' ⟨rfl, rfl⟩
  go_wp2_with fail
  go_ret
  exact ⟨rfl, rfl⟩
theorem idx_has : ∀ (l : List UInt8) (c : UInt8), decide (0 ≤ Lib.indexByte l c) = l.contains c
  | [], c => rfl
  | b :: l, c => by
    have ih := idx_has l c
    have hg := Lib.indexByte_ge l c
    unfold Lib.indexByte
    rw [List.contains_cons]
    by_cases h : b = c
    · subst h; simp
    · rw [if_neg (by simpa using h), show (c == b) = false by simpa using fun e => h e.symm, Bool.false_or, ← ih]
      by_cases h1 : Lib.indexByte l c = -1
      · rw [h1]; rfl
      · rw [if_neg (by simpa using h1), decide_eq_true (by omega), decide_eq_true (by omega)]
theorem byte_back (c : UInt8) : ((c.toNat : Int)).toNat.toUInt8 = c := by simp

/-- Does one of some bytes stand at a place? -/
theorem isAt_any (s bs : ByteArray) (a : Nat) (w : World) :
    Calls Tryz.prog 22 #[.string s, .int .i64 (a : Int), .string bs] w fun e w' => e = .returned (.bool (hdIn bs.data.toList (s.data.toList.drop a))) ∧ w' = w := by
  by_cases h : a < s.size
  · have hX : hdIn bs.data.toList (s.data.toList.drop a) = decide (0 ≤ Lib.indexByte bs.data.toList s[a]) := by rw [drop_at s a h, idx_has]; rfl
    have CI := fun W => IndexS_any bs (s[a].toNat : Int) W
    rw [byte_back] at CI
    have CI := hide CI
    generalize hdIn bs.data.toList (s.data.toList.drop a) = X at *
    generalize Lib.indexByte bs.data.toList s[a] = I at *
    have HX := hide hX
    clear hX
    go_enter Tryz.func22, Tryz.ntmps22
    go_wp2_with fail
    refine (CI.out _).mono ?_
    rintro e w' ⟨rfl, rfl⟩
    go_wp2_with fail
    go_ret
    exact ⟨ret_b HX.out.symm, rfl⟩
  · have hX : hdIn bs.data.toList (s.data.toList.drop a) = false := by rw [drop_end s a (by omega)]; rfl
    rw [hX]
    go_enter Tryz.func22, Tryz.ntmps22
    go_wp2_with fail
    go_ret
    exact ⟨rfl, rfl⟩
/-- What is wrong at a place. -/
theorem Misfit_any (s : ByteArray) (a : Nat) (w : World) (ha : a ≤ s.size) :
    Calls Tryz.prog 49 #[.string s, .int .i64 (a : Int)] w fun e w' => e = .returned (.int .i64 (misR (s.data.toList.drop a))) ∧ w' = w := by
  by_cases h : a = s.size
  · have hb : ((a : Int) == (s.size : Int)) = true := by simp; omega
    have HM : Hid (misR (s.data.toList.drop a) = 11) := if_pos (drop_end s a (by omega))
    generalize misR (s.data.toList.drop a) = M at *
    clear h
    go_enter Tryz.func49, Tryz.ntmps49
    go_wp2_with fail
    go_ret
    exact ⟨ret_i HM.out.symm, rfl⟩
  · have hb : ((a : Int) == (s.size : Int)) = false := by simp; omega
    have HM : Hid (misR (s.data.toList.drop a) = 10) := if_neg (by rw [drop_at s a (by omega)]; simp)
    generalize misR (s.data.toList.drop a) = M at *
    clear h
    go_enter Tryz.func49, Tryz.ntmps49
    go_wp2_with fail
    go_ret
    exact ⟨ret_i HM.out.symm, rfl⟩
theorem Run6 (s : ByteArray) (a : Nat) (hs : s.size ≤ 256) (ha : a ≤ s.size) (z : Int) (hz : z = (a : Int)) (w : World) :
    Calls Tryz.prog 21 #[.string s, .int .i64 z, .int .i64 6] w fun r w' => r = .returned (.int .i64 ((a + blN (s.data.toList.drop a) : Nat) : Int)) ∧ w' = w := by
  subst hz
  have := Run_any s (a : Int) 6 w (by unfold maxLen; omega)
  rw [runI_in s a 6 ha] at this
  unfold blN
  simpa using this
theorem bl_le (s : ByteArray) (a : Nat) (ha : a ≤ s.size) : a + blN (s.data.toList.drop a) ≤ s.size := runL_drop_le 6 s a ha

theorem ve_hit (s : ByteArray) (j : Nat) (h : j < s.size) (hc : inV s[j] = true) : veN (s.data.toList.drop j) = 1 + veN (s.data.toList.drop (j + 1)) := by
  unfold veN
  rw [drop_at s j h, List.takeWhile_cons, if_pos hc, List.length_cons]
  omega
theorem ve_miss (s : ByteArray) (j : Nat) (h : j < s.size) (hc : inV s[j] = false) : veN (s.data.toList.drop j) = 0 := by
  unfold veN
  rw [drop_at s j h, List.takeWhile_cons, if_neg (by rw [hc]; decide)]
  rfl
theorem ve_end (s : ByteArray) (j : Nat) (h : ¬ j < s.size) : veN (s.data.toList.drop j) = 0 := by
  rw [drop_end s j (by omega)]; rfl
theorem ve_le (r : List UInt8) : veN r ≤ r.length := (List.takeWhile_sublist inV).length_le
theorem inV_at (s : ByteArray) (j : Nat) (h : j < s.size) : inV s[j] = (!(isC (s[j].toNat : Int) 6) && !(hdIn [44, 91, 93, 40, 41] (s.data.toList.drop j))) := by
  rw [drop_at s j h]; rfl

set_option maxHeartbeats 1000000 in
theorem versionEnd_any (s : ByteArray) (a : Nat) (w : World) (hs : s.size ≤ 256) (ha : a ≤ s.size) :
    Calls Tryz.prog 73 #[.string s, .int .i64 (a : Int)] w fun e w' => e = .returned (.int .i64 ((a + veN (s.data.toList.drop a) : Nat) : Int)) ∧ w' = w := by
  generalize hR : a + veN (s.data.toList.drop a) = R
  have HR0 := hide hR
  clear hR
  have CI := hide (fun (k : Nat) W => isAt_any s ⟨#[44, 91, 93, 40, 41]⟩ k W)
  go_enter Tryz.func73, Tryz.ntmps73
  go_wp2_with fail
  go_loop [1] (fun i => ∃ j : Nat, a + j ≤ s.size ∧ i = .int .i64 ((a + j : Nat) : Int) ∧ Hid (veN (s.data.toList.drop a) = j + veN (s.data.toList.drop (a + j)))) (fun i => s.size - (intOf i).toNat)
  case atStart => exact ⟨0, by omega, by simp, by simp [Hid]⟩
  case round =>
    obtain ⟨j, hj, rfl, HR⟩ := hrel
    obtain ⟨k, hk⟩ : ∃ k, k = a + j := ⟨_, rfl⟩
    rw [← hk] at HR hj ⊢
    by_cases hlt : k < s.size
    · have hin := inV_at s k hlt
      by_cases hc : isC (s[k].toNat : Int) 6 = true
      · have H1 := hide (ve_miss s k hlt (by rw [hin, hc]; rfl))
        have HK := hide hk
        clear hk hin
        go_wp2_with (go_at_call 44; refine (Is_any _ _ _).mono ?_; rintro e w' ⟨rfl, rfl⟩)
        go_ret
        exact ⟨ret_i (by have a := HR.out; have b := H1.out; have c := HK.out; have d := HR0.out; omega), rfl⟩
      · have hc' : isC (s[k].toNat : Int) 6 = false := by simpa using hc
        clear hc
        have CK := hide (CI.out k)
        change Hid (∀ W, Calls Tryz.prog 22 #[.string s, .int .i64 (k : Int), .string ⟨#[44, 91, 93, 40, 41]⟩] W fun e w' => e = .returned (.bool (hdIn [44, 91, 93, 40, 41] (s.data.toList.drop k))) ∧ w' = W) at CK
        generalize hdIn [44, 91, 93, 40, 41] (s.data.toList.drop k) = X at *
        cases X with
        | true =>
          have H1 := hide (ve_miss s k hlt (by rw [hin, hc']; rfl))
          have HK := hide hk
          clear hk hin
          go_wp2_with (first | (go_at_call 44; refine (Is_any _ _ _).mono ?_; rintro e w' ⟨rfl, rfl⟩) | (go_at_call 22; refine (CK.out _).mono ?_; rintro e w' ⟨rfl, rfl⟩))
          go_ret
          exact ⟨ret_i (by have a := HR.out; have b := H1.out; have c := HK.out; have d := HR0.out; omega), rfl⟩
        | false =>
          have H1 := hide (ve_hit s k hlt (by rw [hin, hc']; rfl))
          have HK := hide hk
          clear hk hin
          go_wp2_with (first | (go_at_call 44; refine (Is_any _ _ _).mono ?_; rintro e w' ⟨rfl, rfl⟩) | (go_at_call 22; refine (CK.out _).mono ?_; rintro e w' ⟨rfl, rfl⟩))
          go_round
          case rel => exact ⟨j + 1, by have := HK.out; omega, by have := HK.out; subst this; go_num, by have a := HR.out; have b := H1.out; have c := HK.out; subst c; show _ = _; rw [Nat.add_assoc] at b; omega⟩
          case measure => simp [intOf]; omega
    · have H1 := hide (ve_end s k hlt)
      have HK := hide hk
      clear hk
      go_wp2_with fail
      go_ret
      exact ⟨ret_i (by have a := HR.out; have b := H1.out; have c := HK.out; have d := HR0.out; omega), rfl⟩

/-- Is it a version? -/
theorem isVersion_any (s : ByteArray) (w : World) (hk : Kn w) :
    Calls Tryz.prog 34 #[.string s] w fun e w' => e = .returned (.bool (isVer s.data.toList)) ∧ Below w.heap.size w w' := by
  have hp0 : 0 < w.heap.size := by have := hk.pos; omega
  cases hp : toksL s.data.toList with
  | error x =>
    have hv : isVer s.data.toList = false := by unfold isVer okT; rw [hp]
    have C := hide (fun w => Tokens_no s x hp w)
    have hx0 : (x.1 == 0) = false := by simpa using toks_errs hp
    rw [hv]
    clear hp hv hk
    go_enter Tryz.func34, Tryz.ntmps34
    go_wp2_with fail
    refine (C.out _).mono ?_
    rintro e' w1 ⟨rfl, b1⟩
    go_wp2_with fail
    go_ret
    exact ⟨rfl, b1.alloc b1.size _⟩
  | ok ts =>
    have hv : isVer s.data.toList = true := by unfold isVer okT; rw [hp]
    have C := hide (fun w h => Tokens_ok s ts hp w h)
    rw [hv]
    clear hp hv hk
    go_enter Tryz.func34, Tryz.ntmps34
    go_wp2_with fail
    refine (C.out _ hp0).mono ?_
    rintro e' w1 ⟨v, rfl, ht, b1⟩
    obtain ⟨b, cap, sp, rfl, _, _⟩ := ht
    go_wp2_with fail
    go_ret
    exact ⟨rfl, b1.alloc b1.size _⟩

end Go.Proofs.YtpedljmpobhimaaGreatDoor

/-
  Walks: a version, or none, with blanks around; which of two is ahead.
-/
namespace Go.Proofs.YtpedljmpobhimaaGreatDoor
open Go.RowKit Go.Shelf
set_option linter.unusedVariables false

theorem ahead_any (s t : ByteArray) (k : Bool) (w : World) (hk : Kn w) :
    Calls Tryz.prog 60 #[.string s, .string t, .bool k] w fun e w' => e = .returned (.bool (aheadL s.data.toList t.data.toList k)) ∧ Below w.heap.size w w' := by
  have CC := hide (CompareT_any s t w hk)
  have hX : aheadL s.data.toList t.data.toList k = (decide (cmpT s.data.toList t.data.toList < 0) || (decide (cmpT s.data.toList t.data.toList = 0) && k)) := rfl
  generalize aheadL s.data.toList t.data.toList k = X at *
  generalize cmpT s.data.toList t.data.toList = C at *
  by_cases h1 : C < 0
  · rw [decide_eq_true h1] at hX
    subst hX
    go_enter Tryz.func60, Tryz.ntmps60
    go_wp2_with fail
    refine CC.out.mono ?_
    rintro e w' ⟨rfl, b1⟩
    go_wp2_with fail
    go_ret
    exact ⟨rfl, b1⟩
  · by_cases h2 : C = 0
    · rw [decide_eq_false h1, decide_eq_true h2] at hX
      subst hX h2
      go_enter Tryz.func60, Tryz.ntmps60
      go_wp2_with fail
      refine CC.out.mono ?_
      rintro e w' ⟨rfl, b1⟩
      go_wp2_with fail
      go_ret
      exact ⟨by simp, b1⟩
    · rw [decide_eq_false h1, decide_eq_false h2] at hX
      have h2' : (C == 0) = false := by simpa using h2
      clear h2
      subst hX
      go_enter Tryz.func60, Tryz.ntmps60
      go_wp2_with fail
      refine CC.out.mono ?_
      rintro e w' ⟨rfl, b1⟩
      go_wp2_with fail
      go_ret
      exact ⟨by simp; omega, b1⟩

/-- A range as a value. -/
def mV (m : Mr) : Value := .agg #[.bool m.hasLo, .string (ofL m.lo), .bool m.loIn, .bool m.hasHi, .string (ofL m.hi), .bool m.hiIn]

set_option maxHeartbeats 1000000 in
theorem rises_any (m : Mr) (w : World) (hk : Kn w) :
    Calls Tryz.prog 90 #[mV m] w fun e w' => e = .returned (.bool (risesL m)) ∧ Below w.heap.size w w' := by
  obtain ⟨hl, lo, li, hh, hi, hin⟩ := m
  have AH := hide (fun (k : Bool) W (hW : Kn W) => (by have := ahead_any (ofL lo) (ofL hi) k W hW; rw [ofL_data, ofL_data] at this; exact this : Calls Tryz.prog 60 #[.string (ofL lo), .string (ofL hi), .bool k] W fun e w' => e = .returned (.bool (aheadL lo hi k)) ∧ Below W.heap.size W w'))
  have b0 := hide (fun o => (Below.refl _ w).alloc (Nat.le_refl _) o)
  have HK := hide hk
  clear hk
  unfold mV risesL
  dsimp only
  cases hl
  · go_enter Tryz.func90, Tryz.ntmps90
    go_wp2_with fail
    go_ret
    exact ⟨rfl, b0.out _⟩
  · cases hh
    · go_enter Tryz.func90, Tryz.ntmps90
      go_wp2_with fail
      go_ret
      exact ⟨rfl, b0.out _⟩
    · cases li <;> cases hin
      all_goals
        go_enter Tryz.func90, Tryz.ntmps90
        go_wp2_with fail
        refine (AH.out _ _ (HK.out.alloc _)).mono ?_
        rintro e w' ⟨rfl, b1⟩
        go_wp2_with fail
        go_ret
        exact ⟨by simp, (b0.out _).trans (b1.mono (b0.out _).size)⟩

set_option maxHeartbeats 1000000 in
theorem parted_any (b m : Mr) (w : World) (hk : Kn w) :
    Calls Tryz.prog 47 #[mV b, mV m] w fun e w' => e = .returned (.bool (partedL b m)) ∧ Below w.heap.size w w' := by
  obtain ⟨bl, blo, bli, bh, bhi, bhin⟩ := b
  obtain ⟨hl, lo, li, hh, hi, hin⟩ := m
  have AH := hide (fun (k : Bool) W (hW : Kn W) => (by have := ahead_any (ofL bhi) (ofL lo) k W hW; rw [ofL_data, ofL_data] at this; exact this : Calls Tryz.prog 60 #[.string (ofL bhi), .string (ofL lo), .bool k] W fun e w' => e = .returned (.bool (aheadL bhi lo k)) ∧ Below W.heap.size W w'))
  have b0 := hide (fun o p => ((Below.refl _ w).alloc (Nat.le_refl _) o).alloc (by simp) p)
  have HK := hide hk
  clear hk
  unfold mV partedL
  dsimp only
  cases bh
  · go_enter Tryz.func47, Tryz.ntmps47
    go_wp2_with fail
    go_ret
    exact ⟨rfl, b0.out _ _⟩
  · cases hl
    · go_enter Tryz.func47, Tryz.ntmps47
      go_wp2_with fail
      go_ret
      exact ⟨rfl, b0.out _ _⟩
    · cases bhin <;> cases li
      all_goals
        go_enter Tryz.func47, Tryz.ntmps47
        go_wp2_with fail
        refine (AH.out _ _ ((HK.out.alloc _).alloc _)).mono ?_
        rintro e w' ⟨rfl, b1⟩
        go_wp2_with fail
        go_ret
        exact ⟨by simp, (b0.out _ _).trans (b1.mono (b0.out _ _).size)⟩

set_option maxHeartbeats 2000000 in
theorem liesIn_any (v : ByteArray) (m : Mr) (w : World) (hk : Kn w) :
    Calls Tryz.prog 37 #[.string v, mV m] w fun e w' => e = .returned (.bool (liesL v.data.toList m)) ∧ Below w.heap.size w w' := by
  obtain ⟨hl, lo, li, hh, hi, hin⟩ := m
  have A1 := hide (fun W (hW : Kn W) => (by have := ahead_any (ofL lo) v li W hW; rw [ofL_data] at this; exact this : Calls Tryz.prog 60 #[.string (ofL lo), .string v, .bool li] W fun e w' => e = .returned (.bool (aheadL lo v.data.toList li)) ∧ Below W.heap.size W w'))
  have A2 := hide (fun W (hW : Kn W) => (by have := ahead_any v (ofL hi) hin W hW; rw [ofL_data] at this; exact this : Calls Tryz.prog 60 #[.string v, .string (ofL hi), .bool hin] W fun e w' => e = .returned (.bool (aheadL v.data.toList hi hin)) ∧ Below W.heap.size W w'))
  have a0 : Below w.heap.size w (w.alloc (.cells #[.bool hl, .string (ofL lo), .bool li, .bool hh, .string (ofL hi), .bool hin] 54)) := (Below.refl _ w).alloc (Nat.le_refl _) _
  have n0 := World.alloc_heap_new w (.cells #[.bool hl, .string (ofL lo), .bool li, .bool hh, .string (ofL hi), .bool hin] 54)
  have hk0 := hk.alloc (.cells #[.bool hl, .string (ofL lo), .bool li, .bool hh, .string (ofL hi), .bool hin] 54)
  have B0 := hide a0
  have N0 := hide n0
  have HK := hide hk0
  clear hk a0 n0 hk0
  unfold mV liesL
  dsimp only
  generalize aheadL lo v.data.toList li = X1 at *
  generalize aheadL v.data.toList hi hin = X2 at *
  cases hl
  · cases hh
    · go_enter Tryz.func37, Tryz.ntmps37
      go_wp2_with fail
      go_ret
      exact ⟨rfl, B0.out⟩
    · go_enter Tryz.func37, Tryz.ntmps37
      go_wp2_with fail
      refine (A2.out _ HK.out).mono ?_
      rintro e w' ⟨rfl, b1⟩
      go_wp2_with fail
      go_ret
      exact ⟨by simp, B0.out.trans (b1.mono B0.out.size)⟩
  · cases X1
    · go_enter Tryz.func37, Tryz.ntmps37
      go_wp2_with fail
      refine (A1.out _ HK.out).mono ?_
      rintro e w' ⟨rfl, b1⟩
      go_wp2_with fail
      go_ret
      exact ⟨by simp, B0.out.trans (b1.mono B0.out.size)⟩
    · cases hh
      · go_enter Tryz.func37, Tryz.ntmps37
        go_wp2_with fail
        refine (A1.out _ HK.out).mono ?_
        rintro e w' ⟨rfl, b1⟩
        have e1 := (b1.block w.heap.size (by simp)).trans N0.out
        have r3 := cell_at 3 e1 rfl
        have hb := hide (B0.out.trans (b1.mono B0.out.size))
        clear b1 e1
        go_wp2_with fail
        go_ret
        exact ⟨by simp, hb.out⟩
      · go_enter Tryz.func37, Tryz.ntmps37
        go_wp2_with fail
        refine (A1.out _ HK.out).mono ?_
        rintro e w1 ⟨rfl, b1⟩
        have e1 := (b1.block w.heap.size (by simp)).trans N0.out
        have r3 := cell_at 3 e1 rfl
        have r4 := cell_at 4 e1 rfl
        have r5 := cell_at 5 e1 rfl
        have hb := hide (B0.out.trans (b1.mono B0.out.size))
        have hk1 := hide (HK.out.below HK.out.pos b1)
        clear b1 e1
        go_wp2_with fail
        refine (A2.out _ hk1.out).mono ?_
        rintro e w2 ⟨rfl, b2⟩
        go_wp2_with fail
        go_ret
        exact ⟨by simp, hb.out.trans (b2.mono hb.out.size)⟩

end Go.Proofs.YtpedljmpobhimaaGreatDoor
