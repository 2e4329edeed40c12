/-
  Walks: how long a version's text would be; which versions are fit.
-/
import Derived.Test.YtkngmgdcnplkgaaOa
import Derived.Test.YtkngmgdcnplkgaaLies
namespace Go.Proofs.Ytkngmgdcnplkgaa
open Go.RowKit
set_option linter.unusedVariables false

/-- How many bytes identifiers take, one ahead of each. -/
def lenI : List (List UInt8) → Nat
  | [] => 0
  | t :: r => 1 + t.length + lenI r
/-- How many bytes a version's text takes. -/
def lenS (x : SemL) : Nat := x.maj.length + x.min.length + x.pat.length + 2 + lenI x.pre + lenI x.bld
/-- Is a version fit, as the program counts? -/
def fitW (x : SemL) : Bool := decide (wrap64 (lenS x : Int) ≤ 64) && numB x.maj && numB x.min && numB x.pat && x.pre.all preB && x.bld.all idB

theorem wrap_in (a b : Int) : wrap64 (wrap64 a + b) = wrap64 (a + b) := by
  unfold wrap64
  omega
theorem wrap_in' (a b : Int) : wrap64 (a + wrap64 b) = wrap64 (a + b) := by
  unfold wrap64
  omega
theorem wrap_id (a : Int) (h : -9223372036854775808 ≤ a ∧ a ≤ 9223372036854775807) : wrap64 a = a := by
  unfold wrap64
  omega
theorem val_i {a b : Int} (h : a = b) : Value.int .i64 a = Value.int .i64 b := by rw [h]
theorem lenI_take (ts : List (List UInt8)) : ∀ k (h : k < ts.length), lenI (ts.take (k + 1)) = lenI (ts.take k) + (1 + ts[k].length) := by
  induction ts with
  | nil => intro k h; simp at h
  | cons t r ih =>
    intro k h
    cases k with
    | zero => simp [lenI]
    | succ k =>
      have := ih k (by simpa using h)
      simp only [List.take_succ_cons, lenI, List.getElem_cons_succ]
      omega

set_option maxHeartbeats 400000 in
theorem all_any (g : Nat) (P : List UInt8 → Bool) (hg : ∀ (t : List UInt8) (w : World), t.length ≤ 9223372036854775806 → Calls Try.prog g #[.string (ofL t)] w fun e w' => e = .returned (.bool (P t)) ∧ w' = w)
    (hgg : g = 38 ∨ g = 39) (v : Value) (ts : List (List UInt8)) (w : World) (hv : Txt w v ts) (hs : Short ts) :
    Calls Try.prog 37 #[v, .func (.func g) #[] #[]] w fun e w' => e = .returned (.bool (ts.all P)) ∧ w' = w := by
  obtain ⟨a1, c1, rfl, _⟩ := id hv
  have HV := hide hv
  have HS := hide hs
  have ls := hs.1
  have HG := hide hg
  clear hv hs hg
  rcases hgg with rfl | rfl
  all_goals
    go_enter Try.func37, Try.ntmps37
    go_wp2_with fail
    go_loop [9] (fun i => ∃ k : Nat, k ≤ ts.length ∧ i = .int .i64 k ∧ Hid (ts.all P = (ts.drop k).all P)) (fun i => ts.length - (intOf i).toNat)
    case atStart => exact ⟨0, by omega, rfl, by simp [Hid]⟩
    case round =>
      obtain ⟨k, hk, rfl, HR⟩ := hrel
      by_cases h1 : k < ts.length
      · obtain ⟨b1, o1, rfl, hc1⟩ := HV.out.some (by omega)
        have p1 := hc1 k h1
        clear hc1
        have C := HG.out ts[k] w (HS.out.2 _ (List.getElem_mem _))
        have hX : (ts.drop k).all P = (P ts[k] && (ts.drop (k + 1)).all P) := by rw [List.drop_eq_getElem_cons h1, List.all_cons]
        generalize ts[k] = t at *
        generalize P t = b at *
        have HC := hide C
        have HX := hide hX
        clear C hX
        cases b
        · go_wp2_with fail
          refine HC.out.mono ?_
          rintro e w' ⟨rfl, hw'⟩
          rw [hw']
          clear hw' w'
          go_wp2_with fail
          go_ret
          exact ⟨ret_b (by rw [HR.out, HX.out]; rfl), rfl⟩
        · go_wp2_with fail
          refine HC.out.mono ?_
          rintro e w' ⟨rfl, hw'⟩
          rw [hw']
          clear hw' w'
          go_wp2_with fail
          go_round
          case rel => exact ⟨k + 1, by omega, by go_num, by rw [HR.out, HX.out]; simp [Hid]⟩
          case measure => simp [intOf]; omega
      · go_wp2_with fail
        go_ret
        exact ⟨ret_b (by rw [HR.out, List.drop_eq_nil_of_le (by omega)]; rfl), rfl⟩

theorem txt_some {W : World} {a : Option Addr} {n cap : Nat} {ts : List (List UInt8)} (h : Txt W (.slice a n cap) ts) (hne : 0 < ts.length) :
    ∃ b off, a = some ⟨b, off, none⟩ ∧ b < W.heap.size ∧ ∀ i (h : i < ts.length), W.cell? ⟨b, off + i, none⟩ = some (.string (ofL ts[i])) := by
  obtain ⟨a', cap', hv, h0 | ⟨b, off, ha, hlt, hc⟩⟩ := h
  · subst h0; simp at hne
  · cases hv
    exact ⟨b, off, ha, hlt, hc⟩

set_option maxRecDepth 100000 in
set_option maxHeartbeats 1000000 in
theorem size_any (v : Value) (x : SemL) (w : World) (hv : SemAt w v x) (sx : ShortS x) :
    Calls Try.prog 35 #[v] w fun e w' => e = .returned (.int .i64 (wrap64 (lenS x : Int))) ∧ Below w.heap.size w w' := by
  obtain ⟨p1, q1, rfl, t1, u1⟩ := hv
  obtain ⟨a1, c1, rfl, _⟩ := id t1
  obtain ⟨a2, c2, rfl, _⟩ := id u1
  have T1 := hide t1
  have U1 := hide u1
  obtain ⟨s1, s2, s3, s4, s5⟩ := sx
  have l4 := s4.1
  have l5 := s5.1
  have S4 := hide s4.2
  have S5 := hide s5.2
  clear t1 u1 s4 s5
  have HN : Hid (wrap64 (wrap64 (wrap64 (((ofL x.maj).size : Int) + ((ofL x.min).size : Int)) + ((ofL x.pat).size : Int)) + 2) = wrap64 ((x.maj.length + x.min.length + x.pat.length + 2 : Nat) : Int)) := by
    show _ = _
    rw [wrap_in, show wrap64 (((ofL x.maj).size : Int) + ((ofL x.min).size : Int)) + ((ofL x.pat).size : Int) + 2 = wrap64 (((ofL x.maj).size : Int) + ((ofL x.min).size : Int)) + (((ofL x.pat).size : Int) + 2) by omega, wrap_in, ofL_size, ofL_size, ofL_size]
    congr 1
  have HE : Hid (lenS x = x.maj.length + x.min.length + x.pat.length + 2 + lenI x.pre + lenI x.bld) := rfl
  generalize lenS x = L at *
  generalize x.maj.length + x.min.length + x.pat.length + 2 = B at *
  go_enter Try.func35, Try.ntmps35
  go_wp2_with fail
  rw [HN.out]
  generalize hA : wrap64 (B : Int) = A at *
  refine wp_loop_rounds 3 ?_
  rw [rounds_succ]
  go_wp2_with fail
  go_loop [3, 32] (fun n i => ∃ k : Nat, k ≤ x.pre.length ∧ i = .int .i64 k ∧ n = .int .i64 (wrap64 ((B + lenI (x.pre.take k) : Nat) : Int))) (fun _ i => x.pre.length - (intOf i).toNat)
  case atStart => exact ⟨0, by omega, rfl, by rw [← hA]; simp [lenI]⟩
  case round =>
    obtain ⟨k, hk, rfl, rfl⟩ := hrel
    by_cases h1 : k < x.pre.length
    · obtain ⟨b1, o1, rfl, hlt1, hc1⟩ := txt_some T1.out (by omega)
      have p1 := hc1 k h1
      have hlt2 : b1 < w.heap.size + 1 := by omega
      clear hc1
      have hl := S4.out _ (List.getElem_mem h1)
      have HX := hide (lenI_take x.pre k h1)
      generalize x.pre[k] = t at *
      rw [← ofL_size] at hl
      go_wp2_with fail
      go_round
      case rel => exact ⟨k + 1, by omega, by go_num, val_i (by rw [wrap_in, HX.out, ofL_size]; congr 1; omega)⟩
      case measure => simp [intOf]; omega
    · have hK : lenI (x.pre.take k) = lenI x.pre := by rw [List.take_of_length_le (by omega)]
      rw [hK]
      clear hK
      generalize hB2 : B + lenI x.pre = B2 at *
      generalize hA2 : wrap64 (B2 : Int) = A2 at *
      go_wp2_with fail
      rw [rounds_succ]
      go_wp2_with fail
      go_loop [3, 32] (fun n i => ∃ k : Nat, k ≤ x.bld.length ∧ i = .int .i64 k ∧ n = .int .i64 (wrap64 ((B2 + lenI (x.bld.take k) : Nat) : Int))) (fun _ i => x.bld.length - (intOf i).toNat)
      case atStart => exact ⟨0, by omega, rfl, by rw [← hA2]; simp [lenI]⟩
      case round =>
        obtain ⟨k, hk, rfl, rfl⟩ := hrel
        by_cases h2 : k < x.bld.length
        · obtain ⟨b1, o1, rfl, hlt1, hc1⟩ := txt_some U1.out (by omega)
          have p1 := hc1 k h2
          have hlt2 : b1 < w.heap.size + 1 := by omega
          clear hc1
          have hl := S5.out _ (List.getElem_mem h2)
          have HX := hide (lenI_take x.bld k h2)
          generalize x.bld[k] = t at *
          rw [← ofL_size] at hl
          go_wp2_with fail
          go_round
          case rel => exact ⟨k + 1, by omega, by go_num, val_i (by rw [wrap_in, HX.out, ofL_size]; congr 1; omega)⟩
          case measure => simp [intOf]; omega
        · have HK : Hid (L = B2 + lenI (x.bld.take k)) := by
            show _ = _
            rw [HE.out, List.take_of_length_le (by omega)]
          go_wp2_with fail
          rw [rounds_succ]
          go_wp2_with fail
          go_ret
          exact ⟨ret_i (by rw [HK.out]; rfl), ((Below.refl _ w).alloc (Nat.le_refl _) _).alloc (by simp) _⟩

theorem num_ofL (a : List UInt8) (w : World) (ha : a.length ≤ 9223372036854775806) :
    Calls Try.prog 36 #[.string (ofL a)] w fun e w' => e = .returned (.bool (numB a)) ∧ w' = w := by
  have := isNumber_any (ofL a) w (by rw [ofL_size]; unfold maxLen; omega)
  rw [ofL_data] at this
  exact this
theorem pre_ofL (a : List UInt8) (w : World) (ha : a.length ≤ 9223372036854775806) :
    Calls Try.prog 38 #[.string (ofL a)] w fun e w' => e = .returned (.bool (preB a)) ∧ w' = w := by
  have := fitsPre_any (ofL a) w (by rw [ofL_size]; exact ha)
  rw [ofL_data] at this
  exact this
theorem id_ofL (a : List UInt8) (w : World) (ha : a.length ≤ 9223372036854775806) :
    Calls Try.prog 39 #[.string (ofL a)] w fun e w' => e = .returned (.bool (idB a)) ∧ w' = w := by
  have := isIdentifier_any (ofL a) w (by rw [ofL_size]; exact ha)
  rw [ofL_data] at this
  exact this

end Go.Proofs.Ytkngmgdcnplkgaa
