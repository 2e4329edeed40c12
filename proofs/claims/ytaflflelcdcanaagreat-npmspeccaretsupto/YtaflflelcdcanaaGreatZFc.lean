/-
  Walks: how long a version's text would be; which versions are fit. · Walks: which versions are fit. · Walks: the order of versions, fit or not; the version with one part raised.
-/
import Derived.Test.YtaflflelcdcanaaGreatZOa
import Derived.Test.YtaflflelcdcanaaGreatZLies
namespace Go.Proofs.YtaflflelcdcanaaGreat
open Go.RowKit
set_option linter.unusedVariables false

/-- How many bytes identifiers take, one ahead of each. -/
def lenI : List (List UInt8) → Nat
  | [] => 0
  | t :: r => 1 + t.length + lenI r
/-- How many bytes a version's text takes. -/
def lenS (x : SemL) : Nat := x.maj.length + x.min.length + x.pat.length + 2 + lenI x.pre + lenI x.bld
/-- Is a version fit, as the program counts? -/
def fitW (x : SemL) : Bool := decide (wrap64 (lenS x : Int) ≤ 64) && numB x.maj && numB x.min && numB x.pat && x.pre.all preB && x.bld.all idB

theorem wrap_in (a b : Int) : wrap64 (wrap64 a + b) = wrap64 (a + b) := by
  unfold wrap64
  omega
theorem wrap_in' (a b : Int) : wrap64 (a + wrap64 b) = wrap64 (a + b) := by
  unfold wrap64
  omega
theorem wrap_id (a : Int) (h : -9223372036854775808 ≤ a ∧ a ≤ 9223372036854775807) : wrap64 a = a := by
  unfold wrap64
  omega
theorem val_i {a b : Int} (h : a = b) : Value.int .i64 a = Value.int .i64 b := by rw [h]
theorem lenI_take (ts : List (List UInt8)) : ∀ k (h : k < ts.length), lenI (ts.take (k + 1)) = lenI (ts.take k) + (1 + ts[k].length) := by
  induction ts with
  | nil => intro k h; simp at h
  | cons t r ih =>
    intro k h
    cases k with
    | zero => simp [lenI]
    | succ k =>
      have := ih k (by simpa using h)
      simp only [List.take_succ_cons, lenI, List.getElem_cons_succ]
      omega

set_option maxHeartbeats 400000 in
theorem all_any (g : Nat) (P : List UInt8 → Bool) (hg : ∀ (t : List UInt8) (w : World), t.length ≤ 9223372036854775806 → Calls Tryz.prog g #[.string (ofL t)] w fun e w' => e = .returned (.bool (P t)) ∧ w' = w)
    (hgg : g = 69 ∨ g = 70) (v : Value) (ts : List (List UInt8)) (w : World) (hv : Txt w v ts) (hs : Short ts) :
    Calls Tryz.prog 68 #[v, .func (.func g) #[] #[]] w fun e w' => e = .returned (.bool (ts.all P)) ∧ w' = w := by
  obtain ⟨a1, c1, rfl, _⟩ := id hv
  have HV := hide hv
  have HS := hide hs
  have ls := hs.1
  have HG := hide hg
  clear hv hs hg
  rcases hgg with rfl | rfl
  all_goals
    go_enter Tryz.func68, Tryz.ntmps68
    go_wp2_with fail
    go_loop [9] (fun i => ∃ k : Nat, k ≤ ts.length ∧ i = .int .i64 k ∧ Hid (ts.all P = (ts.drop k).all P)) (fun i => ts.length - (intOf i).toNat)
    case atStart => exact ⟨0, by omega, rfl, by simp [Hid]⟩
    case round =>
      obtain ⟨k, hk, rfl, HR⟩ := hrel
      by_cases h1 : k < ts.length
      · obtain ⟨b1, o1, rfl, hc1⟩ := HV.out.some (by omega)
        have p1 := hc1 k h1
        clear hc1
        have C := HG.out ts[k] w (HS.out.2 _ (List.getElem_mem _))
        have hX : (ts.drop k).all P = (P ts[k] && (ts.drop (k + 1)).all P) := by rw [List.drop_eq_getElem_cons h1, List.all_cons]
        generalize ts[k] = t at *
        generalize P t = b at *
        have HC := hide C
        have HX := hide hX
        clear C hX
        cases b
        · go_wp2_with fail
          refine HC.out.mono ?_
          rintro e w' ⟨rfl, hw'⟩
          rw [hw']
          clear hw' w'
          go_wp2_with fail
          go_ret
          exact ⟨ret_b (by rw [HR.out, HX.out]; rfl), rfl⟩
        · go_wp2_with fail
          refine HC.out.mono ?_
          rintro e w' ⟨rfl, hw'⟩
          rw [hw']
          clear hw' w'
          go_wp2_with fail
          go_round
          case rel => exact ⟨k + 1, by omega, by go_num, by rw [HR.out, HX.out]; simp [Hid]⟩
          case measure => simp [intOf]; omega
      · go_wp2_with fail
        go_ret
        exact ⟨ret_b (by rw [HR.out, List.drop_eq_nil_of_le (by omega)]; rfl), rfl⟩

theorem txt_some {W : World} {a : Option Addr} {n cap : Nat} {ts : List (List UInt8)} (h : Txt W (.slice a n cap) ts) (hne : 0 < ts.length) :
    ∃ b off, a = some ⟨b, off, none⟩ ∧ b < W.heap.size ∧ ∀ i (h : i < ts.length), W.cell? ⟨b, off + i, none⟩ = some (.string (ofL ts[i])) := by
  obtain ⟨a', cap', hv, h0 | ⟨b, off, ha, hlt, hc⟩⟩ := h
  · subst h0; simp at hne
  · cases hv
    exact ⟨b, off, ha, hlt, hc⟩

set_option maxRecDepth 100000 in
set_option maxHeartbeats 1000000 in
theorem size_any (v : Value) (x : SemL) (w : World) (hv : SemAt w v x) (sx : ShortS x) :
    Calls Tryz.prog 66 #[v] w fun e w' => e = .returned (.int .i64 (wrap64 (lenS x : Int))) ∧ Below w.heap.size w w' := by
  obtain ⟨p1, q1, rfl, t1, u1⟩ := hv
  obtain ⟨a1, c1, rfl, _⟩ := id t1
  obtain ⟨a2, c2, rfl, _⟩ := id u1
  have T1 := hide t1
  have U1 := hide u1
  obtain ⟨s1, s2, s3, s4, s5⟩ := sx
  have l4 := s4.1
  have l5 := s5.1
  have S4 := hide s4.2
  have S5 := hide s5.2
  clear t1 u1 s4 s5
  have HN : Hid (wrap64 (wrap64 (wrap64 (((ofL x.maj).size : Int) + ((ofL x.min).size : Int)) + ((ofL x.pat).size : Int)) + 2) = wrap64 ((x.maj.length + x.min.length + x.pat.length + 2 : Nat) : Int)) := by
    show _ = _
    rw [wrap_in, show wrap64 (((ofL x.maj).size : Int) + ((ofL x.min).size : Int)) + ((ofL x.pat).size : Int) + 2 = wrap64 (((ofL x.maj).size : Int) + ((ofL x.min).size : Int)) + (((ofL x.pat).size : Int) + 2) by omega, wrap_in, ofL_size, ofL_size, ofL_size]
    congr 1
  have HE : Hid (lenS x = x.maj.length + x.min.length + x.pat.length + 2 + lenI x.pre + lenI x.bld) := rfl
  generalize lenS x = L at *
  generalize x.maj.length + x.min.length + x.pat.length + 2 = B at *
  go_enter Tryz.func66, Tryz.ntmps66
  go_wp2_with fail
  rw [HN.out]
  generalize hA : wrap64 (B : Int) = A at *
  refine wp_loop_rounds 3 ?_
  rw [rounds_succ]
  go_wp2_with fail
  go_loop [3, 32] (fun n i => ∃ k : Nat, k ≤ x.pre.length ∧ i = .int .i64 k ∧ n = .int .i64 (wrap64 ((B + lenI (x.pre.take k) : Nat) : Int))) (fun _ i => x.pre.length - (intOf i).toNat)
  case atStart => exact ⟨0, by omega, rfl, by rw [← hA]; simp [lenI]⟩
  case round =>
    obtain ⟨k, hk, rfl, rfl⟩ := hrel
    by_cases h1 : k < x.pre.length
    · obtain ⟨b1, o1, rfl, hlt1, hc1⟩ := txt_some T1.out (by omega)
      have p1 := hc1 k h1
      have hlt2 : b1 < w.heap.size + 1 := by omega
      clear hc1
      have hl := S4.out _ (List.getElem_mem h1)
      have HX := hide (lenI_take x.pre k h1)
      generalize x.pre[k] = t at *
      rw [← ofL_size] at hl
      go_wp2_with fail
      go_round
      case rel => exact ⟨k + 1, by omega, by go_num, val_i (by rw [wrap_in, HX.out, ofL_size]; congr 1; omega)⟩
      case measure => simp [intOf]; omega
    · have hK : lenI (x.pre.take k) = lenI x.pre := by rw [List.take_of_length_le (by omega)]
      rw [hK]
      clear hK
      generalize hB2 : B + lenI x.pre = B2 at *
      generalize hA2 : wrap64 (B2 : Int) = A2 at *
      go_wp2_with fail
      rw [rounds_succ]
      go_wp2_with fail
      go_loop [3, 32] (fun n i => ∃ k : Nat, k ≤ x.bld.length ∧ i = .int .i64 k ∧ n = .int .i64 (wrap64 ((B2 + lenI (x.bld.take k) : Nat) : Int))) (fun _ i => x.bld.length - (intOf i).toNat)
      case atStart => exact ⟨0, by omega, rfl, by rw [← hA2]; simp [lenI]⟩
      case round =>
        obtain ⟨k, hk, rfl, rfl⟩ := hrel
        by_cases h2 : k < x.bld.length
        · obtain ⟨b1, o1, rfl, hlt1, hc1⟩ := txt_some U1.out (by omega)
          have p1 := hc1 k h2
          have hlt2 : b1 < w.heap.size + 1 := by omega
          clear hc1
          have hl := S5.out _ (List.getElem_mem h2)
          have HX := hide (lenI_take x.bld k h2)
          generalize x.bld[k] = t at *
          rw [← ofL_size] at hl
          go_wp2_with fail
          go_round
          case rel => exact ⟨k + 1, by omega, by go_num, val_i (by rw [wrap_in, HX.out, ofL_size]; congr 1; omega)⟩
          case measure => simp [intOf]; omega
        · have HK : Hid (L = B2 + lenI (x.bld.take k)) := by
            show _ = _
            rw [HE.out, List.take_of_length_le (by omega)]
          go_wp2_with fail
          rw [rounds_succ]
          go_wp2_with fail
          go_ret
          exact ⟨ret_i (by rw [HK.out]; rfl), ((Below.refl _ w).alloc (Nat.le_refl _) _).alloc (by simp) _⟩

theorem num_ofL (a : List UInt8) (w : World) (ha : a.length ≤ 9223372036854775806) :
    Calls Tryz.prog 67 #[.string (ofL a)] w fun e w' => e = .returned (.bool (numB a)) ∧ w' = w := by
  have := isNumber_any (ofL a) w (by rw [ofL_size]; unfold maxLen; omega)
  rw [ofL_data] at this
  exact this
theorem pre_ofL (a : List UInt8) (w : World) (ha : a.length ≤ 9223372036854775806) :
    Calls Tryz.prog 69 #[.string (ofL a)] w fun e w' => e = .returned (.bool (preB a)) ∧ w' = w := by
  have := fitsPre_any (ofL a) w (by rw [ofL_size]; exact ha)
  rw [ofL_data] at this
  exact this
theorem id_ofL (a : List UInt8) (w : World) (ha : a.length ≤ 9223372036854775806) :
    Calls Tryz.prog 70 #[.string (ofL a)] w fun e w' => e = .returned (.bool (idB a)) ∧ w' = w := by
  have := isIdentifier_any (ofL a) w (by rw [ofL_size]; exact ha)
  rw [ofL_data] at this
  exact this

end Go.Proofs.YtaflflelcdcanaaGreat

namespace Go.Proofs.YtaflflelcdcanaaGreat
open Go.RowKit
set_option linter.unusedVariables false

set_option maxRecDepth 100000 in
set_option maxHeartbeats 1000000 in
theorem Fit_any (v : Value) (x : SemL) (w : World) (hv : SemAt w v x) (sx : ShortS x) :
    Calls Tryz.prog 35 #[v] w fun e w' => e = .returned (.bool (fitW x)) ∧ Below w.heap.size w w' := by
  have HS := hide (fun W (hW : Below w.heap.size w W) => size_any v x W (hv.below hW) sx)
  obtain ⟨p1, q1, rfl, t1, u1⟩ := hv
  obtain ⟨a1, c1, rfl, hx1⟩ := id t1
  obtain ⟨a2, c2, rfl, hx2⟩ := id u1
  clear hx1 hx2
  have C1 := hide (fun w => num_ofL x.maj w sx.1)
  have C2 := hide (fun w => num_ofL x.min w sx.2.1)
  have C3 := hide (fun w => num_ofL x.pat w sx.2.2.1)
  have C4 := hide (fun W (hW : Below w.heap.size w W) => all_any 69 preB pre_ofL (.inl rfl) _ x.pre W (t1.below hW) sx.2.2.2.1)
  have C5 := hide (fun W (hW : Below w.heap.size w W) => all_any 70 idB id_ofL (.inr rfl) _ x.bld W (u1.below hW) sx.2.2.2.2)
  have HF : Hid (fitW x = (decide (wrap64 (lenS x : Int) ≤ 64) && numB x.maj && numB x.min && numB x.pat && x.pre.all preB && x.bld.all idB)) := rfl
  generalize fitW x = F at *
  generalize wrap64 (lenS x : Int) = N at *
  generalize numB x.maj = d1 at *
  generalize numB x.min = d2 at *
  generalize numB x.pat = d3 at *
  generalize x.pre.all preB = d4 at *
  generalize x.bld.all idB = d5 at *
  clear t1 u1 sx
  have b0 : Below w.heap.size w (w.alloc (.cells #[.string (ofL x.maj), .string (ofL x.min), .string (ofL x.pat), .slice a1 x.pre.length c1, .slice a2 x.bld.length c2] 33)) := (Below.refl _ w).alloc (Nat.le_refl _) _
  generalize hNd : decide (N ≤ 64) = D at *
  cases D
  rotate_left
  · cases d1
    · go_enter Tryz.func35, Tryz.ntmps35
      go_wp2_with fail
      refine (HS.out _ b0).mono ?_
      rintro e w1 ⟨rfl, b1⟩
      have b2 : Below w.heap.size w w1 := b0.trans (b1.mono (by simp))
      have e1 := (b1.block w.heap.size (by simp)).trans (World.alloc_heap_new w _)
      have r0 := cell_at 0 e1 rfl
      have r1 := cell_at 1 e1 rfl
      have r2 := cell_at 2 e1 rfl
      have r3 := cell_at 3 e1 rfl
      have r4 := cell_at 4 e1 rfl
      clear b1 e1
      go_wp2_with fail
      refine (C1.out _).mono ?_
      rintro e w' ⟨rfl, hw'⟩
      rw [hw']
      clear hw' w'
      go_wp2_with fail
      go_ret
      exact ⟨ret_b (by rw [HF.out] <;> rfl), b2⟩
    · cases d2
      · go_enter Tryz.func35, Tryz.ntmps35
        go_wp2_with fail
        refine (HS.out _ b0).mono ?_
        rintro e w1 ⟨rfl, b1⟩
        have b2 : Below w.heap.size w w1 := b0.trans (b1.mono (by simp))
        have e1 := (b1.block w.heap.size (by simp)).trans (World.alloc_heap_new w _)
        have r0 := cell_at 0 e1 rfl
        have r1 := cell_at 1 e1 rfl
        have r2 := cell_at 2 e1 rfl
        have r3 := cell_at 3 e1 rfl
        have r4 := cell_at 4 e1 rfl
        clear b1 e1
        go_wp2_with fail
        refine (C1.out _).mono ?_
        rintro e w' ⟨rfl, hw'⟩
        rw [hw']
        clear hw' w'
        go_wp2_with fail
        refine (C2.out _).mono ?_
        rintro e w' ⟨rfl, hw'⟩
        rw [hw']
        clear hw' w'
        go_wp2_with fail
        go_ret
        exact ⟨ret_b (by rw [HF.out] <;> rfl), b2⟩
      · cases d3
        · go_enter Tryz.func35, Tryz.ntmps35
          go_wp2_with fail
          refine (HS.out _ b0).mono ?_
          rintro e w1 ⟨rfl, b1⟩
          have b2 : Below w.heap.size w w1 := b0.trans (b1.mono (by simp))
          have e1 := (b1.block w.heap.size (by simp)).trans (World.alloc_heap_new w _)
          have r0 := cell_at 0 e1 rfl
          have r1 := cell_at 1 e1 rfl
          have r2 := cell_at 2 e1 rfl
          have r3 := cell_at 3 e1 rfl
          have r4 := cell_at 4 e1 rfl
          clear b1 e1
          go_wp2_with fail
          refine (C1.out _).mono ?_
          rintro e w' ⟨rfl, hw'⟩
          rw [hw']
          clear hw' w'
          go_wp2_with fail
          refine (C2.out _).mono ?_
          rintro e w' ⟨rfl, hw'⟩
          rw [hw']
          clear hw' w'
          go_wp2_with fail
          refine (C3.out _).mono ?_
          rintro e w' ⟨rfl, hw'⟩
          rw [hw']
          clear hw' w'
          go_wp2_with fail
          go_ret
          exact ⟨ret_b (by rw [HF.out] <;> rfl), b2⟩
        · cases d4
          · go_enter Tryz.func35, Tryz.ntmps35
            go_wp2_with fail
            refine (HS.out _ b0).mono ?_
            rintro e w1 ⟨rfl, b1⟩
            have b2 : Below w.heap.size w w1 := b0.trans (b1.mono (by simp))
            have e1 := (b1.block w.heap.size (by simp)).trans (World.alloc_heap_new w _)
            have r0 := cell_at 0 e1 rfl
            have r1 := cell_at 1 e1 rfl
            have r2 := cell_at 2 e1 rfl
            have r3 := cell_at 3 e1 rfl
            have r4 := cell_at 4 e1 rfl
            clear b1 e1
            go_wp2_with fail
            refine (C1.out _).mono ?_
            rintro e w' ⟨rfl, hw'⟩
            rw [hw']
            clear hw' w'
            go_wp2_with fail
            refine (C2.out _).mono ?_
            rintro e w' ⟨rfl, hw'⟩
            rw [hw']
            clear hw' w'
            go_wp2_with fail
            refine (C3.out _).mono ?_
            rintro e w' ⟨rfl, hw'⟩
            rw [hw']
            clear hw' w'
            go_wp2_with fail
            refine (C4.out _ b2).mono ?_
            rintro e w' ⟨rfl, hw'⟩
            rw [hw']
            clear hw' w'
            go_wp2_with fail
            go_ret
            exact ⟨ret_b (by rw [HF.out] <;> rfl), b2⟩
          · go_enter Tryz.func35, Tryz.ntmps35
            go_wp2_with fail
            refine (HS.out _ b0).mono ?_
            rintro e w1 ⟨rfl, b1⟩
            have b2 : Below w.heap.size w w1 := b0.trans (b1.mono (by simp))
            have e1 := (b1.block w.heap.size (by simp)).trans (World.alloc_heap_new w _)
            have r0 := cell_at 0 e1 rfl
            have r1 := cell_at 1 e1 rfl
            have r2 := cell_at 2 e1 rfl
            have r3 := cell_at 3 e1 rfl
            have r4 := cell_at 4 e1 rfl
            clear b1 e1
            go_wp2_with fail
            refine (C1.out _).mono ?_
            rintro e w' ⟨rfl, hw'⟩
            rw [hw']
            clear hw' w'
            go_wp2_with fail
            refine (C2.out _).mono ?_
            rintro e w' ⟨rfl, hw'⟩
            rw [hw']
            clear hw' w'
            go_wp2_with fail
            refine (C3.out _).mono ?_
            rintro e w' ⟨rfl, hw'⟩
            rw [hw']
            clear hw' w'
            go_wp2_with fail
            refine (C4.out _ b2).mono ?_
            rintro e w' ⟨rfl, hw'⟩
            rw [hw']
            clear hw' w'
            go_wp2_with fail
            refine (C5.out _ b2).mono ?_
            rintro e w' ⟨rfl, hw'⟩
            rw [hw']
            clear hw' w'
            go_wp2_with fail
            go_ret
            exact ⟨ret_b (by rw [HF.out] <;> rfl), b2⟩
  · go_enter Tryz.func35, Tryz.ntmps35
    go_wp2_with fail
    refine (HS.out _ b0).mono ?_
    rintro e w1 ⟨rfl, b1⟩
    have b2 : Below w.heap.size w w1 := b0.trans (b1.mono (by simp))
    have e1 := (b1.block w.heap.size (by simp)).trans (World.alloc_heap_new w _)
    have r0 := cell_at 0 e1 rfl
    have r1 := cell_at 1 e1 rfl
    have r2 := cell_at 2 e1 rfl
    have r3 := cell_at 3 e1 rfl
    have r4 := cell_at 4 e1 rfl
    clear b1 e1
    go_wp2_with fail
    go_ret
    exact ⟨ret_b (by rw [HF.out] <;> rfl), b2⟩

end Go.Proofs.YtaflflelcdcanaaGreat

namespace Go.Proofs.YtaflflelcdcanaaGreat
open Go.RowKit
set_option linter.unusedVariables false

/-- The order of versions; nought, where one is not fit. -/
def ordW (x y : SemL) : Int := if fitW x && fitW y then ordO x y else 0

theorem seen5 {W : World} {B : Nat} {a b c d e : Value} (h : W.heap[B]? = some (.cells #[a, b, c, d, e] 33 (0, 0))) :
    W.cell? ⟨B, 0, none⟩ = some a ∧ W.cell? ⟨B, 1, none⟩ = some b ∧ W.cell? ⟨B, 2, none⟩ = some c ∧ W.cell? ⟨B, 3, none⟩ = some d ∧ W.cell? ⟨B, 4, none⟩ = some e :=
  ⟨cell_at 0 h rfl, cell_at 1 h rfl, cell_at 2 h rfl, cell_at 3 h rfl, cell_at 4 h rfl⟩

set_option maxRecDepth 100000 in
set_option maxHeartbeats 1000000 in
theorem Order_any (va vb : Value) (x y : SemL) (w : World) (ha : SemAt w va x) (hb : SemAt w vb y) (sx : ShortS x) (sy : ShortS y) :
    Calls Tryz.prog 36 #[va, vb] w fun e w' => e = .returned (.int .i64 (ordW x y)) ∧ Below w.heap.size w w' := by
  have F1 := hide (fun W (hW : Below w.heap.size w W) => Fit_any va x W (ha.below hW) sx)
  have F2 := hide (fun W (hW : Below w.heap.size w W) => Fit_any vb y W (hb.below hW) sy)
  have OO := hide (fun W (hW : Below w.heap.size w W) => order_any va vb x y W (ha.below hW) (hb.below hW) sx sy)
  have HO : Hid (ordW x y = if fitW x && fitW y then ordO x y else 0) := rfl
  obtain ⟨p1, q1, rfl, t1, u1⟩ := ha
  obtain ⟨p2, q2, rfl, t2, u2⟩ := hb
  obtain ⟨a1, c1, rfl, y1⟩ := t1
  obtain ⟨a2, c2, rfl, y2⟩ := t2
  obtain ⟨a3, c3, rfl, y3⟩ := u1
  obtain ⟨a4, c4, rfl, y4⟩ := u2
  clear y1 y2 y3 y4 sx sy
  generalize ordW x y = O at *
  generalize ordO x y = o at *
  generalize fitW x = f1 at *
  generalize fitW y = f2 at *
  have b0 : Below w.heap.size w ((w.alloc (.cells #[.string (ofL x.maj), .string (ofL x.min), .string (ofL x.pat), .slice a1 x.pre.length c1, .slice a3 x.bld.length c3] 33)).alloc (.cells #[.string (ofL y.maj), .string (ofL y.min), .string (ofL y.pat), .slice a2 y.pre.length c2, .slice a4 y.bld.length c4] 33)) := ((Below.refl _ w).alloc (Nat.le_refl _) _).alloc (by simp) _
  have k0 := World.alloc_heap_new w (.cells #[.string (ofL x.maj), .string (ofL x.min), .string (ofL x.pat), .slice a1 x.pre.length c1, .slice a3 x.bld.length c3] 33)
  have k1 := World.alloc_heap_new (w.alloc (.cells #[.string (ofL x.maj), .string (ofL x.min), .string (ofL x.pat), .slice a1 x.pre.length c1, .slice a3 x.bld.length c3] 33)) (.cells #[.string (ofL y.maj), .string (ofL y.min), .string (ofL y.pat), .slice a2 y.pre.length c2, .slice a4 y.bld.length c4] 33)
  simp only [World.size_alloc] at k1
  have k0' := (Below.heap_alloc (w.alloc (.cells #[.string (ofL x.maj), .string (ofL x.min), .string (ofL x.pat), .slice a1 x.pre.length c1, .slice a3 x.bld.length c3] 33)) (.cells #[.string (ofL y.maj), .string (ofL y.min), .string (ofL y.pat), .slice a2 y.pre.length c2, .slice a4 y.bld.length c4] 33) w.heap.size (by simp)).trans k0
  clear k0
  cases f1
  · go_enter Tryz.func36, Tryz.ntmps36
    go_wp2_with fail
    refine (F1.out _ b0).mono ?_
    rintro e w1 ⟨rfl, b1⟩
    clear k0' k1
    go_wp2_with fail
    go_ret
    exact ⟨ret_i (by rw [HO.out] <;> rfl), b0.trans (b1.mono (by simp; omega))⟩
  · go_enter Tryz.func36, Tryz.ntmps36
    go_wp2_with fail
    refine (F1.out _ b0).mono ?_
    rintro e w1 ⟨rfl, b1⟩
    simp only [World.size_alloc] at b1
    have e0 := (b1.block _ (by omega)).trans k0'
    have e1 := (b1.block _ (by omega)).trans k1
    obtain ⟨r0, r1, r2, r3, r4⟩ := seen5 e0
    obtain ⟨z0, z1, z2, z3, z4⟩ := seen5 e1
    have B1 := b0.trans (b1.mono (by omega))
    have E0 := hide e0
    have E1 := hide e1
    have l1 := (Array.getElem?_eq_some_iff.1 e1).1
    clear k0' k1 e0 e1
    go_wp2_with fail
    refine (F2.out _ B1).mono ?_
    rintro e w2 ⟨rfl, b2⟩
    have B2 := B1.trans (b2.mono (by omega))
    clear r0 r1 r2 r3 r4 z0 z1 z2 z3 z4
    obtain ⟨r0, r1, r2, r3, r4⟩ := seen5 ((b2.block _ (by omega)).trans E0.out)
    obtain ⟨z0, z1, z2, z3, z4⟩ := seen5 ((b2.block _ (by omega)).trans E1.out)
    cases f2
    · go_wp2_with fail
      go_ret
      exact ⟨ret_i (by rw [HO.out] <;> rfl), B2⟩
    · go_wp2_with fail
      refine (OO.out _ B2).mono ?_
      rintro e w3 ⟨rfl, b3⟩
      go_wp2_with fail
      go_ret
      have s2 := B2.size
      exact ⟨ret_i (by rw [HO.out] <;> rfl), B2.trans (b3.mono (by omega))⟩

end Go.Proofs.YtaflflelcdcanaaGreat
