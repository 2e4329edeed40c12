/-
  Walks: what is in either, in both, in the first alone, in none: the document.
-/
import Derived.Test.YtmpegkcleajhhaaDoorDs
namespace Go.Proofs.YtmpegkcleajhhaaDoor
open Go.RowKit Go.Shelf
set_option linter.unusedVariables false

set_option maxRecDepth 100000 in
set_option maxHeartbeats 8000000 in
theorem bothUnion_any (n : Int) (va vb : Value) (a b : List Sp) (w : World) (hA : Spans w va a) (hB : Spans w vb b) (fa : fitL n a = true) (fb : fitL n b = true) :
    Calls Tryd.prog 45 #[va, vb, .bool true, .bool true, .bool true] w (MadePost n (fun r => hasL a r || hasL b r) w) := by
  have la := fit_len fa
  have lb := fit_len fb
  have fa' := fitL_iff.1 fa
  have fb' := fitL_iff.1 fb
  have ea := end_bound fa
  have eb := end_bound fb
  obtain ⟨N, hN⟩ : ∃ N : Nat, max (endF 0 a) (endF 0 b) = (N : Int) := ⟨(max (endF 0 a) (endF 0 b)).toNat, by omega⟩
  have hNn : (N : Int) ≤ n := by omega
  have hN6 : N ≤ 65536 := by omega
  have C1 := hide (fun W (h : Below w.heap.size w W) => end_any va a W (hA.below h) (by omega))
  have C2 := hide (fun W (h : Below w.heap.size w W) => end_any vb b W (hB.below h) (by omega))
  have C3 := hide (fun W (h : Below w.heap.size w W) => marks_any n va a N W (hA.below h) fa (by omega) hN6)
  have C4 := hide (fun W (h : Below w.heap.size w W) => marks_any n vb b N W (hB.below h) fb (by omega) hN6)
  have HF := hide (fun xs (hx : xs = mkM N (fun r => hasL a r || hasL b r)) => both_set (n := n) (N := N) (f := fun r => hasL a r || hasL b r) fa'.1 fa'.2.1 hNn hN6 xs hx (fun r hr => by
    have h1 : hasL a r = false := by rcases hr with hr | hr; exact has_neg fa'.2.2 hr; exact has_past fa'.2.2 (by omega)
    have h2 : hasL b r = false := by rcases hr with hr | hr; exact has_neg fb'.2.2 hr; exact has_past fb'.2.2 (by omega)
    rw [h1, h2]; rfl))
  clear hA hB fa fb la lb fa' fb' hNn
  generalize endF 0 a = pa at *
  generalize endF 0 b = pb at *
  generalize hasL a = ga at *
  generalize hasL b = gb at *
  go_enter Tryd.func45, Tryd.ntmps45
  go_wp2_with fail
  refine (C1.out _ (Below.refl _ _)).mono ?_
  rintro e w1 ⟨rfl, h1⟩
  rw [h1]; clear h1 w1
  try dsimp only
  go_wp2_with fail
  refine (C2.out _ (Below.refl _ _)).mono ?_
  rintro e w1 ⟨rfl, h1⟩
  rw [h1]; clear h1 w1
  try dsimp only
  by_cases hab : pa < pb
  · obtain rfl : pb = (N : Int) := by omega
    go_wp2_with fail
    refine (C3.out _ (Below.refl _ _)).mono ?_
    rintro e w1 ⟨X, rfl, m1⟩
    have b1 := m1.bel
    try dsimp only
    go_wp2_with fail
    refine (C4.out _ b1).mono ?_
    rintro e w2 ⟨Y, rfl, m2⟩
    have hXY : X < Y := Nat.lt_of_lt_of_le m1.lt m2.le
    have hXw : w.heap.size ≤ X := m1.le
    have m1 := m1.next m2.bel
    have m2 : BW w Y (mkM N gb) w2 := ⟨m1.bel, Nat.le_trans b1.size m2.le, m2.cells⟩
    have m1 : BW w X (mkM N (stepG 0 ga gb fun p q => p || q)) w2 := by rw [stepG_zero]; exact m1
    clear b1 C1 C2 C3 C4
    try dsimp only
    go_wp2_with fail
    try dsimp only
    go_loopw [14] (fun x wr => ∃ k : Nat, k ≤ N ∧ x = .int .i64 k ∧ BW w X (mkM N (stepG k ga gb fun p q => p || q)) wr ∧ BW w Y (mkM N gb) wr) (fun x _ => N - (intOf x).toNat)
    case atStart => exact ⟨0, by omega, rfl, m1, m2⟩
    case round =>
      clear m1 m2
      obtain ⟨k, hk, rfl, m1, m2⟩ := hrel
      by_cases hlt : k < N
      · have hlt' : (k : Int) < (N : Int) := by omega
        have cx := m1.cell k (by rw [mk_len]; exact hlt)
        have cy := m2.cell k (by rw [mk_len]; exact hlt)
        have fx := m1.free k
        have HP := hide (fun b => m1.put k b)
        have HQ := hide (fun b => m2.other (X := X) (o := k) (v := .bool b) ⟨hXw, by omega⟩)
        have HST := hide (stepG_next N k ga gb (fun p q => p || q))
        rw [mk_at _ _ _ hlt, stepG_at] at cx
        rw [mk_at _ _ _ hlt] at cy
        generalize hp : ga (k : Int) = p at *
        generalize hq : gb (k : Int) = q at *
        clear m1 m2
        try dsimp only
        cases p <;> cases q
        all_goals
          go_wp2_with fail
          go_roundw
          case rel => exact ⟨k + 1, by omega, by go_num, by rw [← HST.out]; exact HP.out _, HQ.out _⟩
          case measure => simp [intOf]; omega
      · have hlt' : ¬ (k : Int) < (N : Int) := by omega
        obtain rfl : k = N := by omega
        have CW := hide (RWhere_any _ _ _ (m1.bools k k (mk_len _ _) (Nat.le_refl _)) (by rw [mk_len]; omega))
        have HS := hide (HF.out _ (stepG_end k ga gb fun p q => p || q))
        have bw := m1.bel
        clear m1 m2
        try dsimp only
        go_wp2_with fail
        refine CW.out.mono ?_
        rintro e w3 ⟨v3, rfl, s3, k3⟩
        try dsimp only
        go_wp2_with fail
        go_ret
        rw [mk_len] at s3
        exact ⟨v3, _, rfl, s3, HS.out, bw.trans (k3.mono bw.size)⟩
  · obtain rfl : pa = (N : Int) := by omega
    go_wp2_with fail
    refine (C3.out _ (Below.refl _ _)).mono ?_
    rintro e w1 ⟨X, rfl, m1⟩
    have b1 := m1.bel
    try dsimp only
    go_wp2_with fail
    refine (C4.out _ b1).mono ?_
    rintro e w2 ⟨Y, rfl, m2⟩
    have hXY : X < Y := Nat.lt_of_lt_of_le m1.lt m2.le
    have hXw : w.heap.size ≤ X := m1.le
    have m1 := m1.next m2.bel
    have m2 : BW w Y (mkM N gb) w2 := ⟨m1.bel, Nat.le_trans b1.size m2.le, m2.cells⟩
    have m1 : BW w X (mkM N (stepG 0 ga gb fun p q => p || q)) w2 := by rw [stepG_zero]; exact m1
    clear b1 C1 C2 C3 C4
    try dsimp only
    go_wp2_with fail
    try dsimp only
    go_loopw [14] (fun x wr => ∃ k : Nat, k ≤ N ∧ x = .int .i64 k ∧ BW w X (mkM N (stepG k ga gb fun p q => p || q)) wr ∧ BW w Y (mkM N gb) wr) (fun x _ => N - (intOf x).toNat)
    case atStart => exact ⟨0, by omega, rfl, m1, m2⟩
    case round =>
      clear m1 m2
      obtain ⟨k, hk, rfl, m1, m2⟩ := hrel
      by_cases hlt : k < N
      · have hlt' : (k : Int) < (N : Int) := by omega
        have cx := m1.cell k (by rw [mk_len]; exact hlt)
        have cy := m2.cell k (by rw [mk_len]; exact hlt)
        have fx := m1.free k
        have HP := hide (fun b => m1.put k b)
        have HQ := hide (fun b => m2.other (X := X) (o := k) (v := .bool b) ⟨hXw, by omega⟩)
        have HST := hide (stepG_next N k ga gb (fun p q => p || q))
        rw [mk_at _ _ _ hlt, stepG_at] at cx
        rw [mk_at _ _ _ hlt] at cy
        generalize hp : ga (k : Int) = p at *
        generalize hq : gb (k : Int) = q at *
        clear m1 m2
        try dsimp only
        cases p <;> cases q
        all_goals
          go_wp2_with fail
          go_roundw
          case rel => exact ⟨k + 1, by omega, by go_num, by rw [← HST.out]; exact HP.out _, HQ.out _⟩
          case measure => simp [intOf]; omega
      · have hlt' : ¬ (k : Int) < (N : Int) := by omega
        obtain rfl : k = N := by omega
        have CW := hide (RWhere_any _ _ _ (m1.bools k k (mk_len _ _) (Nat.le_refl _)) (by rw [mk_len]; omega))
        have HS := hide (HF.out _ (stepG_end k ga gb fun p q => p || q))
        have bw := m1.bel
        clear m1 m2
        try dsimp only
        go_wp2_with fail
        refine CW.out.mono ?_
        rintro e w3 ⟨v3, rfl, s3, k3⟩
        try dsimp only
        go_wp2_with fail
        go_ret
        rw [mk_len] at s3
        exact ⟨v3, _, rfl, s3, HS.out, bw.trans (k3.mono bw.size)⟩

theorem RUnion_any (n : Int) (va vb : Value) (a b : List Sp) (w : World) (hA : Spans w va a) (hB : Spans w vb b) (fa : fitL n a = true) (fb : fitL n b = true) :
    Calls Tryd.prog 20 #[va, vb] w (MadePost n (fun r => hasL a r || hasL b r) w) := by
  have C := hide (bothUnion_any n va vb a b w hA hB fa fb)
  clear hA hB fa fb
  go_enter Tryd.func20, Tryd.ntmps20
  go_wp2_with fail
  refine C.out.mono ?_
  rintro e w1 ⟨v1, s, rfl, s1, i1, b1⟩
  go_wp2_with fail
  go_ret
  exact ⟨v1, s, rfl, s1, i1, b1⟩

set_option maxRecDepth 100000 in
set_option maxHeartbeats 8000000 in
theorem bothMeet_any (n : Int) (va vb : Value) (a b : List Sp) (w : World) (hA : Spans w va a) (hB : Spans w vb b) (fa : fitL n a = true) (fb : fitL n b = true) :
    Calls Tryd.prog 45 #[va, vb, .bool false, .bool true, .bool false] w (MadePost n (fun r => hasL a r && hasL b r) w) := by
  have la := fit_len fa
  have lb := fit_len fb
  have fa' := fitL_iff.1 fa
  have fb' := fitL_iff.1 fb
  have ea := end_bound fa
  have eb := end_bound fb
  obtain ⟨N, hN⟩ : ∃ N : Nat, max (endF 0 a) (endF 0 b) = (N : Int) := ⟨(max (endF 0 a) (endF 0 b)).toNat, by omega⟩
  have hNn : (N : Int) ≤ n := by omega
  have hN6 : N ≤ 65536 := by omega
  have C1 := hide (fun W (h : Below w.heap.size w W) => end_any va a W (hA.below h) (by omega))
  have C2 := hide (fun W (h : Below w.heap.size w W) => end_any vb b W (hB.below h) (by omega))
  have C3 := hide (fun W (h : Below w.heap.size w W) => marks_any n va a N W (hA.below h) fa (by omega) hN6)
  have C4 := hide (fun W (h : Below w.heap.size w W) => marks_any n vb b N W (hB.below h) fb (by omega) hN6)
  have HF := hide (fun xs (hx : xs = mkM N (fun r => hasL a r && hasL b r)) => both_set (n := n) (N := N) (f := fun r => hasL a r && hasL b r) fa'.1 fa'.2.1 hNn hN6 xs hx (fun r hr => by
    have h1 : hasL a r = false := by rcases hr with hr | hr; exact has_neg fa'.2.2 hr; exact has_past fa'.2.2 (by omega)
    have h2 : hasL b r = false := by rcases hr with hr | hr; exact has_neg fb'.2.2 hr; exact has_past fb'.2.2 (by omega)
    rw [h1, h2]; rfl))
  clear hA hB fa fb la lb fa' fb' hNn
  generalize endF 0 a = pa at *
  generalize endF 0 b = pb at *
  generalize hasL a = ga at *
  generalize hasL b = gb at *
  go_enter Tryd.func45, Tryd.ntmps45
  go_wp2_with fail
  refine (C1.out _ (Below.refl _ _)).mono ?_
  rintro e w1 ⟨rfl, h1⟩
  rw [h1]; clear h1 w1
  try dsimp only
  go_wp2_with fail
  refine (C2.out _ (Below.refl _ _)).mono ?_
  rintro e w1 ⟨rfl, h1⟩
  rw [h1]; clear h1 w1
  try dsimp only
  by_cases hab : pa < pb
  · obtain rfl : pb = (N : Int) := by omega
    go_wp2_with fail
    refine (C3.out _ (Below.refl _ _)).mono ?_
    rintro e w1 ⟨X, rfl, m1⟩
    have b1 := m1.bel
    try dsimp only
    go_wp2_with fail
    refine (C4.out _ b1).mono ?_
    rintro e w2 ⟨Y, rfl, m2⟩
    have hXY : X < Y := Nat.lt_of_lt_of_le m1.lt m2.le
    have hXw : w.heap.size ≤ X := m1.le
    have m1 := m1.next m2.bel
    have m2 : BW w Y (mkM N gb) w2 := ⟨m1.bel, Nat.le_trans b1.size m2.le, m2.cells⟩
    have m1 : BW w X (mkM N (stepG 0 ga gb fun p q => p && q)) w2 := by rw [stepG_zero]; exact m1
    clear b1 C1 C2 C3 C4
    try dsimp only
    go_wp2_with fail
    try dsimp only
    go_loopw [14] (fun x wr => ∃ k : Nat, k ≤ N ∧ x = .int .i64 k ∧ BW w X (mkM N (stepG k ga gb fun p q => p && q)) wr ∧ BW w Y (mkM N gb) wr) (fun x _ => N - (intOf x).toNat)
    case atStart => exact ⟨0, by omega, rfl, m1, m2⟩
    case round =>
      clear m1 m2
      obtain ⟨k, hk, rfl, m1, m2⟩ := hrel
      by_cases hlt : k < N
      · have hlt' : (k : Int) < (N : Int) := by omega
        have cx := m1.cell k (by rw [mk_len]; exact hlt)
        have cy := m2.cell k (by rw [mk_len]; exact hlt)
        have fx := m1.free k
        have HP := hide (fun b => m1.put k b)
        have HQ := hide (fun b => m2.other (X := X) (o := k) (v := .bool b) ⟨hXw, by omega⟩)
        have HST := hide (stepG_next N k ga gb (fun p q => p && q))
        rw [mk_at _ _ _ hlt, stepG_at] at cx
        rw [mk_at _ _ _ hlt] at cy
        generalize hp : ga (k : Int) = p at *
        generalize hq : gb (k : Int) = q at *
        clear m1 m2
        try dsimp only
        cases p <;> cases q
        all_goals
          go_wp2_with fail
          go_roundw
          case rel => exact ⟨k + 1, by omega, by go_num, by rw [← HST.out]; exact HP.out _, HQ.out _⟩
          case measure => simp [intOf]; omega
      · have hlt' : ¬ (k : Int) < (N : Int) := by omega
        obtain rfl : k = N := by omega
        have CW := hide (RWhere_any _ _ _ (m1.bools k k (mk_len _ _) (Nat.le_refl _)) (by rw [mk_len]; omega))
        have HS := hide (HF.out _ (stepG_end k ga gb fun p q => p && q))
        have bw := m1.bel
        clear m1 m2
        try dsimp only
        go_wp2_with fail
        refine CW.out.mono ?_
        rintro e w3 ⟨v3, rfl, s3, k3⟩
        try dsimp only
        go_wp2_with fail
        go_ret
        rw [mk_len] at s3
        exact ⟨v3, _, rfl, s3, HS.out, bw.trans (k3.mono bw.size)⟩
  · obtain rfl : pa = (N : Int) := by omega
    go_wp2_with fail
    refine (C3.out _ (Below.refl _ _)).mono ?_
    rintro e w1 ⟨X, rfl, m1⟩
    have b1 := m1.bel
    try dsimp only
    go_wp2_with fail
    refine (C4.out _ b1).mono ?_
    rintro e w2 ⟨Y, rfl, m2⟩
    have hXY : X < Y := Nat.lt_of_lt_of_le m1.lt m2.le
    have hXw : w.heap.size ≤ X := m1.le
    have m1 := m1.next m2.bel
    have m2 : BW w Y (mkM N gb) w2 := ⟨m1.bel, Nat.le_trans b1.size m2.le, m2.cells⟩
    have m1 : BW w X (mkM N (stepG 0 ga gb fun p q => p && q)) w2 := by rw [stepG_zero]; exact m1
    clear b1 C1 C2 C3 C4
    try dsimp only
    go_wp2_with fail
    try dsimp only
    go_loopw [14] (fun x wr => ∃ k : Nat, k ≤ N ∧ x = .int .i64 k ∧ BW w X (mkM N (stepG k ga gb fun p q => p && q)) wr ∧ BW w Y (mkM N gb) wr) (fun x _ => N - (intOf x).toNat)
    case atStart => exact ⟨0, by omega, rfl, m1, m2⟩
    case round =>
      clear m1 m2
      obtain ⟨k, hk, rfl, m1, m2⟩ := hrel
      by_cases hlt : k < N
      · have hlt' : (k : Int) < (N : Int) := by omega
        have cx := m1.cell k (by rw [mk_len]; exact hlt)
        have cy := m2.cell k (by rw [mk_len]; exact hlt)
        have fx := m1.free k
        have HP := hide (fun b => m1.put k b)
        have HQ := hide (fun b => m2.other (X := X) (o := k) (v := .bool b) ⟨hXw, by omega⟩)
        have HST := hide (stepG_next N k ga gb (fun p q => p && q))
        rw [mk_at _ _ _ hlt, stepG_at] at cx
        rw [mk_at _ _ _ hlt] at cy
        generalize hp : ga (k : Int) = p at *
        generalize hq : gb (k : Int) = q at *
        clear m1 m2
        try dsimp only
        cases p <;> cases q
        all_goals
          go_wp2_with fail
          go_roundw
          case rel => exact ⟨k + 1, by omega, by go_num, by rw [← HST.out]; exact HP.out _, HQ.out _⟩
          case measure => simp [intOf]; omega
      · have hlt' : ¬ (k : Int) < (N : Int) := by omega
        obtain rfl : k = N := by omega
        have CW := hide (RWhere_any _ _ _ (m1.bools k k (mk_len _ _) (Nat.le_refl _)) (by rw [mk_len]; omega))
        have HS := hide (HF.out _ (stepG_end k ga gb fun p q => p && q))
        have bw := m1.bel
        clear m1 m2
        try dsimp only
        go_wp2_with fail
        refine CW.out.mono ?_
        rintro e w3 ⟨v3, rfl, s3, k3⟩
        try dsimp only
        go_wp2_with fail
        go_ret
        rw [mk_len] at s3
        exact ⟨v3, _, rfl, s3, HS.out, bw.trans (k3.mono bw.size)⟩

theorem RMeet_any (n : Int) (va vb : Value) (a b : List Sp) (w : World) (hA : Spans w va a) (hB : Spans w vb b) (fa : fitL n a = true) (fb : fitL n b = true) :
    Calls Tryd.prog 22 #[va, vb] w (MadePost n (fun r => hasL a r && hasL b r) w) := by
  have C := hide (bothMeet_any n va vb a b w hA hB fa fb)
  clear hA hB fa fb
  go_enter Tryd.func22, Tryd.ntmps22
  go_wp2_with fail
  refine C.out.mono ?_
  rintro e w1 ⟨v1, s, rfl, s1, i1, b1⟩
  go_wp2_with fail
  go_ret
  exact ⟨v1, s, rfl, s1, i1, b1⟩

set_option maxRecDepth 100000 in
set_option maxHeartbeats 8000000 in
theorem bothMinus_any (n : Int) (va vb : Value) (a b : List Sp) (w : World) (hA : Spans w va a) (hB : Spans w vb b) (fa : fitL n a = true) (fb : fitL n b = true) :
    Calls Tryd.prog 45 #[va, vb, .bool true, .bool false, .bool false] w (MadePost n (fun r => hasL a r && !hasL b r) w) := by
  have la := fit_len fa
  have lb := fit_len fb
  have fa' := fitL_iff.1 fa
  have fb' := fitL_iff.1 fb
  have ea := end_bound fa
  have eb := end_bound fb
  obtain ⟨N, hN⟩ : ∃ N : Nat, max (endF 0 a) (endF 0 b) = (N : Int) := ⟨(max (endF 0 a) (endF 0 b)).toNat, by omega⟩
  have hNn : (N : Int) ≤ n := by omega
  have hN6 : N ≤ 65536 := by omega
  have C1 := hide (fun W (h : Below w.heap.size w W) => end_any va a W (hA.below h) (by omega))
  have C2 := hide (fun W (h : Below w.heap.size w W) => end_any vb b W (hB.below h) (by omega))
  have C3 := hide (fun W (h : Below w.heap.size w W) => marks_any n va a N W (hA.below h) fa (by omega) hN6)
  have C4 := hide (fun W (h : Below w.heap.size w W) => marks_any n vb b N W (hB.below h) fb (by omega) hN6)
  have HF := hide (fun xs (hx : xs = mkM N (fun r => hasL a r && !hasL b r)) => both_set (n := n) (N := N) (f := fun r => hasL a r && !hasL b r) fa'.1 fa'.2.1 hNn hN6 xs hx (fun r hr => by
    have h1 : hasL a r = false := by rcases hr with hr | hr; exact has_neg fa'.2.2 hr; exact has_past fa'.2.2 (by omega)
    have h2 : hasL b r = false := by rcases hr with hr | hr; exact has_neg fb'.2.2 hr; exact has_past fb'.2.2 (by omega)
    rw [h1, h2]; rfl))
  clear hA hB fa fb la lb fa' fb' hNn
  generalize endF 0 a = pa at *
  generalize endF 0 b = pb at *
  generalize hasL a = ga at *
  generalize hasL b = gb at *
  go_enter Tryd.func45, Tryd.ntmps45
  go_wp2_with fail
  refine (C1.out _ (Below.refl _ _)).mono ?_
  rintro e w1 ⟨rfl, h1⟩
  rw [h1]; clear h1 w1
  try dsimp only
  go_wp2_with fail
  refine (C2.out _ (Below.refl _ _)).mono ?_
  rintro e w1 ⟨rfl, h1⟩
  rw [h1]; clear h1 w1
  try dsimp only
  by_cases hab : pa < pb
  · obtain rfl : pb = (N : Int) := by omega
    go_wp2_with fail
    refine (C3.out _ (Below.refl _ _)).mono ?_
    rintro e w1 ⟨X, rfl, m1⟩
    have b1 := m1.bel
    try dsimp only
    go_wp2_with fail
    refine (C4.out _ b1).mono ?_
    rintro e w2 ⟨Y, rfl, m2⟩
    have hXY : X < Y := Nat.lt_of_lt_of_le m1.lt m2.le
    have hXw : w.heap.size ≤ X := m1.le
    have m1 := m1.next m2.bel
    have m2 : BW w Y (mkM N gb) w2 := ⟨m1.bel, Nat.le_trans b1.size m2.le, m2.cells⟩
    have m1 : BW w X (mkM N (stepG 0 ga gb fun p q => p && !q)) w2 := by rw [stepG_zero]; exact m1
    clear b1 C1 C2 C3 C4
    try dsimp only
    go_wp2_with fail
    try dsimp only
    go_loopw [14] (fun x wr => ∃ k : Nat, k ≤ N ∧ x = .int .i64 k ∧ BW w X (mkM N (stepG k ga gb fun p q => p && !q)) wr ∧ BW w Y (mkM N gb) wr) (fun x _ => N - (intOf x).toNat)
    case atStart => exact ⟨0, by omega, rfl, m1, m2⟩
    case round =>
      clear m1 m2
      obtain ⟨k, hk, rfl, m1, m2⟩ := hrel
      by_cases hlt : k < N
      · have hlt' : (k : Int) < (N : Int) := by omega
        have cx := m1.cell k (by rw [mk_len]; exact hlt)
        have cy := m2.cell k (by rw [mk_len]; exact hlt)
        have fx := m1.free k
        have HP := hide (fun b => m1.put k b)
        have HQ := hide (fun b => m2.other (X := X) (o := k) (v := .bool b) ⟨hXw, by omega⟩)
        have HST := hide (stepG_next N k ga gb (fun p q => p && !q))
        rw [mk_at _ _ _ hlt, stepG_at] at cx
        rw [mk_at _ _ _ hlt] at cy
        generalize hp : ga (k : Int) = p at *
        generalize hq : gb (k : Int) = q at *
        clear m1 m2
        try dsimp only
        cases p <;> cases q
        all_goals
          go_wp2_with fail
          go_roundw
          case rel => exact ⟨k + 1, by omega, by go_num, by rw [← HST.out]; exact HP.out _, HQ.out _⟩
          case measure => simp [intOf]; omega
      · have hlt' : ¬ (k : Int) < (N : Int) := by omega
        obtain rfl : k = N := by omega
        have CW := hide (RWhere_any _ _ _ (m1.bools k k (mk_len _ _) (Nat.le_refl _)) (by rw [mk_len]; omega))
        have HS := hide (HF.out _ (stepG_end k ga gb fun p q => p && !q))
        have bw := m1.bel
        clear m1 m2
        try dsimp only
        go_wp2_with fail
        refine CW.out.mono ?_
        rintro e w3 ⟨v3, rfl, s3, k3⟩
        try dsimp only
        go_wp2_with fail
        go_ret
        rw [mk_len] at s3
        exact ⟨v3, _, rfl, s3, HS.out, bw.trans (k3.mono bw.size)⟩
  · obtain rfl : pa = (N : Int) := by omega
    go_wp2_with fail
    refine (C3.out _ (Below.refl _ _)).mono ?_
    rintro e w1 ⟨X, rfl, m1⟩
    have b1 := m1.bel
    try dsimp only
    go_wp2_with fail
    refine (C4.out _ b1).mono ?_
    rintro e w2 ⟨Y, rfl, m2⟩
    have hXY : X < Y := Nat.lt_of_lt_of_le m1.lt m2.le
    have hXw : w.heap.size ≤ X := m1.le
    have m1 := m1.next m2.bel
    have m2 : BW w Y (mkM N gb) w2 := ⟨m1.bel, Nat.le_trans b1.size m2.le, m2.cells⟩
    have m1 : BW w X (mkM N (stepG 0 ga gb fun p q => p && !q)) w2 := by rw [stepG_zero]; exact m1
    clear b1 C1 C2 C3 C4
    try dsimp only
    go_wp2_with fail
    try dsimp only
    go_loopw [14] (fun x wr => ∃ k : Nat, k ≤ N ∧ x = .int .i64 k ∧ BW w X (mkM N (stepG k ga gb fun p q => p && !q)) wr ∧ BW w Y (mkM N gb) wr) (fun x _ => N - (intOf x).toNat)
    case atStart => exact ⟨0, by omega, rfl, m1, m2⟩
    case round =>
      clear m1 m2
      obtain ⟨k, hk, rfl, m1, m2⟩ := hrel
      by_cases hlt : k < N
      · have hlt' : (k : Int) < (N : Int) := by omega
        have cx := m1.cell k (by rw [mk_len]; exact hlt)
        have cy := m2.cell k (by rw [mk_len]; exact hlt)
        have fx := m1.free k
        have HP := hide (fun b => m1.put k b)
        have HQ := hide (fun b => m2.other (X := X) (o := k) (v := .bool b) ⟨hXw, by omega⟩)
        have HST := hide (stepG_next N k ga gb (fun p q => p && !q))
        rw [mk_at _ _ _ hlt, stepG_at] at cx
        rw [mk_at _ _ _ hlt] at cy
        generalize hp : ga (k : Int) = p at *
        generalize hq : gb (k : Int) = q at *
        clear m1 m2
        try dsimp only
        cases p <;> cases q
        all_goals
          go_wp2_with fail
          go_roundw
          case rel => exact ⟨k + 1, by omega, by go_num, by rw [← HST.out]; exact HP.out _, HQ.out _⟩
          case measure => simp [intOf]; omega
      · have hlt' : ¬ (k : Int) < (N : Int) := by omega
        obtain rfl : k = N := by omega
        have CW := hide (RWhere_any _ _ _ (m1.bools k k (mk_len _ _) (Nat.le_refl _)) (by rw [mk_len]; omega))
        have HS := hide (HF.out _ (stepG_end k ga gb fun p q => p && !q))
        have bw := m1.bel
        clear m1 m2
        try dsimp only
        go_wp2_with fail
        refine CW.out.mono ?_
        rintro e w3 ⟨v3, rfl, s3, k3⟩
        try dsimp only
        go_wp2_with fail
        go_ret
        rw [mk_len] at s3
        exact ⟨v3, _, rfl, s3, HS.out, bw.trans (k3.mono bw.size)⟩

theorem RMinus_any (n : Int) (va vb : Value) (a b : List Sp) (w : World) (hA : Spans w va a) (hB : Spans w vb b) (fa : fitL n a = true) (fb : fitL n b = true) :
    Calls Tryd.prog 24 #[va, vb] w (MadePost n (fun r => hasL a r && !hasL b r) w) := by
  have C := hide (bothMinus_any n va vb a b w hA hB fa fb)
  clear hA hB fa fb
  go_enter Tryd.func24, Tryd.ntmps24
  go_wp2_with fail
  refine C.out.mono ?_
  rintro e w1 ⟨v1, s, rfl, s1, i1, b1⟩
  go_wp2_with fail
  go_ret
  exact ⟨v1, s, rfl, s1, i1, b1⟩

theorem RNot_any (n : Int) (va : Value) (a : List Sp) (w : World) (hA : Spans w va a) (fa : fitL n a = true) :
    Calls Tryd.prog 26 #[.int .i64 n, va] w (MadePost n (fun r => (decide (0 ≤ r) && decide (r < n)) && !hasL a r) w) := by
  have f' := fitL_iff.1 fa
  have HS := all_set f'.1 f'.2.1
  have C := hide (fun w => RAll_any n w)
  have CM := hide (fun W v (h1 : Spans W v (allL n)) (h2 : Spans W va a) => RMinus_any n v va (allL n) a W h1 h2 HS.fit fa)
  have HA := hide hA
  have HH : Hid (∀ r, hasL (allL n) r = (decide (0 ≤ r) && decide (r < n))) := HS.has
  clear hA HS f'
  go_enter Tryd.func26, Tryd.ntmps26
  go_wp2_with fail
  refine (C.out _).mono ?_
  rintro e w1 ⟨v1, rfl, s1, b1⟩
  go_wp2_with fail
  refine (CM.out _ _ s1 (HA.out.below b1)).mono ?_
  rintro e w2 ⟨v2, s, rfl, s2, i2, b2⟩
  go_wp2_with fail
  go_ret
  refine ⟨v2, s, rfl, s2, ⟨i2.fit, fun r => ?_⟩, b1.trans (b2.mono b1.size)⟩
  rw [i2.has, HH.out]
theorem RWithin_any (n : Int) (va vb : Value) (a b : List Sp) (w : World) (hA : Spans w va a) (hB : Spans w vb b) (fa : fitL n a = true) (fb : fitL n b = true) :
    Calls Tryd.prog 35 #[va, vb] w fun e w' => (∃ s, IsSet n (fun r => hasL a r && !hasL b r) s ∧ e = .returned (.bool (decide (s = [])))) ∧ Below w.heap.size w w' := by
  have C := hide (RMinus_any n va vb a b w hA hB fa fb)
  clear hA hB fa fb
  go_enter Tryd.func35, Tryd.ntmps35
  go_wp2_with fail
  refine C.out.mono ?_
  rintro e w2 ⟨v2, s, rfl, s2, i2, b2⟩
  obtain ⟨a2, c2, rfl, _⟩ := s2
  by_cases h : s.length = 0
  · have hs : s = [] := List.length_eq_zero_iff.1 h
    have hq : ((s.length : Int) == 0) = true := int_eq0 h
    have HI := hide i2
    clear i2
    go_wp2_with fail
    go_ret
    exact ⟨⟨s, HI.out, ret_b (by rw [decide_eq_true hs])⟩, b2⟩
  · have hs : ¬ s = [] := fun e => h (by rw [e]; rfl)
    have hq : ((s.length : Int) == 0) = false := int_ne0 h
    have HI := hide i2
    clear i2
    go_wp2_with fail
    go_ret
    exact ⟨⟨s, HI.out, ret_b (by rw [decide_eq_false hs])⟩, b2⟩

end Go.Proofs.YtmpegkcleajhhaaDoor
