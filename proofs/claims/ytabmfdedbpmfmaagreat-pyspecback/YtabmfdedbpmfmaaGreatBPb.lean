/-
  Walks: the reader's small parts. · Walks: the operator at a place. · Walks: strings.Cut at "!", strings.IndexByte, strings.HasPrefix; marks, digits, an epoch.
-/
import Derived.Lib.Strings
import Derived.Test.YtabmfdedbpmfmaaGreatBGd
import Derived.WalkSmall
namespace Go.Proofs.YtabmfdedbpmfmaaGreat
open Go.RowKit Go.Shelf
set_option linter.unusedVariables false

def RdAt (W : World) (B : Nat) (s : ByteArray) (a : Nat) : Prop := W.heap[B]? = some (.cells #[.string s, .int .i64 (a : Int)] 122 (0, 0))
theorem RdAt.seen {W : World} {B : Nat} {s : ByteArray} {a : Nat} (h : RdAt W B s a) : W.cell? ⟨B, 0, none⟩ = some (.string s) ∧ W.cell? ⟨B, 1, none⟩ = some (.int .i64 (a : Int)) ∧ W.frozen? ⟨B, 1, none⟩ = false :=
  ⟨cell_at 0 h rfl, cell_at 1 h rfl, one_free 1 h⟩
theorem RdAt.lt {W : World} {B : Nat} {s : ByteArray} {a : Nat} (h : RdAt W B s a) : B < W.heap.size := (Array.getElem?_eq_some_iff.1 h).1
theorem RdAt.drewN {W : World} {B : Nat} {s : ByteArray} {a : Nat} (h : RdAt W B s a) (n : Nat) : RdAt (W.drewN n) B s a := by unfold RdAt; rw [heap_drewN]; exact h
theorem RdAt.place {W : World} {B : Nat} {s : ByteArray} {a : Nat} (h : RdAt W B s a) (x : Nat) : RdAt (W.setCell ⟨B, 1, none⟩ (.int .i64 (x : Int))) B s x := set_lies 1 (.int .i64 (x : Int)) h
theorem RdAt.below {W W' : World} {B : Nat} {s : ByteArray} {a : Nat} (h : RdAt W B s a) (hb : Below W.heap.size W W') : RdAt W' B s a := (hb.block B h.lt).trans h

def isMark (c : UInt8) : Bool := c == 45 || c == 95 || c == 46
def markL (l : List UInt8) (a : Nat) : Nat := if (l[a]?.map isMark).getD false then a + 1 else a

theorem rest_any (B : Nat) (s : ByteArray) (a : Nat) (w : World) (h : RdAt w B s a) (ha : a ≤ s.size) :
    Calls Tryz.prog 140 #[.pointer (some ⟨B, 0, none⟩)] w fun r w' => r = .returned (.string (ofL (s.data.toList.drop a))) ∧ ∃ n, w' = w.drewN n := by
  obtain ⟨c0, c1, f1⟩ := h.seen
  clear h
  have h0 : (0 : Int) ≤ (a : Int) := Int.natCast_nonneg _
  have h1 : (a : Int) ≤ (s.size : Int) := by omega
  go_enter Tryz.func140, Tryz.ntmps140
  go_wp2_with fail
  go_quiet (fail)
  go_wp2_with fail
  go_ret
  exact ⟨ret_s (by rw [extract_end]), _, rfl⟩

set_option maxHeartbeats 400000 in
theorem Misfit_any (s : ByteArray) (a : Nat) (w : World) :
    Calls Tryz.prog 136 #[.string s, .int .i64 (a : Int)] w fun e w' => e = .returned (.int .i64 (misL s.size a)) ∧ w' = w := by
  by_cases h : a = s.size
  · have hb : ((a : Int) == (s.size : Int)) = true := by simp; omega
    have HM : Hid (misL s.size a = 11) := if_pos h
    clear h
    go_enter Tryz.func136, Tryz.ntmps136
    go_wp2_with fail
    go_ret
    exact ⟨by rw [HM.out]; rfl, rfl⟩
  · have hb : ((a : Int) == (s.size : Int)) = false := by simp; omega
    have HM : Hid (misL s.size a = 10) := if_neg h
    clear h
    go_enter Tryz.func136, Tryz.ntmps136
    go_wp2_with fail
    go_ret
    exact ⟨by rw [HM.out]; rfl, rfl⟩

theorem misfit_any (B : Nat) (s : ByteArray) (a : Nat) (w : World) (h : RdAt w B s a) :
    Calls Tryz.prog 123 #[.pointer (some ⟨B, 0, none⟩)] w fun r w' => r = .returned (.int .i64 (misL s.size a)) ∧ ∃ n, w' = w.drewN n := by
  obtain ⟨c0, c1, f1⟩ := h.seen
  clear h
  have CM := hide (Misfit_any s a)
  go_enter Tryz.func123, Tryz.ntmps123
  go_wp2_with fail
  go_quiet ((go_at_call 136; exact Calls.quiet_of_same (CM.out _)))
  go_wp2_with fail
  go_ret
  exact ⟨rfl, _, rfl⟩

set_option maxHeartbeats 400000 in
theorem isDigits_any (s : ByteArray) (w : World) (hs : s.size ≤ maxLen) :
    Calls Tryz.prog 133 #[.string s] w fun e w' => e = .returned (.bool (digB s.data.toList)) ∧ w' = w := by
  by_cases hp : 0 < s.size
  · have hb := eqE s hp
    have hI : runI s.data.toList 0 1 = (runL 1 s.data.toList : Int) := by have := runI_in s 0 1 (by omega); simpa using this
    have HI := hide hI
    have HE := hide (emp s hp)
    clear hI
    go_enter Tryz.func133, Tryz.ntmps133
    go_wp2_with fail
    refine (Run_any _ _ _ _ hs).mono ?_
    rintro e w' ⟨rfl, rfl⟩
    go_wp2_with fail
    go_ret
    refine ⟨ret_b ?_, rfl⟩
    rw [digB, HE.out, HI.out, len_data]
    simp
    rw [Bool.eq_iff_iff]
    simp
    omega
  · have := size0 s hp
    subst this
    go_enter Tryz.func133, Tryz.ntmps133
    go_wp2_with fail
    go_ret
    exact ⟨rfl, rfl⟩

def plainL (t : List UInt8) : List UInt8 := if digB t then trimL t else t
theorem plain_any (s : ByteArray) (w : World) (hs : s.size ≤ maxLen) :
    Calls Tryz.prog 143 #[.string s] w fun e w' => e = .returned (.string (ofL (plainL s.data.toList))) ∧ w' = w := by
  have D := hide (isDigits_any s w hs)
  unfold plainL
  cases hd : digB s.data.toList
  · rw [hd] at D
    rw [if_neg (by simp)]
    go_enter Tryz.func143, Tryz.ntmps143
    go_wp2_with fail
    refine D.out.mono ?_
    rintro e w' ⟨rfl, hw⟩
    rw [hw]
    clear hw w'
    go_wp2_with fail
    go_ret
    exact ⟨ret_s (ofL_self s).symm, rfl⟩
  · rw [hd] at D
    rw [if_pos rfl]
    go_enter Tryz.func143, Tryz.ntmps143
    go_wp2_with fail
    refine D.out.mono ?_
    rintro e w' ⟨rfl, hw⟩
    rw [hw]
    clear hw w'
    go_wp2_with fail
    refine (Trim_any _ _ hs).mono ?_
    rintro e w' ⟨rfl, hw⟩
    rw [hw]
    clear hw w'
    go_wp2_with fail
    go_ret
    exact ⟨rfl, rfl⟩

end Go.Proofs.YtabmfdedbpmfmaaGreat

namespace Go.Proofs.YtabmfdedbpmfmaaGreat
open Go.RowKit Go.Shelf
set_option linter.unusedVariables false

def opA (k : Nat) : Array Value := #[.string (ofL (sgn k)), fnV (rdF k), fnV (hoF k), .bool (opB k)]
theorem fn_of {f : Nat} (h : f ≠ 0) : fnV f = .func (.func f) #[] #[] := if_neg h

set_option maxRecDepth 100000 in
set_option maxHeartbeats 4000000 in
theorem readOperator_any (s : ByteArray) (a : Nat) (w : World) (hs : s.size ≤ 256) (ha : a ≤ s.size) :
    Calls Tryz.prog 115 #[.string s, .int .i64 (a : Int)] w fun e w' => e = .returned (.tuple #[.agg (opA (opGo (s.data.toList.drop a) 8).1),
      .int .i64 ((if (opGo (s.data.toList.drop a) 8).1 = 8 then a + (opGo (s.data.toList.drop a) 8).2 else a + (sgn (opGo (s.data.toList.drop a) 8).1).length : Nat) : Int),
      .int .i64 (if (opGo (s.data.toList.drop a) 8).1 = 8 then misL s.size (a + (opGo (s.data.toList.drop a) 8).2) else 0)]) ∧ Below w.heap.size w w' := by
  have CM := hide (fun (k : Nat) (hk : (ofL (sgn k)).size ≤ 256) W => (by
    have := common_any (s.extract a s.size) (ofL (sgn k)) W (by rw [ByteArray.size_extract]; omega) hk
    rw [extract_end, ofL_data, ofL_data] at this
    rw [extract_end]
    exact this : Calls Tryz.prog 135 #[.string (s.extract a s.size), .string (ofL (sgn k))] W fun e w' => e = .returned (.int .i64 (comL (s.data.toList.drop a) (sgn k) : Int)) ∧ ∃ m, w' = W.drewN m))
  have MF := hide (fun m W => Misfit_any s m W)
  have hll : (s.data.toList.drop a).length = s.size - a := by rw [List.length_drop, len_data]
  generalize s.data.toList.drop a = l at *
  generalize hTV : Value.tuple #[.agg (opA (opGo l 8).1), _, _] = TV
  have HTV := hide hTV
  clear hTV
  have hA : (0 : Int) ≤ (a : Int) := Int.natCast_nonneg _
  have hB : (a : Int) ≤ (s.size : Int) := by omega
  go_enter Tryz.func115, Tryz.ntmps115
  go_wp2_with fail
  refine (operators_any _).mono ?_
  rintro e w1 ⟨rfl, rfl⟩
  have W0 := OW.start w
  generalize ((w.alloc _).alloc _).alloc _ = V0 at *
  have W0 := hide W0
  try dsimp only
  go_wp2_with fail
  go_loopw [8, 15] (fun y8 y15 wr => ∃ k : Nat, k ≤ 8 ∧ y15 = .int .i64 k ∧ y8 = .int .i64 ((a + (opGo l k).2 : Nat) : Int) ∧ OW w wr (opGo l k).1) (fun _ y15 _ => 8 - (intOf y15).toNat)
  case atStart => exact ⟨0, by omega, rfl, by simp [opGo], W0.out⟩
  case round =>
    obtain ⟨k, hk, rfl, rfl, hW⟩ := hrel
    by_cases hlt : k < 8
    · have hlt' : (k : Int) < 8 := by omega
      obtain ⟨o1, o2, o3, o4, o5, o6⟩ := op_cells k hlt
      have hf1 := fn_of o5
      have hf2 := fn_of o6
      rw [hf1] at o2
      rw [hf2] at o3
      have c0 := cell_at (k * 4) hW.row o1
      have c1 := cell_at (k * 4 + 1) hW.row o2
      have c2 := cell_at (k * 4 + 2) hW.row o3
      have c3 := cell_at (k * 4 + 3) hW.row o4
      have HN : Hid (opGo l (k + 1) = opStep l (opGo l k) k) := rfl
      have HLE := hide (opGo_le l k (by omega))
      have hjle := HLE.out.2.2.2
      generalize opGo l k = x at *
      obtain ⟨j, m⟩ := x
      have HS := hide hW
      clear o1 o2 o3 o4 hW
      dsimp only at HS HN HLE hjle ⊢
      have hB1 := hide (HS.out.below ((Below.refl _ wr).alloc (Nat.le_refl _) (.cells #[.string (ofL (sgn k)), .func (.func (rdF k)) #[] #[], .func (.func (hoF k)) #[] #[], .bool (opB k)] 57)))
      have n0 := World.alloc_heap_new wr (.cells #[.string (ofL (sgn k)), .func (.func (rdF k)) #[] #[], .func (.func (hoF k)) #[] #[], .bool (opB k)] 57)
      have hsk : (ofL (sgn k)).size = (sgn k).length := ofL_size _
      have hsj : (ofL (sgn j)).size = (sgn j).length := ofL_size _
      have hk3 := sgn_len k
      have CY := hide (CM.out k (by omega))
      have hcl := (comL_le l (sgn k)).2
      have hcl2 := (comL_le l (sgn k)).1
      unfold opStep at HN
      dsimp only at HN
      generalize comL l (sgn k) = c at *
      have HSK := hide hsk
      have HSJ := hide hsj
      have HF1 := hide hf1
      have HF2 := hide hf2
      have HO5 := hide o5
      have HO6 := hide o6
      have hac : a + c ≤ 256 := by omega
      clear hsk hsj hk3 hf1 hf2 o5 o6 hcl2 hjle
      by_cases h1 : c = (sgn k).length
      · have q1 : ((c : Int) == ((ofL (sgn k)).size : Int)) = true := by rw [HSK.out, h1]; simp
        by_cases h2 : (sgn j).length < c
        · have q2 : (ofL (sgn j)).size < c := by rw [HSJ.out]; exact h2
          have HN2 : Hid (opGo l (k + 1) = (k, max m c)) := hide (by rw [HN.out, if_pos ⟨h1, h2⟩])
          clear h1 h2 HN
          go_wp2_with fail
          generalize wr.alloc _ = V at *
          obtain ⟨g0, g1, g2, g3, g4, g5, g6, g7⟩ := hB1.out.seen
          have v0 := cell_at 0 n0 rfl
          have v1 := cell_at 1 n0 rfl
          have v2 := cell_at 2 n0 rfl
          have v3 := cell_at 3 n0 rfl
          go_quiet ((go_at_call 135; exact Calls.quiet_of (CY.out _)))
          have HPUT := hide (fun n => (hB1.out.below (below_drewN _ _ n)).put k)
          go_wp2_with fail
          go_roundw
          case rel => exact ⟨k + 1, by omega, by go_num, by rw [HN2.out]; congr 1; first | omega | (split <;> omega), by rw [HN2.out]; have := HPUT.out nq; rw [HF1.out, HF2.out] at this; exact this⟩
          case measure => simp [intOf]; omega
        · have q2 : ¬ (ofL (sgn j)).size < c := by rw [HSJ.out]; exact h2
          have HN2 : Hid (opGo l (k + 1) = (j, max m c)) := hide (by rw [HN.out, if_neg (fun h => h2 h.2)])
          clear h1 h2 HN
          go_wp2_with fail
          generalize wr.alloc _ = V at *
          obtain ⟨g0, g1, g2, g3, g4, g5, g6, g7⟩ := hB1.out.seen
          have v0 := cell_at 0 n0 rfl
          have v1 := cell_at 1 n0 rfl
          have v2 := cell_at 2 n0 rfl
          have v3 := cell_at 3 n0 rfl
          go_quiet ((go_at_call 135; exact Calls.quiet_of (CY.out _)))
          go_wp2_with fail
          go_roundw
          case rel => exact ⟨k + 1, by omega, by go_num, by rw [HN2.out]; congr 1; first | omega | (split <;> omega), by rw [HN2.out]; exact hB1.out.below (below_drewN _ _ _)⟩
          case measure => simp [intOf]; omega
      · have q1 : ((c : Int) == ((ofL (sgn k)).size : Int)) = false := by rw [HSK.out]; simp; omega
        have HN2 : Hid (opGo l (k + 1) = (j, max m c)) := hide (by rw [HN.out, if_neg (fun h => h1 h.1)])
        clear h1 HN
        go_wp2_with fail
        generalize wr.alloc _ = V at *
        obtain ⟨g0, g1, g2, g3, g4, g5, g6, g7⟩ := hB1.out.seen
        have v0 := cell_at 0 n0 rfl
        have v1 := cell_at 1 n0 rfl
        have v2 := cell_at 2 n0 rfl
        have v3 := cell_at 3 n0 rfl
        go_quiet ((go_at_call 135; exact Calls.quiet_of (CY.out _)))
        go_wp2_with fail
        go_roundw
        case rel => exact ⟨k + 1, by omega, by go_num, by rw [HN2.out]; congr 1; first | omega | (split <;> omega), by rw [HN2.out]; exact hB1.out.below (below_drewN _ _ _)⟩
        case measure => simp [intOf]; omega
    · obtain rfl : k = 8 := by omega
      have HLE := hide (opGo_le l 8 (by omega))
      obtain ⟨g0, g1, g2, g3, g4, g5, g6, g7⟩ := hW.seen
      obtain ⟨p0, p1, p2, p3, p4, p5, p6, p7⟩ := hW.res4
      have HS := hide hW
      generalize opGo l 8 = x at *
      obtain ⟨j, m⟩ := x
      dsimp only at *
      clear hW
      by_cases hj : j = 8
      · subst hj
        have HX := hide HS.out.res
        clear g1 g2 g3 g4 g5 g6 g7
        change _ = some (Value.string ⟨#[]⟩) at g0
        have MM := hide (MF.out (a + m))
        go_wp2_with fail
        refine (MM.out _).mono ?_
        rintro e w2 ⟨rfl, hw2⟩
        rw [hw2]
        clear hw2 w2
        go_wp2_with fail
        exact fin115 _ _ w.heap.size ⟨#[]⟩ .nilFunc .nilFunc false _ _ rfl rfl rfl (put4 _ _ _ _ HX.out) ⟨by rw [← HTV.out]; rfl, below4 _ _ _ _ HS.out.bel (Nat.le_refl _)⟩
      · have hj8 : j < 8 := by have := HLE.out.1; omega
        obtain ⟨_, _, _, _, o5, o6⟩ := op_cells j hj8
        have hne : (ofL (sgn j)).toList.isEmpty = false := by
          rw [toL, ofL_data]
          match j, hj8 with
          | 0, _ => rfl
          | 1, _ => rfl
          | 2, _ => rfl
          | 3, _ => rfl
          | 4, _ => rfl
          | 5, _ => rfl
          | 6, _ => rfl
          | 7, _ => rfl
        have HSJ := hide (ofL_size (sgn j))
        have hs3 : (ofL (sgn j)).size ≤ 3 := by rw [ofL_size]; exact sgn_len j
        rw [fn_of o5] at g1
        rw [fn_of o6] at g2
        have HE : Hid (Value.tuple #[.agg #[.string (ofL (sgn j)), .func (.func (rdF j)) #[] #[], .func (.func (hoF j)) #[] #[], .bool (opB j)], .int .i64 ((a + (sgn j).length : Nat) : Int), .int .i64 0] = TV) := hide (by rw [← HTV.out, if_neg hj, if_neg hj]; unfold opA; rw [fn_of o5, fn_of o6])
        have HX := hide HS.out.res
        clear o5 o6 hj g4 g5 g6 g7
        go_wp2_with fail
        go_region
        all_goals
          go_wp2_with fail
          refine fin115 _ _ w.heap.size (ofL (sgn j)) (.func (.func (rdF j)) #[] #[]) (.func (.func (hoF j)) #[] #[]) (opB j) _ _ rfl rfl rfl (put4 _ _ _ _ HX.out) ⟨?_, (below4 _ _ _ _ HS.out.bel (Nat.le_refl _)).drew⟩
          rw [← HE.out]
          have h9 : ((a : Int) + ((ofL (sgn j)).size : Int)) = ((a + (sgn j).length : Nat) : Int) := by rw [HSJ.out]; omega
          first | rw [h9] | simp only [HSJ.out, Int.natCast_add]

end Go.Proofs.YtabmfdedbpmfmaaGreat

namespace Go.Proofs.YtabmfdedbpmfmaaGreat
open Go.RowKit Go.Shelf
set_option linter.unusedVariables false

def hasB (l : List UInt8) : Bool := decide (Lib.indexByte l 33 ≠ -1)
def cutB (l : List UInt8) : List UInt8 := l.takeWhile (fun c => c != 33)
theorem cutB_none : ∀ l : List UInt8, Lib.indexByte l 33 = -1 → cutB l = l
  | [], _ => rfl
  | c :: r, h => by
    unfold Lib.indexByte at h
    by_cases hc : (c == 33) = true
    · rw [if_pos hc] at h; cases h
    · rw [if_neg hc] at h
      by_cases hi : (Lib.indexByte r 33 == -1) = true
      · have := cutB_none r (by simpa using hi)
        unfold cutB at *
        rw [List.takeWhile_cons, if_pos (by simpa [bne] using hc), this]
      · rw [if_neg hi] at h
        have := Lib.indexByte_ge r 33
        have hi' : ¬ Lib.indexByte r 33 = -1 := by simpa using hi
        omega
theorem cutB_some : ∀ (l : List UInt8) (i : Nat), Lib.indexByte l 33 = i → cutB l = l.take i ∧ i < l.length
  | [], i, h => by have h' : (-1 : Int) = i := h; omega
  | c :: r, i, h => by
    unfold Lib.indexByte at h
    by_cases hc : (c == 33) = true
    · rw [if_pos hc] at h
      have : i = 0 := by omega
      subst this
      refine ⟨?_, by simp⟩
      unfold cutB
      rw [List.takeWhile_cons, if_neg (by simpa [bne] using hc)]
      rfl
    · rw [if_neg hc] at h
      by_cases hi : (Lib.indexByte r 33 == -1) = true
      · rw [if_pos hi] at h; omega
      · rw [if_neg hi] at h
        have hi' : ¬ Lib.indexByte r 33 = -1 := by simpa using hi
        have hge := Lib.indexByte_ge r 33
        obtain ⟨j, hj⟩ := Int.eq_ofNat_of_zero_le (show 0 ≤ Lib.indexByte r 33 by omega)
        obtain ⟨h1, h2⟩ := cutB_some r j hj
        have : i = j + 1 := by omega
        subst this
        refine ⟨?_, by simp; omega⟩
        unfold cutB at *
        rw [List.takeWhile_cons, if_pos (by simpa [bne] using hc), h1]
        rfl

set_option maxRecDepth 100000 in
set_option maxHeartbeats 400000 in
theorem IndexByte_any (s : ByteArray) (c : Int) (w : World) :
    Calls Tryz.prog 179 #[.string s, .int .u8 c] w fun e w' => e = .returned (.int .i64 (Lib.indexByte s.data.toList c.toNat.toUInt8)) ∧ w' = w := by
  go_enter Tryz.func179, Tryz.ntmps179
  go_wp2
  rw [run_callFunc_extern Tryz.func190 (by kernel_rfl) (by kernel_rfl) (by kernel_rfl) (e := Extern.BytealgIndexByte.indexByte) (by kernel_rfl), Lib.run_indexByteString]
  simp only [Result.andThen]
  rw [Oper.upon_value]
  go_wp2
  go_ret
  exact ⟨rfl, rfl⟩

set_option maxRecDepth 100000 in
set_option maxHeartbeats 400000 in
theorem Index_bang (s : ByteArray) (w : World) :
    Calls Tryz.prog 178 #[.string s, .string ⟨#[33]⟩] w fun e w' => e = .returned (.int .i64 (Lib.indexByte s.data.toList 33)) ∧ w' = w := by
  cases h : ([33] == s.toList)
  · go_enter Tryz.func178, Tryz.ntmps178
    go_wp2_with fail
    refine (IndexByte_any _ _ _).mono ?_
    rintro e w' ⟨rfl, rfl⟩
    go_wp2_with fail
    go_ret
    exact ⟨rfl, rfl⟩
  · have e : s.data.toList = [33] := by rw [← toL]; exact (by simpa using h : [33] = s.toList).symm
    have HE := hide e
    clear e
    go_enter Tryz.func178, Tryz.ntmps178
    go_wp2_with fail
    go_ret
    exact ⟨ret_i (by rw [HE.out]; rfl), rfl⟩

set_option maxRecDepth 100000 in
set_option maxHeartbeats 400000 in
theorem Cut_bang (s : ByteArray) (w : World) (hs : s.size ≤ 64) :
    Calls Tryz.prog 162 #[.string s, .string ⟨#[33]⟩] w fun e w' => (∃ u, e = .returned (.tuple #[.string (ofL (cutB s.data.toList)), u, .bool (hasB s.data.toList)])) ∧ Below w.heap.size w w' := by
  by_cases h : Lib.indexByte s.data.toList 33 = -1
  · have HC := hide (cutB_none _ h)
    have HF : Hid (hasB s.data.toList = false) := by show _ = _; unfold hasB; rw [h]; rfl
    have HI := hide (show ∀ w, _ from fun w => Index_bang s w)
    go_enter Tryz.func162, Tryz.ntmps162
    go_wp2_with fail
    refine (HI.out _).mono ?_
    rintro e w' ⟨rfl, rfl⟩
    rw [h]
    go_wp2_with fail
    go_ret3
    exact ⟨⟨_, by rw [HC.out, ofL_self, HF.out]; rfl⟩, Below.refl _ _⟩
  · have hge := Lib.indexByte_ge s.data.toList 33
    obtain ⟨i, hi⟩ := Int.eq_ofNat_of_zero_le (show 0 ≤ Lib.indexByte s.data.toList 33 by omega)
    obtain ⟨hc, hlt⟩ := cutB_some _ i hi
    rw [len_data] at hlt
    have HC : Hid (ofL (cutB s.data.toList) = s.extract 0 i) := by show _ = _; rw [hc, extract_ofL]; simp
    have HI := hide (show ∀ w, _ from fun w => Index_bang s w)
    have HF : Hid (hasB s.data.toList = true) := by show _ = _; unfold hasB; simpa using h
    clear h hge hc
    have hlt' : (i : Int) < (s.size : Int) := by omega
    have h0 : (0 : Int) ≤ (i : Int) := by omega
    go_enter Tryz.func162, Tryz.ntmps162
    go_wp2_with fail
    refine (HI.out _).mono ?_
    rintro e w' ⟨rfl, rfl⟩
    rw [hi]
    go_wp2_with fail
    go_quiet (fail)
    go_wp2_with fail
    go_ret3
    exact ⟨⟨_, by rw [HC.out, HF.out]; rfl⟩, below_drewN _ _ _⟩

set_option maxHeartbeats 400000 in
theorem CutS_bang (s : ByteArray) (w : World) (hs : s.size ≤ 64) :
    Calls Tryz.prog 141 #[.string s, .string ⟨#[33]⟩] w fun e w' => (∃ u, e = .returned (.tuple #[.string (ofL (cutB s.data.toList)), u, .bool (hasB s.data.toList)])) ∧ Below w.heap.size w w' := by
  go_enter Tryz.func141, Tryz.ntmps141
  go_wp2_with fail
  refine (Cut_bang s _ hs).mono ?_
  rintro e w1 ⟨⟨u, rfl⟩, b1⟩
  go_wp2_with fail
  go_ret3
  exact ⟨⟨u, rfl⟩, b1⟩


theorem IndexByteS_any (s : ByteArray) (c : Int) (w : World) :
    Calls Tryz.prog 164 #[.string s, .int .u8 c] w fun e w' => e = .returned (.int .i64 (Lib.indexByte s.data.toList c.toNat.toUInt8)) ∧ w' = w := by
  go_enter Tryz.func164, Tryz.ntmps164
  go_wp2_with fail
  refine (IndexByte_any _ _ _).mono ?_
  rintro e w' ⟨rfl, rfl⟩
  go_wp2_with fail
  go_ret
  exact ⟨rfl, rfl⟩

def pfxB (s p : List UInt8) : Bool := p.isPrefixOf s
theorem pfx_take (s p : List UInt8) (h : p.length ≤ s.length) : pfxB s p = decide (s.take p.length = p) := by
  unfold pfxB
  rw [Bool.eq_iff_iff, List.isPrefixOf_iff_prefix, decide_eq_true_eq]
  exact ⟨fun h => (List.prefix_iff_eq_take.1 h).symm, fun h => List.prefix_iff_eq_take.2 h.symm⟩
theorem pfx_long (s p : List UInt8) (h : ¬ p.length ≤ s.length) : pfxB s p = false := by
  unfold pfxB
  rw [Bool.eq_false_iff]
  intro h'
  exact h (List.isPrefixOf_iff_prefix.1 h').length_le
set_option maxHeartbeats 400000 in
theorem HasPrefixL_any (s p : ByteArray) (w : World) (hs : s.size ≤ maxLen) (hp : p.size ≤ maxLen) :
    Calls Tryz.prog 161 #[.string s, .string p] w fun e w' => e = .returned (.bool (pfxB s.data.toList p.data.toList)) ∧ w' = w := by
  unfold maxLen at hs hp
  by_cases hl : p.size ≤ s.size
  · have HP := hide (pfx_take s.data.toList p.data.toList (by rw [len_data, len_data]; exact hl))
    have h1 : (p.size : Int) ≤ (s.size : Int) := by omega
    have h0 : (0 : Int) ≤ (p.size : Int) := by omega
    generalize pfxB s.data.toList p.data.toList = D at *
    have HE : Hid (s.extract 0 p.size = p ↔ D = true) := by
      show _ ↔ _
      rw [HP.out, decide_eq_true_eq, len_data]
      constructor
      · intro h
        have := congrArg (fun b : ByteArray => b.data.toList) h
        rw [extract_ofL] at this
        simpa [ofL] using this
      · intro h
        apply ba_ext
        rw [extract_ofL, ofL_data]
        simpa using h
    by_cases he : s.extract 0 p.size = p
    · have hD := HE.out.1 he
      subst hD
      go_enter Tryz.func161, Tryz.ntmps161
      go_wp2_with fail
      go_ret
      exact ⟨ret_b (by simp), rfl⟩
    · have hD : D = false := by
        cases hd : D
        · rfl
        · exact absurd (HE.out.2 hd) he
      subst hD
      go_enter Tryz.func161, Tryz.ntmps161
      go_wp2_with fail
      go_ret
      refine ⟨ret_b ?_, rfl⟩
      rw [toL, toL, beq_eq_false_iff_ne]
      exact fun h => he (ba_ext h)
  · have HP := hide (pfx_long s.data.toList p.data.toList (by rw [len_data, len_data]; exact hl))
    have h1 : ¬ (p.size : Int) ≤ (s.size : Int) := by omega
    go_enter Tryz.func161, Tryz.ntmps161
    go_wp2_with fail
    go_ret
    exact ⟨by rw [HP.out]; rfl, rfl⟩

theorem HasPrefix_any (s p : ByteArray) (w : World) (hs : s.size ≤ maxLen) (hp : p.size ≤ maxLen) :
    Calls Tryz.prog 139 #[.string s, .string p] w fun e w' => e = .returned (.bool (pfxB s.data.toList p.data.toList)) ∧ w' = w := by
  go_enter Tryz.func139, Tryz.ntmps139
  go_wp2_with fail
  refine (HasPrefixL_any _ _ _ hs hp).mono ?_
  rintro e w' ⟨rfl, rfl⟩
  go_wp2_with fail
  go_ret
  exact ⟨rfl, rfl⟩

theorem mark_at (s : ByteArray) (a : Nat) (h : a < s.size) : markL s.data.toList a = if isMark s[a] then a + 1 else a := by
  unfold markL
  rw [List.getElem?_eq_getElem (by rw [len_data]; exact h)]
  rfl
theorem mark_end (s : ByteArray) (a : Nat) (h : ¬ a < s.size) : markL s.data.toList a = a := by
  unfold markL
  rw [List.getElem?_eq_none (by rw [len_data]; omega)]
  rfl
theorem mark_le (l : List UInt8) (a : Nat) (h : a ≤ l.length) : a ≤ markL l a ∧ markL l a ≤ l.length ∧ markL l a ≤ a + 1 := by
  unfold markL
  by_cases hl : a < l.length
  · split <;> omega
  · rw [List.getElem?_eq_none (by omega)]
    simp
    omega
theorem mark_byte (c : UInt8) : (0 ≤ Lib.indexByte [45, 95, 46] c) ↔ isMark c = true := by
  unfold isMark Lib.indexByte
  by_cases h1 : (45 == c) = true
  · obtain rfl : 45 = c := by simpa using h1
    simp
  · rw [if_neg h1]
    unfold Lib.indexByte
    by_cases h2 : (95 == c) = true
    · obtain rfl : 95 = c := by simpa using h2
      simp
    · rw [if_neg h2]
      unfold Lib.indexByte
      by_cases h3 : (46 == c) = true
      · obtain rfl : 46 = c := by simpa using h3
        simp
      · rw [if_neg h3]
        have e1 : (c == 45) = false := by rw [beq_eq_false_iff_ne]; rintro rfl; exact h1 rfl
        have e2 : (c == 95) = false := by rw [beq_eq_false_iff_ne]; rintro rfl; exact h2 rfl
        have e3 : (c == 46) = false := by rw [beq_eq_false_iff_ne]; rintro rfl; exact h3 rfl
        rw [e1, e2, e3]
        simp [Lib.indexByte]

set_option maxHeartbeats 1000000 in
theorem behindMark_any (B : Nat) (s : ByteArray) (a : Nat) (w : World) (h : RdAt w B s a) (hs : s.size ≤ 64) :
    Calls Tryz.prog 165 #[.pointer (some ⟨B, 0, none⟩)] w fun r w' => r = .returned (.int .i64 (markL s.data.toList a : Int)) ∧ ∃ n, w' = w.drewN n := by
  obtain ⟨c0, c1, f1⟩ := h.seen
  clear h
  by_cases hl : a < s.size
  · have hI := fun n => IndexByteS_any ⟨#[45, 95, 46]⟩ (s[a].toNat : Int) (w.drewN n)
    have hc : ((s[a].toNat : Int)).toNat.toUInt8 = s[a] := by simp
    rw [hc] at hI
    have HM := hide (mark_at s a hl)
    have hB : (0 ≤ Lib.indexByte (⟨#[45, 95, 46]⟩ : ByteArray).data.toList s[a]) ↔ isMark s[a] = true := mark_byte s[a]
    have HI := hide hI
    clear hI hc
    generalize Lib.indexByte (⟨#[45, 95, 46]⟩ : ByteArray).data.toList s[a] = x at *
    cases hm : isMark s[a]
    · rw [hm] at hB HM
      have hn : ¬ 0 ≤ x := fun h => by have := hB.1 h; cases this
      clear hB hm
      go_enter Tryz.func165, Tryz.ntmps165
      go_wp2_with fail
      go_quiet ((go_at_call 164; exact Calls.quiet_of_same (HI.out _)))
      go_wp2_with fail
      go_ret
      exact ⟨by rw [HM.out, if_neg (by simp)]; rfl, _, rfl⟩
    · rw [hm] at hB HM
      have hn : 0 ≤ x := hB.2 rfl
      clear hB hm
      go_enter Tryz.func165, Tryz.ntmps165
      go_wp2_with fail
      go_quiet ((go_at_call 164; exact Calls.quiet_of_same (HI.out _)))
      go_wp2_with fail
      go_ret
      exact ⟨ret_i (by rw [HM.out]; simp), _, rfl⟩
  · have HM := hide (mark_end s a hl)
    go_enter Tryz.func165, Tryz.ntmps165
    go_wp2_with fail
    go_quiet (fail)
    go_wp2_with fail
    go_ret
    exact ⟨by rw [HM.out]; rfl, _, rfl⟩

def digE (l : List UInt8) (a : Nat) : Nat := markL l a + runL 1 (l.drop (markL l a))
def digT (l : List UInt8) (a : Nat) : List UInt8 := seg l (markL l a) (digE l a)
def digP (l : List UInt8) (a : Nat) : Nat := if markL l a < digE l a then digE l a else a

set_option maxHeartbeats 1000000 in
theorem digits_any (B : Nat) (s : ByteArray) (a : Nat) (w : World) (h : RdAt w B s a) (ha : a ≤ s.size) (hs : s.size ≤ 64) :
    Calls Tryz.prog 145 #[.pointer (some ⟨B, 0, none⟩)] w fun r w' => r = .returned (.string (ofL (digT s.data.toList a))) ∧ RdAt w' B s (digP s.data.toList a) ∧ Turn B w w' := by
  have M1 := hide (behindMark_any B s a w h hs)
  have H := hide h
  have hm := mark_le s.data.toList a (by rw [len_data]; exact ha)
  rw [len_data] at hm
  have hr := runL_drop_le 1 s (markL s.data.toList a) hm.2.1
  have HR := hide (runI_in s (markL s.data.toList a) 1 hm.2.1)
  have HE : Hid (digE s.data.toList a = markL s.data.toList a + runL 1 (s.data.toList.drop (markL s.data.toList a))) := rfl
  have HT : Hid (ofL (digT s.data.toList a) = s.extract (markL s.data.toList a) (digE s.data.toList a)) := by show _ = _; rw [extract_seg]; rfl
  have HP : Hid (digP s.data.toList a = if markL s.data.toList a < digE s.data.toList a then digE s.data.toList a else a) := rfl
  generalize digP s.data.toList a = P at *
  generalize ofL (digT s.data.toList a) = T at *
  generalize digE s.data.toList a = E at *
  generalize markL s.data.toList a = M at *
  have hE : M ≤ E ∧ E ≤ s.size := by have := HE.out; omega
  have hRI : runI s.data.toList (M : Int) 1 = (E : Int) := by rw [HR.out, HE.out]; simp
  have R1 := hide (fun W => Run_any s (M : Int) 1 W (by unfold maxLen; omega))
  rw [hRI] at R1
  clear hRI hr HR HE hm h
  obtain ⟨hE1, hE2⟩ := hE
  have i0 : (0 : Int) ≤ (M : Int) := Int.natCast_nonneg _
  have i1 : (M : Int) ≤ (E : Int) := by omega
  have i2 : (E : Int) ≤ (s.size : Int) := by omega
  go_enter Tryz.func145, Tryz.ntmps145
  go_wp2_with fail
  refine M1.out.mono ?_
  rintro r w1 ⟨rfl, n1, rfl⟩
  obtain ⟨c0, c1, f1⟩ := H.out.seen
  go_wp2_with fail
  refine (R1.out _).mono ?_
  rintro r w2 ⟨rfl, rfl⟩
  by_cases hlt : M < E
  · have hlt' : (M : Int) < (E : Int) := by omega
    have hP := HP.out.trans (if_pos hlt)
    subst hP
    go_wp2_with fail
    go_ret
    exact ⟨ret_s HT.out.symm, (H.out.drewN _).place _, (Turn.drewN _ _ _).trans (Turn.set _ _ _ _)⟩
  · have hlt' : ¬ (M : Int) < (E : Int) := by omega
    have hP := HP.out.trans (if_neg hlt)
    subst hP
    go_wp2_with fail
    go_ret
    exact ⟨ret_s HT.out.symm, H.out.drewN _, Turn.drewN _ _ _⟩

end Go.Proofs.YtabmfdedbpmfmaaGreat
