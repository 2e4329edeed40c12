/-
  Walks: the document's reader of requirements: blanks, a byte, a fault.
-/
import Derived.Test.YtpedljmpobhimaaGreatDoorHr
import Derived.BigQuiet
import Derived.Deep.QuietTactic
import Derived.Test.YtpedljmpobhimaaGreatDoorHb
namespace Go.Proofs.YtpedljmpobhimaaGreatDoor
open Go.RowKit Go.Shelf
set_option linter.unusedVariables false

set_option maxHeartbeats 400000 in
theorem RRun_any (s : ByteArray) (n k : Int) (w : World) (hs : s.size ≤ maxLen) :
    Calls Tryz.prog 50 #[.string s, .int .i64 n, .int .i64 k] w fun e w' => e = .returned (.int .i64 (runI s.data.toList n k)) ∧ w' = w := by
  unfold maxLen at hs
  by_cases h0 : 0 ≤ n
  · by_cases h1 : n ≤ (s.size : Int)
    · obtain ⟨m, rfl⟩ := Int.eq_ofNat_of_zero_le h0
      have hm : m ≤ s.size := by omega
      have HI : Hid (runI s.data.toList m k = m + (runL k (s.data.toList.drop m) : Int)) := runI_in s m k hm
      have d1 : decide ((m : Int) < 0) = false := by simp
      have d2 : decide (s.size < m) = false := by simp; omega
      go_enter Tryz.func50, Tryz.ntmps50
      go_wp2_with fail
      go_loop [1] (fun i => ∃ j : Nat, m + j ≤ s.size ∧ i = .int .i64 (m + j : Nat) ∧ Hid (runL k (s.data.toList.drop m) = j + runL k (s.data.toList.drop (m + j)))) (fun i => s.size - (intOf i).toNat)
      case atStart => exact ⟨0, by omega, rfl, by simp [Hid]⟩
      case round =>
        obtain ⟨j, hj, rfl, HR⟩ := hrel
        by_cases hlt : m + j < s.size
        · by_cases hc : isC (s[m + j].toNat : Int) k = true
          · have H1 : Hid _ := runL_hit k s (m + j) hlt hc
            go_wp2_with (go_at_call 74; refine (RIs_any _ _ _).mono ?_; rintro e w' ⟨rfl, rfl⟩)
            go_round
            case rel => exact ⟨j + 1, by omega, by go_num, by have a := HR.out; have b := H1.out; show _ = _; rw [Nat.add_assoc] at b; omega⟩
            case measure => simp [intOf]; omega
          · have hc' : isC (s[m + j].toNat : Int) k = false := by simpa using hc
            have H1 : Hid _ := runL_miss k s (m + j) hlt hc'
            go_wp2_with (go_at_call 74; refine (RIs_any _ _ _).mono ?_; rintro e w' ⟨rfl, rfl⟩)
            go_ret
            exact ⟨ret_i (by have a := HR.out; have b := H1.out; rw [HI.out]; omega), rfl⟩
        · have H1 : Hid _ := runL_end k s (m + j) (by omega)
          go_wp2_with fail
          go_ret
          exact ⟨ret_i (by have a := HR.out; have b := H1.out; rw [HI.out]; omega), rfl⟩
    · have HI : Hid _ := runI_out s n k (fun h => h1 h.2)
      go_enter Tryz.func50, Tryz.ntmps50
      go_wp2_with fail
      go_ret
      exact ⟨ret_i HI.out.symm, rfl⟩
  · have HI : Hid _ := runI_out s n k (fun h => h0 h.1)
    go_enter Tryz.func50, Tryz.ntmps50
    go_wp2_with fail
    go_ret
    exact ⟨ret_i HI.out.symm, rfl⟩


/-- The document's reader in its block. -/
def DrAt (W : World) (B : Nat) (s : ByteArray) (a : Nat) (e p : Int) : Prop := W.heap[B]? = some (.cells #[.string s, .int .i64 (a : Int), .int .i64 e, .int .i64 p] 48 (0, 0))
theorem DrAt.seen {W : World} {B : Nat} {s : ByteArray} {a : Nat} {e p : Int} (h : DrAt W B s a e p) : W.cell? ⟨B, 0, none⟩ = some (.string s) ∧ W.cell? ⟨B, 1, none⟩ = some (.int .i64 (a : Int)) ∧ W.cell? ⟨B, 2, none⟩ = some (.int .i64 e) ∧ W.cell? ⟨B, 3, none⟩ = some (.int .i64 p) ∧ W.frozen? ⟨B, 1, none⟩ = false ∧ W.frozen? ⟨B, 2, none⟩ = false ∧ W.frozen? ⟨B, 3, none⟩ = false :=
  ⟨cell_at 0 h rfl, cell_at 1 h rfl, cell_at 2 h rfl, cell_at 3 h rfl, one_free 1 h, one_free 2 h, one_free 3 h⟩
theorem DrAt.lt {W : World} {B : Nat} {s : ByteArray} {a : Nat} {e p : Int} (h : DrAt W B s a e p) : B < W.heap.size := (Array.getElem?_eq_some_iff.1 h).1
theorem DrAt.drewN {W : World} {B : Nat} {s : ByteArray} {a : Nat} {e p : Int} (h : DrAt W B s a e p) (n : Nat) : DrAt (W.drewN n) B s a e p := by unfold DrAt; rw [heap_drewN]; exact h
theorem DrAt.place {W : World} {B : Nat} {s : ByteArray} {a : Nat} {e p : Int} (h : DrAt W B s a e p) (x : Nat) : DrAt (W.setCell ⟨B, 1, none⟩ (.int .i64 (x : Int))) B s x e p := set_lies 1 (.int .i64 (x : Int)) h
theorem DrAt.fault {W : World} {B : Nat} {s : ByteArray} {a : Nat} {e p : Int} (h : DrAt W B s a e p) (x y : Int) : DrAt ((W.setCell ⟨B, 2, none⟩ (.int .i64 x)).setCell ⟨B, 3, none⟩ (.int .i64 y)) B s a x y := by
  have h1 : DrAt (W.setCell ⟨B, 2, none⟩ (.int .i64 x)) B s a x p := set_lies 2 (.int .i64 x) h
  exact set_lies 3 (.int .i64 y) h1
theorem DrAt.below {W W' : World} {B : Nat} {s : ByteArray} {a : Nat} {e p : Int} (h : DrAt W B s a e p) (hb : Below W.heap.size W W') : DrAt W' B s a e p := (hb.block B h.lt).trans h

/-- The first fault stays. -/
def fe (e x : Int) : Int := if e = 0 then x else e
def fp (e y p : Int) : Int := if e = 0 then y else p
theorem Rfail_any (B : Nat) (s : ByteArray) (a : Nat) (e p x y : Int) (w : World) (h : DrAt w B s a e p) :
    Calls Tryz.prog 52 #[.pointer (some ⟨B, 0, none⟩), .int .i64 x, .int .i64 y] w fun r w' => r = .returned (.tuple #[]) ∧ Turn B w w' ∧ DrAt w' B s a (fe e x) (fp e y p) := by
  obtain ⟨c0, c1, c2, c3, f1, f2, f3⟩ := h.seen
  have H := hide h
  clear h
  by_cases he : e = 0
  · subst he
    go_enter Tryz.func52, Tryz.ntmps52
    go_wp2_with fail
    go_end0
    exact ⟨rfl, (Turn.set B 2 w _).trans (Turn.set B 3 _ _), by rw [show fe 0 x = x from rfl, show fp 0 y p = y from rfl]; exact H.out.fault x y⟩
  · have hb : (e == 0) = false := by simpa using he
    go_enter Tryz.func52, Tryz.ntmps52
    go_wp2_with fail
    go_end0
    exact ⟨rfl, Turn.refl B w, by rw [show fe e x = e from if_neg he, show fp e y p = p from if_neg he]; exact H.out⟩

set_option maxRecDepth 100000 in
set_option maxHeartbeats 1000000 in
theorem Rblanks_any (B : Nat) (s : ByteArray) (a : Nat) (e p : Int) (w : World) (h : DrAt w B s a e p) (hs : s.size ≤ 256) (ha : a ≤ s.size) :
    Calls Tryz.prog 25 #[.pointer (some ⟨B, 0, none⟩)] w fun r w' => r = .returned (.tuple #[]) ∧ Turn B w w' ∧ DrAt w' B s (a + blN (s.data.toList.drop a)) e p := by
  obtain ⟨c0, c1, c2, c3, f1, f2, f3⟩ := h.seen
  have H := hide h
  have RR := fun W => RRun_any s (a : Int) 6 W (by unfold maxLen; omega)
  rw [runI_in s a 6 ha] at RR
  have RQ : Hid (∀ W, Calls Tryz.prog 50 #[.string s, .int .i64 (a : Int), .int .i64 6] W fun r w' => r = .returned (.int .i64 ((a + blN (s.data.toList.drop a) : Nat) : Int)) ∧ w' = W) := fun W => by have := RR W; unfold blN; simpa using this
  clear h RR
  generalize a + blN (s.data.toList.drop a) = b at *
  go_enter Tryz.func25, Tryz.ntmps25
  go_wp2_with fail
  go_region_with (go_at_call 50; refine (RQ.out _).mono ?_; rintro r w' ⟨rfl, rfl⟩)
  all_goals
    go_wp2_with fail
    go_end0
    exact ⟨rfl, (Turn.set B 1 w _).trans (Turn.ofBelow (below_drewN _ _ 1)), (H.out.place b).drewN 1⟩

set_option maxRecDepth 100000 in
set_option maxHeartbeats 1000000 in
theorem Ris_any (B : Nat) (s : ByteArray) (a : Nat) (e p : Int) (c : UInt8) (w : World) (h : DrAt w B s a e p) (hs : s.size ≤ 256) (ha : a ≤ s.size) :
    Calls Tryz.prog 26 #[.pointer (some ⟨B, 0, none⟩), .int .u8 (c.toNat : Int)] w fun r w' => r = .returned (.bool (hdIn [c] (s.data.toList.drop a))) ∧ ∃ n, w' = w.drewN n := by
  obtain ⟨c0, c1, c2, c3, f1, f2, f3⟩ := h.seen
  clear h
  by_cases hlt : a < s.size
  · have hX := hd_at s a c hlt
    have hd : decide ((a : Int) < (s.size : Int)) = true := by simp; omega
    generalize hdIn [c] (s.data.toList.drop a) = X at *
    have HX := hide hX
    clear hX
    go_enter Tryz.func26, Tryz.ntmps26
    go_wp2_with fail
    go_quiet (fail)
    go_wp2_with fail
    go_ret
    exact ⟨ret_b HX.out.symm, _, rfl⟩
  · have hX : hdIn [c] (s.data.toList.drop a) = false := by rw [drop_end s a (by omega)]; rfl
    have hd : decide ((a : Int) < (s.size : Int)) = false := by simp; omega
    rw [hX]
    clear hX
    go_enter Tryz.func26, Tryz.ntmps26
    go_wp2_with fail
    go_quiet (fail)
    go_wp2_with fail
    go_ret
    exact ⟨rfl, _, rfl⟩

set_option maxRecDepth 100000 in
set_option maxHeartbeats 1000000 in
theorem Rhere_any (B : Nat) (s : ByteArray) (a : Nat) (e p : Int) (w : World) (h : DrAt w B s a e p) (ha : a ≤ s.size) :
    Calls Tryz.prog 28 #[.pointer (some ⟨B, 0, none⟩)] w fun r w' => r = .returned (.tuple #[]) ∧ Turn B w w' ∧ DrAt w' B s a (fe e (misR (s.data.toList.drop a))) (fp e (a : Int) p) := by
  obtain ⟨c0, c1, c2, c3, f1, f2, f3⟩ := h.seen
  have H := hide h
  clear h
  by_cases hlt : a < s.size
  · have hM : misR (s.data.toList.drop a) = 10 := if_neg (by rw [drop_at s a hlt]; simp)
    have hd : ¬ (s.size : Int) ≤ (a : Int) := by omega
    rw [hM]
    clear hM
    go_enter Tryz.func28, Tryz.ntmps28
    go_wp2_with fail
    go_quiet (fail)
    have H2 := hide (H.out.drewN nq)
    have hT := hide (Turn.drewN B w nq)
    clear c0 c1 c2 c3 f1 f2 f3
    generalize w.drewN nq = W2 at *
    obtain ⟨c0, c1, c2, c3, f1, f2, f3⟩ := H2.out.seen
    have FA := hide (Rfail_any B s a e p 10 (a : Int) W2 H2.out)
    go_wp2_with fail
    refine FA.out.mono ?_
    rintro r w3 ⟨rfl, t3, d3⟩
    go_wp2_with fail
    go_end0
    exact ⟨rfl, hT.out.trans t3, d3⟩
  · have hM : misR (s.data.toList.drop a) = 11 := if_pos (drop_end s a (by omega))
    obtain rfl : a = s.size := by omega
    have hd : (s.size : Int) ≤ (s.size : Int) := by omega
    rw [hM]
    clear hM
    go_enter Tryz.func28, Tryz.ntmps28
    go_wp2_with fail
    go_quiet (fail)
    have H2 := hide (H.out.drewN nq)
    have hT := hide (Turn.drewN B w nq)
    clear c0 c1 c2 c3 f1 f2 f3
    generalize w.drewN nq = W2 at *
    obtain ⟨c0, c1, c2, c3, f1, f2, f3⟩ := H2.out.seen
    have FA := hide (Rfail_any B s s.size e p 11 (s.size : Int) W2 H2.out)
    go_wp2_with fail
    refine FA.out.mono ?_
    rintro r w3 ⟨rfl, t3, d3⟩
    go_wp2_with fail
    go_end0
    exact ⟨rfl, hT.out.trans t3, d3⟩

end Go.Proofs.YtpedljmpobhimaaGreatDoor

/-
  Walks: the document's reader of requirements: where a version ends.
-/
namespace Go.Proofs.YtpedljmpobhimaaGreatDoor
open Go.RowKit Go.Shelf
set_option linter.unusedVariables false

theorem inV_not (c : UInt8) : (!inV c) = (isC (c.toNat : Int) 6 || ((c.toNat : Int) == 44) || ((c.toNat : Int) == 91) || ((c.toNat : Int) == 93) || ((c.toNat : Int) == 40) || ((c.toNat : Int) == 41)) := by
  have e : ∀ d : UInt8, (c == d) = ((c.toNat : Int) == (d.toNat : Int)) := fun d => by
    rw [Bool.eq_iff_iff]
    simp only [beq_iff_eq]
    constructor
    · intro h; rw [h]
    · intro h; exact UInt8.toNat_inj.1 (by omega)
  unfold inV
  simp only [List.contains_cons, List.contains_nil, Bool.or_false]
  rw [e, e, e, e, e]
  cases isC (c.toNat : Int) 6 <;> simp [Bool.or_assoc]

set_option maxHeartbeats 1000000 in
theorem Rends_any (c : UInt8) (w : World) : Calls Tryz.prog 51 #[.int .u8 (c.toNat : Int)] w fun e w' => e = .returned (.bool (!inV c)) ∧ w' = w := by
  have HM := hide (inV_not c)
  have IS := hide (fun W => RIs_any (c.toNat : Int) 6 W)
  generalize inV c = V at *
  generalize isC (c.toNat : Int) 6 = C6 at *
  generalize (c.toNat : Int) = x at *
  have fin : ∀ b, Hid ((C6 || (x == 44) || (x == 91) || (x == 93) || (x == 40) || (x == 41)) = b) → Hid ((!V) = b) := fun b h => by show _ = _; rw [HM.out]; exact h.out
  have FIN := hide fin
  clear fin HM
  cases C6 with
  | true =>
    have H := FIN.out true (by show _ = _; rfl)
    go_enter Tryz.func51, Tryz.ntmps51
    go_wp2_with fail
    refine (IS.out _).mono ?_
    rintro e w' ⟨rfl, hw⟩
    rw [hw]
    go_wp2_with fail
    go_ret
    exact ⟨ret_b H.out.symm, rfl⟩
  | false =>
    cases h1 : (x == 44) <;> cases h2 : (x == 91) <;> cases h3 : (x == 93) <;> cases h4 : (x == 40) <;> cases h5 : (x == 41)
    all_goals
      have H := FIN.out _ (by show _ = _; rw [h1, h2, h3, h4, h5])
      go_enter Tryz.func51, Tryz.ntmps51
      go_wp2_with fail
      refine (IS.out _).mono ?_
      rintro e w' ⟨rfl, hw⟩
      rw [hw]
      go_wp2_with fail
      go_ret
      exact ⟨ret_b H.out.symm, rfl⟩

end Go.Proofs.YtpedljmpobhimaaGreatDoor

/-
  Plain laws: the document's own reader of requirements, and its word on which ones are sound; no program is named here.
-/
namespace Go.Proofs.YtpedljmpobhimaaGreatDoor
set_option linter.unusedVariables false

/-- How far the document's reader goes over a version with blanks around. -/
def vK (r : List UInt8) : Nat := blN r + (verAt r).length + blN (r.drop (blN r + (verAt r).length))
/-- Is what stands there no version? -/
def vBad (r : List UInt8) : Bool := decide (verAt r ≠ []) && !isVer (verAt r)
theorem rv_bad {r : List UInt8} (h : vBad r = true) : rvR r = ⟨19, [], blN r⟩ := by
  unfold vBad at h
  simp only [Bool.and_eq_true, decide_eq_true_eq, Bool.not_eq_true'] at h
  unfold rvR
  rw [if_pos h]
theorem rv_good {r : List UInt8} (h : vBad r = false) : rvR r = ⟨0, verAt r, vK r⟩ := by
  unfold rvR
  rw [if_neg]
  · rfl
  · rintro ⟨h1, h2⟩
    unfold vBad at h
    rw [decide_eq_true h1, h2] at h
    cases h
theorem blN_le (r : List UInt8) : blN r ≤ r.length := by
  unfold blN
  induction r with
  | nil => exact Nat.zero_le _
  | cons c r ih => unfold runL; split <;> simp <;> omega
theorem verD_len (r : List UInt8) : blN r + (verAt r).length ≤ r.length := by
  have h1 := blN_le r
  unfold verAt
  rw [List.length_take, List.length_drop]
  omega
theorem vK_le (r : List UInt8) : vK r ≤ r.length := by
  have h1 := verD_len r
  have h2 := blN_le (r.drop (blN r + (verAt r).length))
  rw [List.length_drop] at h2
  unfold vK
  omega
theorem blN_idem (r : List UInt8) : blN (r.drop (blN r)) = 0 := by
  unfold blN
  induction r with
  | nil => rfl
  | cons c r ih =>
    cases hc : isC (c.toNat : Int) 6 with
    | true =>
      have e : runL 6 (c :: r) = runL 6 r + 1 := by
        conv => lhs; unfold runL
        rw [hc]; simp; try omega
      rw [e, List.drop_succ_cons]
      exact ih
    | false =>
      have e : runL 6 (c :: r) = 0 := by
        unfold runL
        rw [hc]; simp
      rw [e]
      exact e
theorem verAt_idem (r : List UInt8) : verAt (r.drop (blN r)) = verAt r := by
  unfold verAt
  rw [blN_idem, List.drop_zero]
theorem vBad_idem (r : List UInt8) : vBad (r.drop (blN r)) = vBad r := by
  unfold vBad
  rw [verAt_idem]
theorem vK_idem (r : List UInt8) : blN r + vK (r.drop (blN r)) = vK r := by
  unfold vK
  rw [blN_idem, verAt_idem, List.drop_drop, Nat.zero_add]
  omega

/-- A range as the document's reader reads it, whatever stands there. -/
def oneD (r : List UInt8) : Rr := if hdIn [91, 40] r = false then ⟨misR r, noM, 0⟩ else rrR r

/-- The rest of the document's loop over ranges: behind these ranges, from this place on, where this is left and begins with no blank. -/
def dL (ms : List Mr) (b : Nat) (r : List UInt8) : Fo :=
  if ms.length = 32 ∧ hdIn [91, 40] r = true then ⟨ms, b, 12⟩
  else if hdIn [91, 40] r = false then ⟨ms, b, misR r⟩
  else foldF ⟨ms, b, 0⟩ (itL (32 - ms.length) b r)
/-- What counts of a fold: what is wrong; where; the ranges, if nothing is. -/
def Alike (x y : Fo) : Prop := x.err = y.err ∧ (x.err ≠ 0 → x.at' = y.at') ∧ (x.err = 0 → x.ms = y.ms)
theorem Alike.refl (x : Fo) : Alike x x := ⟨rfl, fun _ => rfl, fun _ => rfl⟩
theorem foldF_place : ∀ (xs : List It) (ms : List Mr) (a b : Nat), Alike (foldF ⟨ms, a, 0⟩ xs) (foldF ⟨ms, b, 0⟩ xs)
  | [], ms, a, b => ⟨rfl, fun h => absurd rfl h, fun _ => rfl⟩
  | x :: xs, ms, a, b => by
    have e : stepF ⟨ms, a, 0⟩ x = stepF ⟨ms, b, 0⟩ x := rfl
    unfold foldF
    rw [e]
    exact Alike.refl _
theorem dL_start (l : List UInt8) (h : hdIn [91, 40] (l.drop (blN l)) = true) : allF l = dL [] (blN l) (l.drop (blN l)) := by
  unfold dL
  rw [if_neg (by simp), if_neg (by rw [h]; simp)]
  rfl
theorem dL_long {ms : List Mr} {b : Nat} {r : List UInt8} (h1 : ms.length = 32) (h2 : hdIn [91, 40] r = true) : dL ms b r = ⟨ms, b, 12⟩ := by
  unfold dL
  rw [if_pos ⟨h1, h2⟩]
theorem dL_bad {ms : List Mr} {b : Nat} {r : List UInt8} (h : ms.length < 32 ∨ hdIn [91, 40] r = false) (h2 : (oneD r).err ≠ 0) : (dL ms b r).err = (oneD r).err ∧ (dL ms b r).at' = b + (oneD r).k := by
  unfold dL
  have hn : ¬ (ms.length = 32 ∧ hdIn [91, 40] r = true) := by
    rintro ⟨g1, g2⟩
    rcases h with h | h
    · omega
    · rw [h] at g2; cases g2
  rw [if_neg hn]
  unfold oneD at h2 ⊢
  by_cases h3 : hdIn [91, 40] r = false
  · rw [if_pos h3, if_pos h3]
    exact ⟨rfl, rfl⟩
  · rw [if_neg h3] at h2 ⊢
    rw [if_neg h3]
    have h4 : ms.length < 32 := by
      rcases h with h | h
      · exact h
      · exact absurd h h3
    obtain ⟨n, hn⟩ : ∃ n, 32 - ms.length = n + 1 := ⟨32 - ms.length - 1, by omega⟩
    rw [hn]
    unfold itL
    rw [if_pos h2]
    have : stepF ⟨ms, b, 0⟩ ⟨noM, b + (rrR r).k, (rrR r).err⟩ = (⟨ms, b + (rrR r).k, (rrR r).err⟩, false) := by unfold stepF; rw [if_pos h2]
    unfold foldF
    rw [this]
    exact ⟨rfl, rfl⟩
theorem oneD_ok {r : List UInt8} (h : (oneD r).err = 0) : hdIn [91, 40] r = true ∧ oneD r = rrR r := by
  unfold oneD at h ⊢
  by_cases h3 : hdIn [91, 40] r = false
  · rw [if_pos h3] at h; exact absurd h (misR_ne _)
  · rw [if_neg h3]
    exact ⟨by simpa using h3, rfl⟩
theorem oneD_le {r : List UInt8} (h : (oneD r).err = 0) : (oneD r).k ≤ r.length := by
  obtain ⟨h1, h2⟩ := oneD_ok h
  rw [h2] at h ⊢
  exact (rr_facts r h).2.2
theorem dL_apart {ms : List Mr} {b : Nat} {r : List UInt8} (h : ms.length < 32) (h2 : (oneD r).err = 0) (h3 : mayB ms (oneD r).m = false) : (dL ms b r).err = 21 ∧ (dL ms b r).at' = b := by
  obtain ⟨g1, g2⟩ := oneD_ok h2
  rw [g2] at h2 h3
  unfold dL
  rw [if_neg (by omega), if_neg (by rw [g1]; simp)]
  obtain ⟨n, hn⟩ : ∃ n, 32 - ms.length = n + 1 := ⟨32 - ms.length - 1, by omega⟩
  rw [hn]
  unfold itL
  rw [if_neg (by simp [h2])]
  have : stepF ⟨ms, b, 0⟩ ⟨(rrR r).m, b, 0⟩ = (⟨ms, b, 21⟩, false) := by unfold stepF; rw [if_neg (by simp), if_pos h3]
  unfold foldF
  rw [this]
  exact ⟨rfl, rfl⟩
/-- What is left behind a range and the blanks behind it. -/
def dR (r : List UInt8) : List UInt8 := r.drop ((oneD r).k + blN (r.drop (oneD r).k))
def dP (r : List UInt8) : Nat := (oneD r).k + blN (r.drop (oneD r).k)
theorem dL_step {ms : List Mr} {b : Nat} {r : List UInt8} (h : ms.length < 32) (h2 : (oneD r).err = 0) (h3 : mayB ms (oneD r).m = true) :
    (dR r = [] → (dL ms b r).err = 0 ∧ (dL ms b r).ms = ms ++ [(oneD r).m]) ∧
    (dR r ≠ [] → hdIn [44] (dR r) = false → (dL ms b r).err = 10 ∧ (dL ms b r).at' = b + dP r) ∧
    (dR r ≠ [] → hdIn [44] (dR r) = true → Alike (dL ms b r) (dL (ms ++ [(oneD r).m]) (b + dP r + 1 + blN (r.drop (dP r + 1))) (r.drop (dP r + 1 + blN (r.drop (dP r + 1)))))) := by
  obtain ⟨g1, g2⟩ := oneD_ok h2
  unfold dR dP
  rw [g2] at h2 h3 ⊢
  have hst : stepF ⟨ms, b, 0⟩ ⟨(rrR r).m, b, 0⟩ = (⟨ms ++ [(rrR r).m], b, 0⟩, true) := step_ok h3
  have hL : dL ms b r = foldF ⟨ms ++ [(rrR r).m], b, 0⟩ (if r.drop ((rrR r).k + blN (r.drop (rrR r).k)) = [] then []
       else if (coR (r.drop ((rrR r).k + blN (r.drop (rrR r).k)))).1 ≠ 0 then [⟨noM, b + (rrR r).k + blN (r.drop (rrR r).k) + (coR (r.drop ((rrR r).k + blN (r.drop (rrR r).k)))).2, (coR (r.drop ((rrR r).k + blN (r.drop (rrR r).k)))).1⟩]
       else itL (32 - ms.length - 1) (b + (rrR r).k + blN (r.drop (rrR r).k) + (coR (r.drop ((rrR r).k + blN (r.drop (rrR r).k)))).2) (r.drop ((rrR r).k + blN (r.drop (rrR r).k) + (coR (r.drop ((rrR r).k + blN (r.drop (rrR r).k)))).2))) := by
    unfold dL
    rw [if_neg (by omega), if_neg (by rw [g1]; simp)]
    obtain ⟨n, hn⟩ : ∃ n, 32 - ms.length = n + 1 := ⟨32 - ms.length - 1, by omega⟩
    rw [hn]
    conv => lhs; unfold itL
    rw [if_neg (by simp [h2])]
    conv => lhs; unfold foldF
    rw [hst, if_pos rfl]
    rfl
  rw [hL]
  clear hL
  generalize (rrR r).m = m at *
  generalize (rrR r).k = k at *
  generalize blN (r.drop k) = q at *
  refine ⟨fun e => ?_, fun e1 e2 => ?_, fun e1 e2 => ?_⟩
  · rw [if_pos e]
    exact ⟨rfl, rfl⟩
  · have hc : coR (r.drop (k + q)) = (10, 0) := by unfold coR; rw [if_pos e2]
    rw [if_neg e1, hc, if_pos (by decide)]
    have : stepF ⟨ms ++ [m], b, 0⟩ ⟨noM, b + k + q + 0, 10⟩ = (⟨ms ++ [m], b + k + q + 0, 10⟩, false) := by unfold stepF; rw [if_pos (by simp)]
    unfold foldF
    rw [this]
    exact ⟨rfl, by show b + k + q + 0 = b + (k + q); omega⟩
  · rw [if_neg e1]
    have hd1 : (r.drop (k + q)).drop 1 = r.drop (k + q + 1) := List.drop_drop
    have hd2 : (r.drop (k + q)).drop (1 + blN (r.drop (k + q + 1))) = r.drop (k + q + 1 + blN (r.drop (k + q + 1))) := by rw [List.drop_drop]; congr 1; omega
    by_cases hb : hdIn [91, 40] (r.drop (k + q + 1 + blN (r.drop (k + q + 1)))) = false
    · have hc : coR (r.drop (k + q)) = (misR (r.drop (k + q + 1 + blN (r.drop (k + q + 1)))), 1 + blN (r.drop (k + q + 1))) := by
        unfold coR
        rw [if_neg (by rw [e2]; simp), hd1, hd2, if_pos hb]
      rw [hc, if_pos (misR_ne _)]
      have hs : stepF ⟨ms ++ [m], b, 0⟩ ⟨noM, b + k + q + (1 + blN (r.drop (k + q + 1))), misR (r.drop (k + q + 1 + blN (r.drop (k + q + 1))))⟩ = (⟨ms ++ [m], b + k + q + (1 + blN (r.drop (k + q + 1))), misR (r.drop (k + q + 1 + blN (r.drop (k + q + 1))))⟩, false) := by unfold stepF; rw [if_pos (misR_ne _)]
      unfold foldF
      rw [hs]
      have hD : dL (ms ++ [m]) (b + (k + q) + 1 + blN (r.drop (k + q + 1))) (r.drop (k + q + 1 + blN (r.drop (k + q + 1)))) = ⟨ms ++ [m], b + (k + q) + 1 + blN (r.drop (k + q + 1)), misR (r.drop (k + q + 1 + blN (r.drop (k + q + 1))))⟩ := by
        unfold dL
        rw [if_neg (by rw [hb]; simp), if_pos hb]
      rw [hD]
      exact ⟨rfl, fun _ => by show b + k + q + (1 + _) = b + (k + q) + 1 + _; omega, fun _ => rfl⟩
    · have hb' : hdIn [91, 40] (r.drop (k + q + 1 + blN (r.drop (k + q + 1)))) = true := by simpa using hb
      have hc : coR (r.drop (k + q)) = (0, 1 + blN (r.drop (k + q + 1))) := by
        unfold coR
        rw [if_neg (by rw [e2]; simp), hd1, hd2, if_neg hb]
      rw [hc, if_neg (by simp)]
      dsimp only
      have ee : b + k + q + (1 + blN (r.drop (k + q + 1))) = b + (k + q) + 1 + blN (r.drop (k + q + 1)) := by omega
      have ef : k + q + (1 + blN (r.drop (k + q + 1))) = k + q + 1 + blN (r.drop (k + q + 1)) := by omega
      rw [ee, ef]
      by_cases h31 : ms.length = 31
      · have hD : dL (ms ++ [m]) (b + (k + q) + 1 + blN (r.drop (k + q + 1))) (r.drop (k + q + 1 + blN (r.drop (k + q + 1)))) = ⟨ms ++ [m], b + (k + q) + 1 + blN (r.drop (k + q + 1)), 12⟩ := dL_long (by simp [h31]) hb'
        rw [hD, show 32 - ms.length - 1 = 0 by omega]
        have hs : stepF ⟨ms ++ [m], b, 0⟩ ⟨noM, b + (k + q) + 1 + blN (r.drop (k + q + 1)), 12⟩ = (⟨ms ++ [m], b + (k + q) + 1 + blN (r.drop (k + q + 1)), 12⟩, false) := by unfold stepF; rw [if_pos (by simp)]
        unfold itL foldF
        rw [hs]
        exact Alike.refl _
      · have hD : dL (ms ++ [m]) (b + (k + q) + 1 + blN (r.drop (k + q + 1))) (r.drop (k + q + 1 + blN (r.drop (k + q + 1)))) = foldF ⟨ms ++ [m], b + (k + q) + 1 + blN (r.drop (k + q + 1)), 0⟩ (itL (32 - ms.length - 1) (b + (k + q) + 1 + blN (r.drop (k + q + 1))) (r.drop (k + q + 1 + blN (r.drop (k + q + 1))))) := by
          unfold dL
          rw [if_neg (by simp; omega), if_neg hb]
          congr 2
          simp
          omega
        rw [hD]
        exact foldF_place _ _ _ _

/-- Which requirements are sound: all but how long the text is. -/
def okR (m : Mr) : Bool := (if m.hasLo then isVer m.lo else decide (m.lo = [])) && (if m.hasHi then isVer m.hi else decide (m.hi = [])) && risesL m
def okQ : List Mr → List Mr → Bool
  | _, [] => true
  | acc, m :: r => okR m && mayB acc m && okQ (acc ++ [m]) r
def soundL (t : List UInt8) (ms : List Mr) : Bool := if ms = [] then isVer t else decide (t = []) && decide (ms.length ≤ 32) && okQ [] ms
def rawL (t : List UInt8) (ms : List Mr) : List UInt8 := if ms = [] then t else wrJ ms
theorem okR_good {m : Mr} : okR m = true ↔ Good m := by
  constructor
  · intro h
    unfold okR at h
    simp only [Bool.and_eq_true] at h
    obtain ⟨⟨h1, h2⟩, h3⟩ := h
    have f : ∀ (b : Bool) (t : List UInt8), (if b = true then isVer t else decide (t = [])) = true → b = decide (t ≠ []) ∧ OkV t := by
      intro b t hb
      cases b with
      | true => exact ⟨(decide_eq_true (ver_parts (by simpa using hb)).1).symm, .inr (by simpa using hb)⟩
      | false =>
        have : t = [] := by simpa using hb
        exact ⟨by rw [this]; rfl, .inl this⟩
    obtain ⟨a1, a2⟩ := f _ _ h1
    obtain ⟨b1, b2⟩ := f _ _ h2
    exact ⟨a1, b1, a2, b2, h3⟩
  · intro g
    have f : ∀ (b : Bool) (t : List UInt8), b = decide (t ≠ []) → OkV t → (if b = true then isVer t else decide (t = [])) = true := by
      intro b t hb ho
      subst hb
      rcases ho with rfl | ho
      · rfl
      · rw [decide_eq_true (ver_parts ho).1]; simpa using ho
    unfold okR
    rw [f _ _ g.hlo g.vlo, f _ _ g.hhi g.vhi, g.up]
    rfl
theorem okQ_good : ∀ (ms acc : List Mr), okQ acc ms = true ↔ GoodC acc ms
  | [], acc => ⟨fun _ => trivial, fun _ => rfl⟩
  | m :: r, acc => by
    show (okR m && mayB acc m && okQ (acc ++ [m]) r) = true ↔ (Good m ∧ mayB acc m = true ∧ GoodC (acc ++ [m]) r)
    rw [Bool.and_eq_true, Bool.and_eq_true, okR_good, okQ_good r]
    exact ⟨fun h => ⟨h.1.1, h.1.2, h.2⟩, fun h => ⟨⟨h.1, h.2.1⟩, h.2.2⟩⟩
/-- The document's word on which requirements are ones is the program's. -/
theorem fit_sound (t : List UInt8) (ms : List Mr) : fitL t ms = (soundL t ms && decide ((rawL t ms).length ≤ 256)) := by
  rw [Bool.eq_iff_iff]
  constructor
  · intro h
    unfold fitL at h
    simp only [Bool.and_eq_true, decide_eq_true_eq, beq_iff_eq] at h
    obtain ⟨⟨h1, h2⟩, h3⟩ := h
    unfold paL at h1 h2 h3
    by_cases g1 : 256 < (wrL t ms).length
    · rw [if_pos g1] at h1; cases h1
    · rw [if_neg g1] at h1 h2 h3
      by_cases g2 : hdIn [91, 40] ((wrL t ms).drop (blN (wrL t ms))) = true
      · rw [if_pos g2] at h1 h2 h3
        by_cases g3 : (allF (wrL t ms)).err ≠ 0
        · rw [if_pos g3] at h1; exact absurd h1 g3
        · rw [if_neg g3] at h2 h3
          obtain ⟨ns, e1, e2, e3, e4, e5⟩ := fold_good 32 (blN (wrL t ms)) ((wrL t ms).drop (blN (wrL t ms))) ⟨[], blN (wrL t ms), 0⟩ (Decidable.not_not.1 g3)
          have e2' : (allF (wrL t ms)).ms = ns := e2
          dsimp only at h2 h3
          rw [e2'] at h3
          subst h3
          subst h2
          have hw : wrL [] ns = wrJ ns := by unfold wrL; rw [if_neg (by simp)]
          rw [hw] at g1
          unfold soundL rawL
          rw [if_neg e1, if_neg e1, (okQ_good ns []).2 e4]
          simp
          exact ⟨e3, by omega⟩
      · rw [if_neg g2] at h1 h2 h3
        obtain ⟨k1, k2⟩ := read_soft h1
        rw [h2] at k1
        rw [h3] at k2
        subst k2
        unfold soundL rawL
        rw [if_pos rfl, if_pos rfl, k1]
        have := (ver_parts k1).2.1
        simp
        omega
  · intro h
    simp only [Bool.and_eq_true, decide_eq_true_eq] at h
    obtain ⟨h1, h2⟩ := h
    unfold soundL at h1
    unfold rawL at h2
    by_cases h0 : ms = []
    · subst h0
      rw [if_pos rfl] at h1
      have hne := (ver_parts h1).1
      unfold fitL wrL
      rw [if_pos hne, soft_back h1]
      simp
    · rw [if_neg h0] at h1 h2
      simp only [Bool.and_eq_true, decide_eq_true_eq] at h1
      obtain ⟨⟨rfl, k1⟩, k2⟩ := h1
      have hb := ranges_back h0 k1 ((okQ_good ms []).1 k2) h2
      unfold fitL wrL
      rw [if_neg (by simp), hb]
      simp

end Go.Proofs.YtpedljmpobhimaaGreatDoor

/-
  Walks: the document's reader of requirements: a version, or none, with blanks around.
-/
namespace Go.Proofs.YtpedljmpobhimaaGreatDoor
open Go.RowKit Go.Shelf
set_option linter.unusedVariables false

/-- The reader's place. -/
def dplace (w : World) (B : Nat) : Nat := match w.cell? ⟨B, 1, none⟩ with
  | some (.int _ i) => i.toNat
  | _ => 0
theorem DrAt.dplace {W : World} {B : Nat} {s : ByteArray} {a : Nat} {e p : Int} (h : DrAt W B s a e p) : dplace W B = a := by
  unfold YtpedljmpobhimaaGreatDoor.dplace
  rw [h.seen.2.1]
  rfl
/-- The fault behind a version: what is wrong, and where. -/
def vE (bad : Bool) (e : Int) : Int := if bad then fe e 19 else e
def vP (bad : Bool) (e : Int) (b : Nat) (p : Int) : Int := if bad then fp e (b : Int) p else p
theorem ve_in (s : ByteArray) (b j : Nat) (hj : j < veN (s.data.toList.drop b)) (hlt : b + j < s.size) : inV s[b + j] = true := by
  have hall := List.all_eq_true.1 (List.all_takeWhile (p := inV) (l := s.data.toList.drop b))
  have hl : j < ((s.data.toList.drop b).takeWhile inV).length := hj
  have := hall _ (List.getElem_mem hl)
  have e : ((s.data.toList.drop b).takeWhile inV)[j] = s[b + j] := by
    have hp := (List.takeWhile_prefix inV (l := s.data.toList.drop b))
    rw [hp.getElem hl, List.getElem_drop]
    rfl
  rwa [e] at this
theorem ve_out (s : ByteArray) (b : Nat) (hlt : b + veN (s.data.toList.drop b) < s.size) : inV s[b + veN (s.data.toList.drop b)] = false := by
  have h1 : ∀ (l : List UInt8) (h : (l.takeWhile inV).length < l.length), inV l[(l.takeWhile inV).length] = false := by
    intro l
    induction l with
    | nil => intro h; simp at h
    | cons c r ih =>
      intro h
      cases hc : inV c with
      | true =>
        have e : (c :: r).takeWhile inV = c :: r.takeWhile inV := by rw [List.takeWhile_cons, hc]; rfl
        have h2 : (r.takeWhile inV).length < r.length := by rw [e] at h; simpa using h
        have := ih h2
        simp only [e, List.length_cons, List.getElem_cons_succ]
        exact this
      | false =>
        have e : (c :: r).takeWhile inV = [] := by rw [List.takeWhile_cons, hc]; rfl
        simp only [e, List.length_nil, List.getElem_cons_zero]
        exact hc
  have hl : ((s.data.toList.drop b).takeWhile inV).length < (s.data.toList.drop b).length := by
    rw [List.length_drop, len_data]
    show veN _ < _
    omega
  have := h1 _ hl
  rw [List.getElem_drop] at this
  exact this

set_option maxRecDepth 100000 in
set_option maxHeartbeats 4000000 in
theorem Rversion_any (B : Nat) (s : ByteArray) (a : Nat) (e p : Int) (w : World) (h : DrAt w B s a e p) (hs : s.size ≤ 256) (ha : a ≤ s.size) :
    Calls Tryz.prog 27 #[.pointer (some ⟨B, 0, none⟩)] w fun r w' => r = .returned (.tuple #[.string (ofL (verAt (s.data.toList.drop a))), .bool (decide (verAt (s.data.toList.drop a) ≠ []))]) ∧ Turn B w w' ∧
      DrAt w' B s (a + vK (s.data.toList.drop a)) (vE (vBad (s.data.toList.drop a)) e) (vP (vBad (s.data.toList.drop a)) e (a + blN (s.data.toList.drop a)) p) := by
  have BL := hide (Rblanks_any B s a e p w h hs ha)
  have hT := ver_text s a _ rfl
  have hL := verAt_len (s.data.toList.drop a)
  rw [List.drop_drop] at hL
  have hbl := bl_le s a ha
  have hK : a + vK (s.data.toList.drop a) = (a + blN (s.data.toList.drop a) + (verAt (s.data.toList.drop a)).length) + blN (s.data.toList.drop (a + blN (s.data.toList.drop a) + (verAt (s.data.toList.drop a)).length)) := by
    unfold vK
    rw [List.drop_drop]
    rw [show a + (blN (s.data.toList.drop a) + (verAt (s.data.toList.drop a)).length) = a + blN (s.data.toList.drop a) + (verAt (s.data.toList.drop a)).length by omega]
    omega
  have hBad : vBad (s.data.toList.drop a) = (decide (verAt (s.data.toList.drop a) ≠ []) && !isVer (verAt (s.data.toList.drop a))) := rfl
  have VV := hide (fun W => (by have := RVersion_any (ofL (verAt (s.data.toList.drop a))) W; rw [ofL_data] at this; exact this : Calls Tryz.prog 19 #[.string (ofL (verAt (s.data.toList.drop a)))] W fun r w' => r = .returned (.bool (isVer (verAt (s.data.toList.drop a)))) ∧ Below W.heap.size W w'))
  rw [← hL] at hT
  generalize vBad (s.data.toList.drop a) = bad at *
  rw [hK]
  clear hK
  generalize verAt (s.data.toList.drop a) = V at *
  generalize isVer V = isv at *
  obtain ⟨b, hb⟩ : ∃ b, b = a + blN (s.data.toList.drop a) := ⟨_, rfl⟩
  rw [← hb] at BL hT hL hbl ⊢
  clear hb
  have hIn : ∀ j, j < V.length → ∀ (hlt : b + j < s.size), inV s[b + j] = true := fun j hj hlt => ve_in s b j (by omega) hlt
  have hOut : ∀ (hlt : b + V.length < s.size), inV s[b + V.length] = false := by rw [hL]; exact fun hlt => ve_out s b hlt
  have hle : b + V.length ≤ s.size := by
    have := ve_le (s.data.toList.drop b)
    rw [← hL, List.length_drop, len_data] at this
    omega
  obtain ⟨k9, hk9⟩ : ∃ k9, k9 = b + V.length := ⟨_, rfl⟩
  rw [← hk9] at hT hOut hle ⊢
  have HIN : Hid (∀ k, b ≤ k → k < k9 → ∀ (hlt : k < s.size), inV s[k] = true) := fun k h1 h2 hlt => by
    obtain ⟨j, rfl⟩ : ∃ j, k = b + j := ⟨k - b, by omega⟩
    exact hIn j (by omega) hlt
  have HOUT := hide hOut
  have HT := hide hT
  have hvs := ofL_size V
  have hbk : b ≤ k9 := by omega
  have hne := empty_at V
  generalize decide (V ≠ []) = T at *
  have HBAD := hide hBad
  have CE := hide (fun c W => Rends_any c W)
  have HVL : Hid (k9 = b + V.length) := hk9
  clear hIn hOut hL hk9 hT hBad h
  go_enter Tryz.func27, Tryz.ntmps27
  go_wp2_with fail
  refine BL.out.mono ?_
  rintro r w1 ⟨rfl, t1, d1⟩
  have T1 := hide t1
  have D1 := hide d1
  clear BL t1 d1
  obtain ⟨c0, c1, c2, c3, f1, f2, f3⟩ := D1.out.seen
  go_wp2_with fail
  go_loopw [] (fun wr => ∃ k, b ≤ k ∧ k ≤ k9 ∧ Hid (Turn B w wr) ∧ Hid (DrAt wr B s k e p)) (fun wr => s.size - dplace wr B)
  case atStart => exact ⟨b, by omega, by omega, T1, D1⟩
  case round =>
    obtain ⟨k, hk1, hk2, HTu, HD⟩ := hrel
    clear c0 c1 c2 c3 f1 f2 f3
    obtain ⟨c0, c1, c2, c3, f1, f2, f3⟩ := HD.out.seen
    by_cases hlt : k < k9
    · have hks : k < s.size := by omega
      have hks' : decide ((k : Int) < (s.size : Int)) = true := by simp; omega
      have CK := CE.out s[k]
      rw [HIN.out k hk1 hlt hks] at CK
      replace CK := hide CK
      go_wp2_with fail
      go_quiet (first | (go_at_call 51; exact Calls.quiet_of_same (CK.out _)) | fail)
      have hmd := HD.out.dplace
      have HMD := hide hmd
      clear hmd
      have HD2 := hide (HD.out.drewN nq)
      have HT2 := hide (HTu.out.trans (Turn.drewN B wr nq))
      clear c0 c1 c2 c3 f1 f2 f3
      generalize wr.drewN nq = W2 at *
      obtain ⟨c0, c1, c2, c3, f1, f2, f3⟩ := HD2.out.seen
      go_wp2_with fail
      go_roundw
      case rel => exact ⟨k + 1, by omega, by omega, HT2.out.trans (Turn.set _ _ _ _), HD2.out.place (k + 1)⟩
      case measure =>
        have h1 : dplace (W2.setCell ⟨B, 1, none⟩ (.int .i64 ((k : Int) + 1))) B = k + 1 := (HD2.out.place (k + 1)).dplace
        have h2 := HMD.out
        try rw [h2]
        rw [h1]
        omega
    · obtain rfl : k = k9 := by omega
      have i0 : (0 : Int) ≤ (b : Int) := Int.natCast_nonneg _
      have i1 : (b : Int) ≤ (k : Int) := by omega
      have i2 : (k : Int) ≤ (s.size : Int) := by omega
      by_cases hks : k < s.size
      · have hks' : decide ((k : Int) < (s.size : Int)) = true := by simp; omega
        have CK := CE.out s[k]
        rw [HOUT.out hks] at CK
        replace CK := hide CK
        go_wp2_with fail
        go_quiet (first | (go_at_call 51; exact Calls.quiet_of_same (CK.out _)) | fail)
        have HD2 := hide (HD.out.drewN nq)
        have HT2 := hide (HTu.out.trans (Turn.drewN B wr nq))
        clear c0 c1 c2 c3 f1 f2 f3
        generalize wr.drewN nq = W2 at *
        obtain ⟨c0, c1, c2, c3, f1, f2, f3⟩ := HD2.out.seen
        go_wp2_with fail
        go_quiet (fail)
        have HD3 := hide (HD2.out.drewN nq)
        have HT3 := hide (HT2.out.trans (Turn.drewN B W2 nq))
        clear c0 c1 c2 c3 f1 f2 f3
        generalize W2.drewN nq = W3 at *
        obtain ⟨c0, c1, c2, c3, f1, f2, f3⟩ := HD3.out.seen
        try rw [HT.out]
        have hle2 : k ≤ s.size := hle
        cases T with
        | false =>
          have hbad : bad = false := by rw [HBAD.out]; rfl
          subst hbad
          have RB := hide (Rblanks_any B s k e p W3 HD3.out hs hle2)
          have hne' : ((ofL V).toList == []) = true := by simpa using hne
          clear hne
          go_wp2_with fail
          refine RB.out.mono ?_
          rintro r w5 ⟨rfl, t5, d5⟩
          have HT5 := hide (HT3.out.trans t5)
          have HD5 := hide d5
          clear t5 d5 RB
          dsimp only
          go_wp2_with fail
          go_ret2
          exact ⟨by rfl, HT5.out, HD5.out⟩
        | true =>
          have hne' : ((ofL V).toList == []) = false := by simpa using hne
          clear hne
          go_wp2_with fail
          refine (VV.out _).mono ?_
          rintro r w4 ⟨rfl, b4⟩
          have HT4 := hide (HT3.out.trans (Turn.ofBelow b4))
          have HD4 := hide (HD3.out.below b4)
          clear b4 c0 c1 c2 c3 f1 f2 f3
          dsimp only
          obtain ⟨c0, c1, c2, c3, f1, f2, f3⟩ := HD4.out.seen
          cases isv with
          | true =>
            have hbad : bad = false := by rw [HBAD.out]; rfl
            subst hbad
            have RB := hide (Rblanks_any B s k e p w4 HD4.out hs hle2)
            go_wp2_with fail
            refine RB.out.mono ?_
            rintro r w5 ⟨rfl, t5, d5⟩
            have HT5 := hide (HT4.out.trans t5)
            have HD5 := hide d5
            clear t5 d5 RB
            dsimp only
            go_wp2_with fail
            go_ret2
            exact ⟨by rfl, HT5.out, HD5.out⟩
          | false =>
            have hbad : bad = true := by rw [HBAD.out]; rfl
            subst hbad
            have RF := hide (Rfail_any B s k e p 19 (b : Int) w4 HD4.out)
            go_wp2_with fail
            refine RF.out.mono ?_
            rintro r w5 ⟨rfl, t5, d5⟩
            have HT5 := hide (HT4.out.trans t5)
            have HD5 := hide d5
            clear t5 d5 RF
            dsimp only
            have RB := hide (Rblanks_any B s k (fe e 19) (fp e (b : Int) p) w5 HD5.out hs hle2)
            clear c0 c1 c2 c3 f1 f2 f3
            obtain ⟨c0, c1, c2, c3, f1, f2, f3⟩ := HD5.out.seen
            go_wp2_with fail
            refine RB.out.mono ?_
            rintro r w6 ⟨rfl, t6, d6⟩
            have HT6 := hide (HT5.out.trans t6)
            have HD6 := hide d6
            clear t6 d6 RB
            dsimp only
            go_wp2_with fail
            go_ret2
            exact ⟨by rfl, HT6.out, HD6.out⟩
      · have hks' : decide ((k : Int) < (s.size : Int)) = false := by simp; omega
        go_wp2_with fail
        go_quiet (fail)
        have HD2 := hide (HD.out.drewN nq)
        have HT2 := hide (HTu.out.trans (Turn.drewN B wr nq))
        clear c0 c1 c2 c3 f1 f2 f3
        generalize wr.drewN nq = W2 at *
        obtain ⟨c0, c1, c2, c3, f1, f2, f3⟩ := HD2.out.seen
        go_wp2_with fail
        go_quiet (fail)
        have HD3 := hide (HD2.out.drewN nq)
        have HT3 := hide (HT2.out.trans (Turn.drewN B W2 nq))
        clear c0 c1 c2 c3 f1 f2 f3
        generalize W2.drewN nq = W3 at *
        obtain ⟨c0, c1, c2, c3, f1, f2, f3⟩ := HD3.out.seen
        try rw [HT.out]
        have hle2 : k ≤ s.size := hle
        cases T with
        | false =>
          have hbad : bad = false := by rw [HBAD.out]; rfl
          subst hbad
          have RB := hide (Rblanks_any B s k e p W3 HD3.out hs hle2)
          have hne' : ((ofL V).toList == []) = true := by simpa using hne
          clear hne
          go_wp2_with fail
          refine RB.out.mono ?_
          rintro r w5 ⟨rfl, t5, d5⟩
          have HT5 := hide (HT3.out.trans t5)
          have HD5 := hide d5
          clear t5 d5 RB
          dsimp only
          go_wp2_with fail
          go_ret2
          exact ⟨by rfl, HT5.out, HD5.out⟩
        | true =>
          have hne' : ((ofL V).toList == []) = false := by simpa using hne
          clear hne
          go_wp2_with fail
          refine (VV.out _).mono ?_
          rintro r w4 ⟨rfl, b4⟩
          have HT4 := hide (HT3.out.trans (Turn.ofBelow b4))
          have HD4 := hide (HD3.out.below b4)
          clear b4 c0 c1 c2 c3 f1 f2 f3
          dsimp only
          obtain ⟨c0, c1, c2, c3, f1, f2, f3⟩ := HD4.out.seen
          cases isv with
          | true =>
            have hbad : bad = false := by rw [HBAD.out]; rfl
            subst hbad
            have RB := hide (Rblanks_any B s k e p w4 HD4.out hs hle2)
            go_wp2_with fail
            refine RB.out.mono ?_
            rintro r w5 ⟨rfl, t5, d5⟩
            have HT5 := hide (HT4.out.trans t5)
            have HD5 := hide d5
            clear t5 d5 RB
            dsimp only
            go_wp2_with fail
            go_ret2
            exact ⟨by rfl, HT5.out, HD5.out⟩
          | false =>
            have hbad : bad = true := by rw [HBAD.out]; rfl
            subst hbad
            have RF := hide (Rfail_any B s k e p 19 (b : Int) w4 HD4.out)
            go_wp2_with fail
            refine RF.out.mono ?_
            rintro r w5 ⟨rfl, t5, d5⟩
            have HT5 := hide (HT4.out.trans t5)
            have HD5 := hide d5
            clear t5 d5 RF
            dsimp only
            have RB := hide (Rblanks_any B s k (fe e 19) (fp e (b : Int) p) w5 HD5.out hs hle2)
            clear c0 c1 c2 c3 f1 f2 f3
            obtain ⟨c0, c1, c2, c3, f1, f2, f3⟩ := HD5.out.seen
            go_wp2_with fail
            refine RB.out.mono ?_
            rintro r w6 ⟨rfl, t6, d6⟩
            have HT6 := hide (HT5.out.trans t6)
            have HD6 := hide d6
            clear t6 d6 RB
            dsimp only
            go_wp2_with fail
            go_ret2
            exact ⟨by rfl, HT6.out, HD6.out⟩

end Go.Proofs.YtpedljmpobhimaaGreatDoor

/-
  Walks: the document's word on ranges: which may stand behind which, what lies inside, a bracket.
-/
namespace Go.Proofs.YtpedljmpobhimaaGreatDoor
open Go.RowKit Go.Shelf
set_option linter.unusedVariables false

theorem ahead_of (a b : List UInt8) (k : Bool) : aheadL a b k = (decide (cmpT a b < 0) || (decide (cmpT a b = 0) && k)) := rfl
theorem RCmp (a b : List UInt8) (W : World) : Calls Tryz.prog 20 #[.string (ofL a), .string (ofL b)] W fun e w' => e = .returned (.int .i64 (cmpT a b)) ∧ Below W.heap.size W w' := by
  have := RCompare_any (ofL a) (ofL b) W
  rw [ofL_data, ofL_data] at this
  exact this

theorem Rbracket_any (k : Bool) (s t : ByteArray) (w : World) : Calls Tryz.prog 57 #[.bool k, .string s, .string t] w fun e w' => e = .returned (.string (if k then s else t)) ∧ w' = w := by
  cases k
  all_goals
    go_enter Tryz.func57, Tryz.ntmps57
    go_wp2_with fail
    go_ret
    exact ⟨rfl, rfl⟩

set_option maxHeartbeats 2000000 in
theorem Rbehind_any (b m : Mr) (w : World) :
    Calls Tryz.prog 54 #[mV b, mV m] w fun e w' => e = .returned (.bool (partedL b m)) ∧ Below w.heap.size w w' := by
  obtain ⟨bl, blo, bli, bh, bhi, bhin⟩ := b
  obtain ⟨hl, lo, li, hh, hi, hin⟩ := m
  have CC := hide (fun W => RCmp bhi lo W)
  have n1 := World.alloc_heap_new (w.alloc (.cells #[.bool bl, .string (ofL blo), .bool bli, .bool bh, .string (ofL bhi), .bool bhin] 54)) (.cells #[.bool hl, .string (ofL lo), .bool li, .bool hh, .string (ofL hi), .bool hin] 54)
  rw [World.size_alloc] at n1
  have n0 := (Below.heap_alloc (w.alloc (.cells #[.bool bl, .string (ofL blo), .bool bli, .bool bh, .string (ofL bhi), .bool bhin] 54)) (.cells #[.bool hl, .string (ofL lo), .bool li, .bool hh, .string (ofL hi), .bool hin] 54) w.heap.size (by simp)).trans (World.alloc_heap_new w (.cells #[.bool bl, .string (ofL blo), .bool bli, .bool bh, .string (ofL bhi), .bool bhin] 54))
  have B0 := hide (((Below.refl _ w).alloc (Nat.le_refl _) (.cells #[.bool bl, .string (ofL blo), .bool bli, .bool bh, .string (ofL bhi), .bool bhin] 54)).alloc (by simp) (.cells #[.bool hl, .string (ofL lo), .bool li, .bool hh, .string (ofL hi), .bool hin] 54))
  have N0 := hide n0
  have N1 := hide n1
  clear n0 n1
  unfold mV partedL
  dsimp only
  rw [ahead_of]
  generalize cmpT bhi lo = C at *
  cases bh
  · go_enter Tryz.func54, Tryz.ntmps54
    go_wp2_with fail
    go_ret
    exact ⟨rfl, B0.out⟩
  cases hl
  · go_enter Tryz.func54, Tryz.ntmps54
    go_wp2_with fail
    go_ret
    exact ⟨rfl, B0.out⟩
  rcases Int.lt_trichotomy C 0 with h | h | h
  · have h2 : decide (C < 0) = true := by simpa using h
    rw [h2]
    go_enter Tryz.func54, Tryz.ntmps54
    go_wp2_with fail
    refine (CC.out _).mono ?_
    rintro e w' ⟨rfl, b1⟩
    have hb := hide (B0.out.trans (b1.mono B0.out.size))
    clear b1
    go_wp2_with fail
    go_ret
    exact ⟨by simp, hb.out⟩
  · subst h
    cases bhin <;> cases li
    all_goals
      go_enter Tryz.func54, Tryz.ntmps54
      go_wp2_with fail
      refine (CC.out _).mono ?_
      rintro e w' ⟨rfl, b1⟩
      have e0 := (b1.block w.heap.size (by simp; try omega)).trans N0.out
      have e1 := (b1.block (w.heap.size + 1) (by simp; try omega)).trans N1.out
      have r5 : w'.cell? ⟨w.heap.size, 5, none⟩ = some (.bool _) := cell_at 5 e0 rfl
      have r2 : w'.cell? ⟨w.heap.size + 1, 2, none⟩ = some (.bool _) := cell_at 2 e1 rfl
      have hb := hide (B0.out.trans (b1.mono B0.out.size))
      clear b1 e0 e1
      go_wp2_with fail
      go_ret
      exact ⟨by simp, hb.out⟩
  · have h1 : ¬ C < 0 := by omega
    have h2 : (C == 0) = false := by simp; omega
    have h3 : decide (C < 0) = false := by simpa using h1
    have h4 : decide (C = 0) = false := by simp; omega
    rw [h3, h4]
    clear h4
    go_enter Tryz.func54, Tryz.ntmps54
    go_wp2_with fail
    refine (CC.out _).mono ?_
    rintro e w' ⟨rfl, b1⟩
    have hb := hide (B0.out.trans (b1.mono B0.out.size))
    clear b1
    go_wp2_with fail
    go_ret
    exact ⟨by simp, hb.out⟩

set_option maxHeartbeats 4000000 in
theorem Rinside_any (m : Mr) (v : ByteArray) (w : World) :
    Calls Tryz.prog 38 #[mV m, .string v] w fun e w' => e = .returned (.bool (liesL v.data.toList m)) ∧ Below w.heap.size w w' := by
  obtain ⟨hl, lo, li, hh, hi, hin⟩ := m
  have A1 := hide (fun W => (by have := RCompare_any (ofL lo) v W; rw [ofL_data] at this; exact this : Calls Tryz.prog 20 #[.string (ofL lo), .string v] W fun e w' => e = .returned (.int .i64 (cmpT lo v.data.toList)) ∧ Below W.heap.size W w'))
  have A2 := hide (fun W => (by have := RCompare_any v (ofL hi) W; rw [ofL_data] at this; exact this : Calls Tryz.prog 20 #[.string v, .string (ofL hi)] W fun e w' => e = .returned (.int .i64 (cmpT v.data.toList hi)) ∧ Below W.heap.size W w'))
  have a0 : Below w.heap.size w (w.alloc (.cells #[.bool hl, .string (ofL lo), .bool li, .bool hh, .string (ofL hi), .bool hin] 54)) := (Below.refl _ w).alloc (Nat.le_refl _) _
  have n0 := World.alloc_heap_new w (.cells #[.bool hl, .string (ofL lo), .bool li, .bool hh, .string (ofL hi), .bool hin] 54)
  have B0 := hide a0
  have N0 := hide n0
  clear a0 n0
  unfold mV liesL
  dsimp only
  rw [ahead_of, ahead_of]
  generalize cmpT lo v.data.toList = C1 at *
  generalize cmpT v.data.toList hi = C2 at *
  cases hl
  · skip
    cases hh
    · skip
      go_enter Tryz.func38, Tryz.ntmps38
      go_wp2_with fail
      go_ret
      exact ⟨by simp, B0.out⟩
    rcases Int.lt_trichotomy C2 0 with g | g | g
    · have g2 : decide (C2 < 0) = true := by simpa using g
      have g3 : ¬ 0 < C2 := by omega
      have g4 : (C2 == 0) = false := by simp; omega
      rw [g2]
      go_enter Tryz.func38, Tryz.ntmps38
      go_wp2_with fail
      refine (A2.out _).mono ?_
      rintro e w2 ⟨rfl, b1⟩
      have e1 := (b1.block w.heap.size (by simp)).trans N0.out
      have hb := hide (B0.out.trans (b1.mono B0.out.size))
      have r2 : w2.cell? ⟨w.heap.size, 2, none⟩ = some (.bool li) := cell_at 2 e1 rfl
      have r3 : w2.cell? ⟨w.heap.size, 3, none⟩ = some (.bool true) := cell_at 3 e1 rfl
      have r4 : w2.cell? ⟨w.heap.size, 4, none⟩ = some (.string (ofL hi)) := cell_at 4 e1 rfl
      have r5 : w2.cell? ⟨w.heap.size, 5, none⟩ = some (.bool hin) := cell_at 5 e1 rfl
      have E1 := hide e1
      clear b1 e1
      go_wp2_with fail
      go_ret
      exact ⟨by simp, hb.out⟩
    · subst g
      cases hin
      · skip
        go_enter Tryz.func38, Tryz.ntmps38
        go_wp2_with fail
        refine (A2.out _).mono ?_
        rintro e w2 ⟨rfl, b1⟩
        have e1 := (b1.block w.heap.size (by simp)).trans N0.out
        have hb := hide (B0.out.trans (b1.mono B0.out.size))
        have r2 : w2.cell? ⟨w.heap.size, 2, none⟩ = some (.bool li) := cell_at 2 e1 rfl
        have r3 : w2.cell? ⟨w.heap.size, 3, none⟩ = some (.bool true) := cell_at 3 e1 rfl
        have r4 : w2.cell? ⟨w.heap.size, 4, none⟩ = some (.string (ofL hi)) := cell_at 4 e1 rfl
        have r5 : w2.cell? ⟨w.heap.size, 5, none⟩ = some (.bool false) := cell_at 5 e1 rfl
        have E1 := hide e1
        clear b1 e1
        go_wp2_with fail
        go_ret
        exact ⟨by simp, hb.out⟩
      · skip
        go_enter Tryz.func38, Tryz.ntmps38
        go_wp2_with fail
        refine (A2.out _).mono ?_
        rintro e w2 ⟨rfl, b1⟩
        have e1 := (b1.block w.heap.size (by simp)).trans N0.out
        have hb := hide (B0.out.trans (b1.mono B0.out.size))
        have r2 : w2.cell? ⟨w.heap.size, 2, none⟩ = some (.bool li) := cell_at 2 e1 rfl
        have r3 : w2.cell? ⟨w.heap.size, 3, none⟩ = some (.bool true) := cell_at 3 e1 rfl
        have r4 : w2.cell? ⟨w.heap.size, 4, none⟩ = some (.string (ofL hi)) := cell_at 4 e1 rfl
        have r5 : w2.cell? ⟨w.heap.size, 5, none⟩ = some (.bool true) := cell_at 5 e1 rfl
        have E1 := hide e1
        clear b1 e1
        go_wp2_with fail
        go_ret
        exact ⟨by simp, hb.out⟩
    · have g1 : ¬ C2 < 0 := by omega
      have g2 : decide (C2 < 0) = false := by simpa using g1
      have g4 : decide (C2 = 0) = false := by simp; omega
      rw [g2, g4]
      clear g4
      go_enter Tryz.func38, Tryz.ntmps38
      go_wp2_with fail
      refine (A2.out _).mono ?_
      rintro e w2 ⟨rfl, b1⟩
      have e1 := (b1.block w.heap.size (by simp)).trans N0.out
      have hb := hide (B0.out.trans (b1.mono B0.out.size))
      have r2 : w2.cell? ⟨w.heap.size, 2, none⟩ = some (.bool li) := cell_at 2 e1 rfl
      have r3 : w2.cell? ⟨w.heap.size, 3, none⟩ = some (.bool true) := cell_at 3 e1 rfl
      have r4 : w2.cell? ⟨w.heap.size, 4, none⟩ = some (.string (ofL hi)) := cell_at 4 e1 rfl
      have r5 : w2.cell? ⟨w.heap.size, 5, none⟩ = some (.bool hin) := cell_at 5 e1 rfl
      have E1 := hide e1
      clear b1 e1
      go_wp2_with fail
      go_ret
      exact ⟨by simp, hb.out⟩
  rcases Int.lt_trichotomy C1 0 with h | h | h
  · have h2 : decide (C1 < 0) = true := by simpa using h
    have h3 : ¬ 0 < C1 := by omega
    have h4 : (C1 == 0) = false := by simp; omega
    rw [h2]
    cases hh
    · skip
      go_enter Tryz.func38, Tryz.ntmps38
      go_wp2_with fail
      refine (A1.out _).mono ?_
      rintro e w1 ⟨rfl, b1⟩
      have e1 := (b1.block w.heap.size (by simp)).trans N0.out
      have hb := hide (B0.out.trans (b1.mono B0.out.size))
      have r2 : w1.cell? ⟨w.heap.size, 2, none⟩ = some (.bool li) := cell_at 2 e1 rfl
      have r3 : w1.cell? ⟨w.heap.size, 3, none⟩ = some (.bool false) := cell_at 3 e1 rfl
      have r4 : w1.cell? ⟨w.heap.size, 4, none⟩ = some (.string (ofL hi)) := cell_at 4 e1 rfl
      have r5 : w1.cell? ⟨w.heap.size, 5, none⟩ = some (.bool hin) := cell_at 5 e1 rfl
      have E1 := hide e1
      clear b1 e1
      go_wp2_with fail
      go_ret
      exact ⟨by simp, hb.out⟩
    rcases Int.lt_trichotomy C2 0 with g | g | g
    · have g2 : decide (C2 < 0) = true := by simpa using g
      have g3 : ¬ 0 < C2 := by omega
      have g4 : (C2 == 0) = false := by simp; omega
      rw [g2]
      go_enter Tryz.func38, Tryz.ntmps38
      go_wp2_with fail
      refine (A1.out _).mono ?_
      rintro e w1 ⟨rfl, b1⟩
      have e1 := (b1.block w.heap.size (by simp)).trans N0.out
      have hb := hide (B0.out.trans (b1.mono B0.out.size))
      have r2 : w1.cell? ⟨w.heap.size, 2, none⟩ = some (.bool li) := cell_at 2 e1 rfl
      have r3 : w1.cell? ⟨w.heap.size, 3, none⟩ = some (.bool true) := cell_at 3 e1 rfl
      have r4 : w1.cell? ⟨w.heap.size, 4, none⟩ = some (.string (ofL hi)) := cell_at 4 e1 rfl
      have r5 : w1.cell? ⟨w.heap.size, 5, none⟩ = some (.bool hin) := cell_at 5 e1 rfl
      have E1 := hide e1
      clear b1 e1
      go_wp2_with fail
      have hb0 := hide hb.out
      clear hb r2 r3 r4 r5
      refine (A2.out _).mono ?_
      rintro e w2 ⟨rfl, b1⟩
      have e1 := (b1.block w.heap.size (Array.getElem?_eq_some_iff.1 E1.out).1).trans E1.out
      have hb := hide (hb0.out.trans (b1.mono hb0.out.size))
      have r2 : w2.cell? ⟨w.heap.size, 2, none⟩ = some (.bool li) := cell_at 2 e1 rfl
      have r3 : w2.cell? ⟨w.heap.size, 3, none⟩ = some (.bool true) := cell_at 3 e1 rfl
      have r4 : w2.cell? ⟨w.heap.size, 4, none⟩ = some (.string (ofL hi)) := cell_at 4 e1 rfl
      have r5 : w2.cell? ⟨w.heap.size, 5, none⟩ = some (.bool hin) := cell_at 5 e1 rfl
      have E2 := hide e1
      clear b1 e1
      go_wp2_with fail
      go_ret
      exact ⟨by simp, hb.out⟩
    · subst g
      cases hin
      · skip
        go_enter Tryz.func38, Tryz.ntmps38
        go_wp2_with fail
        refine (A1.out _).mono ?_
        rintro e w1 ⟨rfl, b1⟩
        have e1 := (b1.block w.heap.size (by simp)).trans N0.out
        have hb := hide (B0.out.trans (b1.mono B0.out.size))
        have r2 : w1.cell? ⟨w.heap.size, 2, none⟩ = some (.bool li) := cell_at 2 e1 rfl
        have r3 : w1.cell? ⟨w.heap.size, 3, none⟩ = some (.bool true) := cell_at 3 e1 rfl
        have r4 : w1.cell? ⟨w.heap.size, 4, none⟩ = some (.string (ofL hi)) := cell_at 4 e1 rfl
        have r5 : w1.cell? ⟨w.heap.size, 5, none⟩ = some (.bool false) := cell_at 5 e1 rfl
        have E1 := hide e1
        clear b1 e1
        go_wp2_with fail
        have hb0 := hide hb.out
        clear hb r2 r3 r4 r5
        refine (A2.out _).mono ?_
        rintro e w2 ⟨rfl, b1⟩
        have e1 := (b1.block w.heap.size (Array.getElem?_eq_some_iff.1 E1.out).1).trans E1.out
        have hb := hide (hb0.out.trans (b1.mono hb0.out.size))
        have r2 : w2.cell? ⟨w.heap.size, 2, none⟩ = some (.bool li) := cell_at 2 e1 rfl
        have r3 : w2.cell? ⟨w.heap.size, 3, none⟩ = some (.bool true) := cell_at 3 e1 rfl
        have r4 : w2.cell? ⟨w.heap.size, 4, none⟩ = some (.string (ofL hi)) := cell_at 4 e1 rfl
        have r5 : w2.cell? ⟨w.heap.size, 5, none⟩ = some (.bool false) := cell_at 5 e1 rfl
        have E2 := hide e1
        clear b1 e1
        go_wp2_with fail
        go_ret
        exact ⟨by simp, hb.out⟩
      · skip
        go_enter Tryz.func38, Tryz.ntmps38
        go_wp2_with fail
        refine (A1.out _).mono ?_
        rintro e w1 ⟨rfl, b1⟩
        have e1 := (b1.block w.heap.size (by simp)).trans N0.out
        have hb := hide (B0.out.trans (b1.mono B0.out.size))
        have r2 : w1.cell? ⟨w.heap.size, 2, none⟩ = some (.bool li) := cell_at 2 e1 rfl
        have r3 : w1.cell? ⟨w.heap.size, 3, none⟩ = some (.bool true) := cell_at 3 e1 rfl
        have r4 : w1.cell? ⟨w.heap.size, 4, none⟩ = some (.string (ofL hi)) := cell_at 4 e1 rfl
        have r5 : w1.cell? ⟨w.heap.size, 5, none⟩ = some (.bool true) := cell_at 5 e1 rfl
        have E1 := hide e1
        clear b1 e1
        go_wp2_with fail
        have hb0 := hide hb.out
        clear hb r2 r3 r4 r5
        refine (A2.out _).mono ?_
        rintro e w2 ⟨rfl, b1⟩
        have e1 := (b1.block w.heap.size (Array.getElem?_eq_some_iff.1 E1.out).1).trans E1.out
        have hb := hide (hb0.out.trans (b1.mono hb0.out.size))
        have r2 : w2.cell? ⟨w.heap.size, 2, none⟩ = some (.bool li) := cell_at 2 e1 rfl
        have r3 : w2.cell? ⟨w.heap.size, 3, none⟩ = some (.bool true) := cell_at 3 e1 rfl
        have r4 : w2.cell? ⟨w.heap.size, 4, none⟩ = some (.string (ofL hi)) := cell_at 4 e1 rfl
        have r5 : w2.cell? ⟨w.heap.size, 5, none⟩ = some (.bool true) := cell_at 5 e1 rfl
        have E2 := hide e1
        clear b1 e1
        go_wp2_with fail
        go_ret
        exact ⟨by simp, hb.out⟩
    · have g1 : ¬ C2 < 0 := by omega
      have g2 : decide (C2 < 0) = false := by simpa using g1
      have g4 : decide (C2 = 0) = false := by simp; omega
      rw [g2, g4]
      clear g4
      go_enter Tryz.func38, Tryz.ntmps38
      go_wp2_with fail
      refine (A1.out _).mono ?_
      rintro e w1 ⟨rfl, b1⟩
      have e1 := (b1.block w.heap.size (by simp)).trans N0.out
      have hb := hide (B0.out.trans (b1.mono B0.out.size))
      have r2 : w1.cell? ⟨w.heap.size, 2, none⟩ = some (.bool li) := cell_at 2 e1 rfl
      have r3 : w1.cell? ⟨w.heap.size, 3, none⟩ = some (.bool true) := cell_at 3 e1 rfl
      have r4 : w1.cell? ⟨w.heap.size, 4, none⟩ = some (.string (ofL hi)) := cell_at 4 e1 rfl
      have r5 : w1.cell? ⟨w.heap.size, 5, none⟩ = some (.bool hin) := cell_at 5 e1 rfl
      have E1 := hide e1
      clear b1 e1
      go_wp2_with fail
      have hb0 := hide hb.out
      clear hb r2 r3 r4 r5
      refine (A2.out _).mono ?_
      rintro e w2 ⟨rfl, b1⟩
      have e1 := (b1.block w.heap.size (Array.getElem?_eq_some_iff.1 E1.out).1).trans E1.out
      have hb := hide (hb0.out.trans (b1.mono hb0.out.size))
      have r2 : w2.cell? ⟨w.heap.size, 2, none⟩ = some (.bool li) := cell_at 2 e1 rfl
      have r3 : w2.cell? ⟨w.heap.size, 3, none⟩ = some (.bool true) := cell_at 3 e1 rfl
      have r4 : w2.cell? ⟨w.heap.size, 4, none⟩ = some (.string (ofL hi)) := cell_at 4 e1 rfl
      have r5 : w2.cell? ⟨w.heap.size, 5, none⟩ = some (.bool hin) := cell_at 5 e1 rfl
      have E2 := hide e1
      clear b1 e1
      go_wp2_with fail
      go_ret
      exact ⟨by simp, hb.out⟩
  · subst h
    cases li
    · skip
      go_enter Tryz.func38, Tryz.ntmps38
      go_wp2_with fail
      refine (A1.out _).mono ?_
      rintro e w1 ⟨rfl, b1⟩
      have e1 := (b1.block w.heap.size (by simp)).trans N0.out
      have hb := hide (B0.out.trans (b1.mono B0.out.size))
      have r2 : w1.cell? ⟨w.heap.size, 2, none⟩ = some (.bool false) := cell_at 2 e1 rfl
      have r3 : w1.cell? ⟨w.heap.size, 3, none⟩ = some (.bool hh) := cell_at 3 e1 rfl
      have r4 : w1.cell? ⟨w.heap.size, 4, none⟩ = some (.string (ofL hi)) := cell_at 4 e1 rfl
      have r5 : w1.cell? ⟨w.heap.size, 5, none⟩ = some (.bool hin) := cell_at 5 e1 rfl
      have E1 := hide e1
      clear b1 e1
      go_wp2_with fail
      go_ret
      exact ⟨by simp, hb.out⟩
    · skip
      cases hh
      · skip
        go_enter Tryz.func38, Tryz.ntmps38
        go_wp2_with fail
        refine (A1.out _).mono ?_
        rintro e w1 ⟨rfl, b1⟩
        have e1 := (b1.block w.heap.size (by simp)).trans N0.out
        have hb := hide (B0.out.trans (b1.mono B0.out.size))
        have r2 : w1.cell? ⟨w.heap.size, 2, none⟩ = some (.bool true) := cell_at 2 e1 rfl
        have r3 : w1.cell? ⟨w.heap.size, 3, none⟩ = some (.bool false) := cell_at 3 e1 rfl
        have r4 : w1.cell? ⟨w.heap.size, 4, none⟩ = some (.string (ofL hi)) := cell_at 4 e1 rfl
        have r5 : w1.cell? ⟨w.heap.size, 5, none⟩ = some (.bool hin) := cell_at 5 e1 rfl
        have E1 := hide e1
        clear b1 e1
        go_wp2_with fail
        go_ret
        exact ⟨by simp, hb.out⟩
      rcases Int.lt_trichotomy C2 0 with g | g | g
      · have g2 : decide (C2 < 0) = true := by simpa using g
        have g3 : ¬ 0 < C2 := by omega
        have g4 : (C2 == 0) = false := by simp; omega
        rw [g2]
        go_enter Tryz.func38, Tryz.ntmps38
        go_wp2_with fail
        refine (A1.out _).mono ?_
        rintro e w1 ⟨rfl, b1⟩
        have e1 := (b1.block w.heap.size (by simp)).trans N0.out
        have hb := hide (B0.out.trans (b1.mono B0.out.size))
        have r2 : w1.cell? ⟨w.heap.size, 2, none⟩ = some (.bool true) := cell_at 2 e1 rfl
        have r3 : w1.cell? ⟨w.heap.size, 3, none⟩ = some (.bool true) := cell_at 3 e1 rfl
        have r4 : w1.cell? ⟨w.heap.size, 4, none⟩ = some (.string (ofL hi)) := cell_at 4 e1 rfl
        have r5 : w1.cell? ⟨w.heap.size, 5, none⟩ = some (.bool hin) := cell_at 5 e1 rfl
        have E1 := hide e1
        clear b1 e1
        go_wp2_with fail
        have hb0 := hide hb.out
        clear hb r2 r3 r4 r5
        refine (A2.out _).mono ?_
        rintro e w2 ⟨rfl, b1⟩
        have e1 := (b1.block w.heap.size (Array.getElem?_eq_some_iff.1 E1.out).1).trans E1.out
        have hb := hide (hb0.out.trans (b1.mono hb0.out.size))
        have r2 : w2.cell? ⟨w.heap.size, 2, none⟩ = some (.bool true) := cell_at 2 e1 rfl
        have r3 : w2.cell? ⟨w.heap.size, 3, none⟩ = some (.bool true) := cell_at 3 e1 rfl
        have r4 : w2.cell? ⟨w.heap.size, 4, none⟩ = some (.string (ofL hi)) := cell_at 4 e1 rfl
        have r5 : w2.cell? ⟨w.heap.size, 5, none⟩ = some (.bool hin) := cell_at 5 e1 rfl
        have E2 := hide e1
        clear b1 e1
        go_wp2_with fail
        go_ret
        exact ⟨by simp, hb.out⟩
      · subst g
        cases hin
        · skip
          go_enter Tryz.func38, Tryz.ntmps38
          go_wp2_with fail
          refine (A1.out _).mono ?_
          rintro e w1 ⟨rfl, b1⟩
          have e1 := (b1.block w.heap.size (by simp)).trans N0.out
          have hb := hide (B0.out.trans (b1.mono B0.out.size))
          have r2 : w1.cell? ⟨w.heap.size, 2, none⟩ = some (.bool true) := cell_at 2 e1 rfl
          have r3 : w1.cell? ⟨w.heap.size, 3, none⟩ = some (.bool true) := cell_at 3 e1 rfl
          have r4 : w1.cell? ⟨w.heap.size, 4, none⟩ = some (.string (ofL hi)) := cell_at 4 e1 rfl
          have r5 : w1.cell? ⟨w.heap.size, 5, none⟩ = some (.bool false) := cell_at 5 e1 rfl
          have E1 := hide e1
          clear b1 e1
          go_wp2_with fail
          have hb0 := hide hb.out
          clear hb r2 r3 r4 r5
          refine (A2.out _).mono ?_
          rintro e w2 ⟨rfl, b1⟩
          have e1 := (b1.block w.heap.size (Array.getElem?_eq_some_iff.1 E1.out).1).trans E1.out
          have hb := hide (hb0.out.trans (b1.mono hb0.out.size))
          have r2 : w2.cell? ⟨w.heap.size, 2, none⟩ = some (.bool true) := cell_at 2 e1 rfl
          have r3 : w2.cell? ⟨w.heap.size, 3, none⟩ = some (.bool true) := cell_at 3 e1 rfl
          have r4 : w2.cell? ⟨w.heap.size, 4, none⟩ = some (.string (ofL hi)) := cell_at 4 e1 rfl
          have r5 : w2.cell? ⟨w.heap.size, 5, none⟩ = some (.bool false) := cell_at 5 e1 rfl
          have E2 := hide e1
          clear b1 e1
          go_wp2_with fail
          go_ret
          exact ⟨by simp, hb.out⟩
        · skip
          go_enter Tryz.func38, Tryz.ntmps38
          go_wp2_with fail
          refine (A1.out _).mono ?_
          rintro e w1 ⟨rfl, b1⟩
          have e1 := (b1.block w.heap.size (by simp)).trans N0.out
          have hb := hide (B0.out.trans (b1.mono B0.out.size))
          have r2 : w1.cell? ⟨w.heap.size, 2, none⟩ = some (.bool true) := cell_at 2 e1 rfl
          have r3 : w1.cell? ⟨w.heap.size, 3, none⟩ = some (.bool true) := cell_at 3 e1 rfl
          have r4 : w1.cell? ⟨w.heap.size, 4, none⟩ = some (.string (ofL hi)) := cell_at 4 e1 rfl
          have r5 : w1.cell? ⟨w.heap.size, 5, none⟩ = some (.bool true) := cell_at 5 e1 rfl
          have E1 := hide e1
          clear b1 e1
          go_wp2_with fail
          have hb0 := hide hb.out
          clear hb r2 r3 r4 r5
          refine (A2.out _).mono ?_
          rintro e w2 ⟨rfl, b1⟩
          have e1 := (b1.block w.heap.size (Array.getElem?_eq_some_iff.1 E1.out).1).trans E1.out
          have hb := hide (hb0.out.trans (b1.mono hb0.out.size))
          have r2 : w2.cell? ⟨w.heap.size, 2, none⟩ = some (.bool true) := cell_at 2 e1 rfl
          have r3 : w2.cell? ⟨w.heap.size, 3, none⟩ = some (.bool true) := cell_at 3 e1 rfl
          have r4 : w2.cell? ⟨w.heap.size, 4, none⟩ = some (.string (ofL hi)) := cell_at 4 e1 rfl
          have r5 : w2.cell? ⟨w.heap.size, 5, none⟩ = some (.bool true) := cell_at 5 e1 rfl
          have E2 := hide e1
          clear b1 e1
          go_wp2_with fail
          go_ret
          exact ⟨by simp, hb.out⟩
      · have g1 : ¬ C2 < 0 := by omega
        have g2 : decide (C2 < 0) = false := by simpa using g1
        have g4 : decide (C2 = 0) = false := by simp; omega
        rw [g2, g4]
        clear g4
        go_enter Tryz.func38, Tryz.ntmps38
        go_wp2_with fail
        refine (A1.out _).mono ?_
        rintro e w1 ⟨rfl, b1⟩
        have e1 := (b1.block w.heap.size (by simp)).trans N0.out
        have hb := hide (B0.out.trans (b1.mono B0.out.size))
        have r2 : w1.cell? ⟨w.heap.size, 2, none⟩ = some (.bool true) := cell_at 2 e1 rfl
        have r3 : w1.cell? ⟨w.heap.size, 3, none⟩ = some (.bool true) := cell_at 3 e1 rfl
        have r4 : w1.cell? ⟨w.heap.size, 4, none⟩ = some (.string (ofL hi)) := cell_at 4 e1 rfl
        have r5 : w1.cell? ⟨w.heap.size, 5, none⟩ = some (.bool hin) := cell_at 5 e1 rfl
        have E1 := hide e1
        clear b1 e1
        go_wp2_with fail
        have hb0 := hide hb.out
        clear hb r2 r3 r4 r5
        refine (A2.out _).mono ?_
        rintro e w2 ⟨rfl, b1⟩
        have e1 := (b1.block w.heap.size (Array.getElem?_eq_some_iff.1 E1.out).1).trans E1.out
        have hb := hide (hb0.out.trans (b1.mono hb0.out.size))
        have r2 : w2.cell? ⟨w.heap.size, 2, none⟩ = some (.bool true) := cell_at 2 e1 rfl
        have r3 : w2.cell? ⟨w.heap.size, 3, none⟩ = some (.bool true) := cell_at 3 e1 rfl
        have r4 : w2.cell? ⟨w.heap.size, 4, none⟩ = some (.string (ofL hi)) := cell_at 4 e1 rfl
        have r5 : w2.cell? ⟨w.heap.size, 5, none⟩ = some (.bool hin) := cell_at 5 e1 rfl
        have E2 := hide e1
        clear b1 e1
        go_wp2_with fail
        go_ret
        exact ⟨by simp, hb.out⟩
  · have h1 : ¬ C1 < 0 := by omega
    have h2 : decide (C1 < 0) = false := by simpa using h1
    have h4 : decide (C1 = 0) = false := by simp; omega
    rw [h2, h4]
    clear h4
    go_enter Tryz.func38, Tryz.ntmps38
    go_wp2_with fail
    refine (A1.out _).mono ?_
    rintro e w1 ⟨rfl, b1⟩
    have e1 := (b1.block w.heap.size (by simp)).trans N0.out
    have hb := hide (B0.out.trans (b1.mono B0.out.size))
    have r2 : w1.cell? ⟨w.heap.size, 2, none⟩ = some (.bool li) := cell_at 2 e1 rfl
    have r3 : w1.cell? ⟨w.heap.size, 3, none⟩ = some (.bool hh) := cell_at 3 e1 rfl
    have r4 : w1.cell? ⟨w.heap.size, 4, none⟩ = some (.string (ofL hi)) := cell_at 4 e1 rfl
    have r5 : w1.cell? ⟨w.heap.size, 5, none⟩ = some (.bool hin) := cell_at 5 e1 rfl
    have E1 := hide e1
    clear b1 e1
    go_wp2_with fail
    go_ret
    exact ⟨by simp, hb.out⟩

end Go.Proofs.YtpedljmpobhimaaGreatDoor

/-
  The document's reader of one range: where it stands in memory, and what it reads, plain.
-/
namespace Go.Proofs.YtpedljmpobhimaaGreatDoor
open Go.RowKit Go.Shelf
set_option linter.unusedVariables false

theorem hd_two (c d : UInt8) (r : List UInt8) : hdIn [c, d] r = (hdIn [c] r || hdIn [d] r) := by
  cases r with
  | nil => rfl
  | cons x r => show ([c, d] : List UInt8).contains x = (([c] : List UInt8).contains x || ([d] : List UInt8).contains x); simp
theorem hd_apart {c d : UInt8} (hcd : c ≠ d) {r : List UInt8} (h : hdIn [c] r = true) : hdIn [d] r = false := by
  cases r with
  | nil => rfl
  | cons x r =>
    have hx : x = c := by simpa [hdIn] using h
    show ([d] : List UInt8).contains x = false
    rw [hx]
    simp [hcd]
/-- One range, by places. -/
theorem one_none {r : List UInt8} (h1 : hdIn [91] r = false) (h2 : hdIn [40] r = false) : oneD r = ⟨misR r, noM, 0⟩ := by
  unfold oneD
  rw [hd_two, h1, h2]
  rfl
theorem one_some {r : List UInt8} (h : hdIn [91] r = true ∨ hdIn [40] r = true) : oneD r = rrR r := by
  unfold oneD
  rw [hd_two, if_neg]
  rcases h with h | h <;> rw [h] <;> simp
theorem one_bad1 (l : List UInt8) (a : Nat) (h : hdIn [91] (l.drop a) = true ∨ hdIn [40] (l.drop a) = true) (hb : vBad (l.drop (a + 1)) = true) :
    (oneD (l.drop a)).err = 19 ∧ a + (oneD (l.drop a)).k = a + 1 + blN (l.drop (a + 1)) := by
  rw [one_some h, rr_at l a _ _ rfl rfl, rv_bad hb]
  dsimp only
  rw [if_pos (by decide)]
  refine ⟨rfl, ?_⟩
  dsimp only
  omega
theorem one_bad2 (l : List UInt8) (a p1 : Nat) (h : hdIn [91] (l.drop a) = true ∨ hdIn [40] (l.drop a) = true) (hb : vBad (l.drop (a + 1)) = false) (hp : p1 = a + 1 + vK (l.drop (a + 1))) (hc : hdIn [44] (l.drop p1) = true) (hb2 : vBad (l.drop (p1 + 1)) = true) :
    (oneD (l.drop a)).err = 19 ∧ a + (oneD (l.drop a)).k = p1 + 1 + blN (l.drop (p1 + 1)) := by
  rw [one_some h, rr_at l a p1 _ (by rw [rv_good hb]; exact hp) rfl, rv_good hb]
  dsimp only
  rw [if_neg (by simp), if_pos hc, rv_bad hb2]
  dsimp only
  rw [if_pos (by decide)]
  refine ⟨rfl, ?_⟩
  dsimp only
  omega
theorem cl_none (l : List UInt8) (a : Nat) (lo hi : List UInt8) (comma : Bool) (p : Nat) (ha : a ≤ p) (h1 : hdIn [93] (l.drop p) = false) (h2 : hdIn [41] (l.drop p) = false) : (clA l a lo hi comma p).err = misR (l.drop p) ∧ a + (clA l a lo hi comma p).k = p := by
  unfold clA
  rw [hd_two, h1, h2, if_pos (by rfl)]
  refine ⟨rfl, ?_⟩
  dsimp only
  omega
theorem cl_some (l : List UInt8) (a : Nat) (lo hi : List UInt8) (comma : Bool) (p : Nat) (ha : a ≤ p) (h : hdIn [93] (l.drop p) = true ∨ hdIn [41] (l.drop p) = true) (m : Mr) (hm : m = ⟨decide (lo ≠ []), lo, hdIn [91] (l.drop a), decide (hi ≠ []), hi, hdIn [93] (l.drop p)⟩) :
    (((!comma && !decide (lo ≠ [])) || !risesL m) = true → (clA l a lo hi comma p).err = 21 ∧ a + (clA l a lo hi comma p).k = a) ∧
    (((!comma && !decide (lo ≠ [])) || !risesL m) = false → (clA l a lo hi comma p).err = 0 ∧ a + (clA l a lo hi comma p).k = p + 1 ∧ (clA l a lo hi comma p).m = m) := by
  have hn : ¬ hdIn [93, 41] (l.drop p) = false := by
    rw [hd_two]
    rcases h with h | h <;> rw [h] <;> simp
  unfold clA
  rw [if_neg hn, ← hm]
  refine ⟨fun h => ?_, fun h => ?_⟩
  · rw [if_pos h]
    exact ⟨rfl, rfl⟩
  · rw [if_neg (by rw [h]; simp)]
    refine ⟨rfl, ?_, rfl⟩
    dsimp only
    omega
theorem one_comma (l : List UInt8) (a p1 p2 : Nat) (h : hdIn [91] (l.drop a) = true ∨ hdIn [40] (l.drop a) = true) (hb : vBad (l.drop (a + 1)) = false) (hp : p1 = a + 1 + vK (l.drop (a + 1))) (hc : hdIn [44] (l.drop p1) = true) (hb2 : vBad (l.drop (p1 + 1)) = false) (hp2 : p2 = p1 + 1 + vK (l.drop (p1 + 1))) :
    oneD (l.drop a) = clA l a (verAt (l.drop (a + 1))) (verAt (l.drop (p1 + 1))) true p2 := by
  rw [one_some h, rr_at l a p1 p2 (by rw [rv_good hb]; exact hp) (by rw [rv_good hb2]; exact hp2), rv_good hb, rv_good hb2]
  dsimp only
  rw [if_neg (by simp), if_pos hc, if_neg (by simp)]
theorem one_plain (l : List UInt8) (a p1 : Nat) (h : hdIn [91] (l.drop a) = true ∨ hdIn [40] (l.drop a) = true) (hb : vBad (l.drop (a + 1)) = false) (hp : p1 = a + 1 + vK (l.drop (a + 1))) (hc : hdIn [44] (l.drop p1) = false) :
    oneD (l.drop a) = clA l a (verAt (l.drop (a + 1))) (verAt (l.drop (a + 1))) false p1 := by
  rw [one_some h, rr_at l a p1 _ (by rw [rv_good hb]; exact hp) rfl, rv_good hb]
  dsimp only
  rw [if_neg (by simp), hc, if_neg (by simp)]

theorem Turn.other {B : Nat} {w W : World} (h : Turn B w W) (b o : Nat) (v : Value) (hb : w.heap.size ≤ b) : Turn B w (W.setCell ⟨b, o, none⟩ v) :=
  ⟨h.os, h.tape, h.output, by rw [set_size]; exact h.size, fun k hk hn => (Below.heap_setCell _ _ _ _ (by simp only; omega)).trans (h.block k hk hn)⟩

/-- The document's reader of one range at work: the reader's block, the result's cells, the range's own. -/
structure On (w : World) (B : Nat) (s : ByteArray) (a : Nat) (e p : Int) (m : Mr) (W : World) : Prop where
  turn : Turn B w W
  lt : B < w.heap.size
  rd : DrAt W B s a e p
  res : W.heap[w.heap.size]? = some (.cells #[.bool false, .string ⟨#[]⟩, .bool false, .bool false, .string ⟨#[]⟩, .bool false] 54 (0, 0))
  box : W.heap[w.heap.size + 1]? = some (.cells #[.bool m.hasLo, .string (ofL m.lo), .bool m.loIn, .bool m.hasHi, .string (ofL m.hi), .bool m.hiIn] 54 (0, 0))
theorem On.start {w : World} {B : Nat} {s : ByteArray} {a : Nat} {e p : Int} (h : DrAt w B s a e p) : On w B s a e p noM ((w.alloc (.cells #[.bool false, .string ⟨#[]⟩, .bool false, .bool false, .string ⟨#[]⟩, .bool false] 54)).alloc (.cells #[.bool false, .string ⟨#[]⟩, .bool false, .bool false, .string ⟨#[]⟩, .bool false] 54)) := by
  have k := World.alloc_heap_new (w.alloc (.cells #[.bool false, .string ⟨#[]⟩, .bool false, .bool false, .string ⟨#[]⟩, .bool false] 54)) (.cells #[.bool false, .string ⟨#[]⟩, .bool false, .bool false, .string ⟨#[]⟩, .bool false] 54)
  rw [World.size_alloc] at k
  have hB := ((Below.refl _ w).alloc (Nat.le_refl _) (.cells #[.bool false, .string ⟨#[]⟩, .bool false, .bool false, .string ⟨#[]⟩, .bool false] 54)).alloc (by simp) (.cells #[.bool false, .string ⟨#[]⟩, .bool false, .bool false, .string ⟨#[]⟩, .bool false] 54)
  exact ⟨Turn.ofBelow hB, h.lt, h.below hB, (Below.heap_alloc _ _ _ (by simp)).trans (World.alloc_heap_new w _), k⟩
theorem On.next {w W W' : World} {B : Nat} {s : ByteArray} {a a' : Nat} {e p e' p' : Int} {m : Mr} (h : On w B s a e p m W) (t : Turn B W W') (d : DrAt W' B s a' e' p') : On w B s a' e' p' m W' :=
  ⟨h.turn.trans t, h.lt, d, (t.block _ (Array.getElem?_eq_some_iff.1 h.res).1 (by have := h.lt; omega)).trans h.res, (t.block _ (Array.getElem?_eq_some_iff.1 h.box).1 (by have := h.lt; omega)).trans h.box⟩
theorem On.place {w W : World} {B : Nat} {s : ByteArray} {a : Nat} {e p : Int} {m : Mr} (h : On w B s a e p m W) (x : Nat) : On w B s x e p m (W.setCell ⟨B, 1, none⟩ (.int .i64 (x : Int))) := h.next (Turn.set _ _ _ _) (h.rd.place x)
theorem On.put {w W : World} {B : Nat} {s : ByteArray} {a : Nat} {e p : Int} {m : Mr} (h : On w B s a e p m W) (o : Nat) (v : Value) (m' : Mr)
    (hm : (#[.bool m.hasLo, .string (ofL m.lo), .bool m.loIn, .bool m.hasHi, .string (ofL m.hi), .bool m.hiIn] : Array Value).setIfInBounds o v = #[.bool m'.hasLo, .string (ofL m'.lo), .bool m'.loIn, .bool m'.hasHi, .string (ofL m'.hi), .bool m'.hiIn]) :
    On w B s a e p m' (W.setCell ⟨w.heap.size + 1, o, none⟩ v) :=
  ⟨h.turn.other _ _ _ (by omega), h.lt, (Below.heap_setCell _ _ _ _ (by have := h.lt; simp only; omega)).trans h.rd, (Below.heap_setCell _ _ _ _ (by simp only; omega)).trans h.res, by rw [← hm]; exact set_lies o v h.box⟩
theorem On.seen {w W : World} {B : Nat} {s : ByteArray} {a : Nat} {e p : Int} {m : Mr} (h : On w B s a e p m W) :
    (W.cell? ⟨B, 0, none⟩ = some (.string s) ∧ W.cell? ⟨B, 1, none⟩ = some (.int .i64 (a : Int)) ∧ W.cell? ⟨B, 2, none⟩ = some (.int .i64 e) ∧ W.cell? ⟨B, 3, none⟩ = some (.int .i64 p) ∧ W.frozen? ⟨B, 1, none⟩ = false) ∧
    (W.cell? ⟨w.heap.size + 1, 0, none⟩ = some (.bool m.hasLo) ∧ W.cell? ⟨w.heap.size + 1, 1, none⟩ = some (.string (ofL m.lo)) ∧ W.cell? ⟨w.heap.size + 1, 2, none⟩ = some (.bool m.loIn) ∧ W.cell? ⟨w.heap.size + 1, 3, none⟩ = some (.bool m.hasHi) ∧ W.cell? ⟨w.heap.size + 1, 4, none⟩ = some (.string (ofL m.hi)) ∧ W.cell? ⟨w.heap.size + 1, 5, none⟩ = some (.bool m.hiIn)) ∧
    (W.frozen? ⟨w.heap.size + 1, 0, none⟩ = false ∧ W.frozen? ⟨w.heap.size + 1, 1, none⟩ = false ∧ W.frozen? ⟨w.heap.size + 1, 2, none⟩ = false ∧ W.frozen? ⟨w.heap.size + 1, 3, none⟩ = false ∧ W.frozen? ⟨w.heap.size + 1, 4, none⟩ = false ∧ W.frozen? ⟨w.heap.size + 1, 5, none⟩ = false) ∧
    (W.frozen? ⟨w.heap.size, 0, none⟩ = false ∧ W.frozen? ⟨w.heap.size, 1, none⟩ = false ∧ W.frozen? ⟨w.heap.size, 2, none⟩ = false ∧ W.frozen? ⟨w.heap.size, 3, none⟩ = false ∧ W.frozen? ⟨w.heap.size, 4, none⟩ = false ∧ W.frozen? ⟨w.heap.size, 5, none⟩ = false) ∧
    (W.cell? ⟨w.heap.size, 0, none⟩ = some (.bool false) ∧ W.cell? ⟨w.heap.size, 1, none⟩ = some (.string ⟨#[]⟩) ∧ W.cell? ⟨w.heap.size, 2, none⟩ = some (.bool false) ∧ W.cell? ⟨w.heap.size, 3, none⟩ = some (.bool false) ∧ W.cell? ⟨w.heap.size, 4, none⟩ = some (.string ⟨#[]⟩) ∧ W.cell? ⟨w.heap.size, 5, none⟩ = some (.bool false)) := by
  obtain ⟨c0, c1, c2, c3, f1, f2, f3⟩ := h.rd.seen
  exact ⟨⟨c0, c1, c2, c3, f1⟩, ⟨cell_at 0 h.box rfl, cell_at 1 h.box rfl, cell_at 2 h.box rfl, cell_at 3 h.box rfl, cell_at 4 h.box rfl, cell_at 5 h.box rfl⟩, ⟨one_free 0 h.box, one_free 1 h.box, one_free 2 h.box, one_free 3 h.box, one_free 4 h.box, one_free 5 h.box⟩, ⟨one_free 0 h.res, one_free 1 h.res, one_free 2 h.res, one_free 3 h.res, one_free 4 h.res, one_free 5 h.res⟩, cell_at 0 h.res rfl, cell_at 1 h.res rfl, cell_at 2 h.res rfl, cell_at 3 h.res rfl, cell_at 4 h.res rfl, cell_at 5 h.res rfl⟩
theorem On.is {w W : World} {B : Nat} {s : ByteArray} {a : Nat} {e p : Int} {m : Mr} (h : On w B s a e p m W) (hs : s.size ≤ 256) (ha : a ≤ s.size) (c : UInt8) {X : Bool} (hX : hdIn [c] (s.data.toList.drop a) = X) :
    Calls Tryz.prog 26 #[.pointer (some ⟨B, 0, none⟩), .int .u8 (c.toNat : Int)] W fun r W' => r = .returned (.bool X) ∧ On w B s a e p m W' := by
  subst hX
  refine (Ris_any B s a e p c W h.rd hs ha).mono ?_
  rintro r W' ⟨rfl, n, rfl⟩
  exact ⟨rfl, h.next (Turn.drewN _ _ _) (h.rd.drewN n)⟩
theorem On.here {w W : World} {B : Nat} {s : ByteArray} {a : Nat} {e p : Int} {m : Mr} (h : On w B s a e p m W) (ha : a ≤ s.size) :
    Calls Tryz.prog 28 #[.pointer (some ⟨B, 0, none⟩)] W fun r W' => r = .returned (.tuple #[]) ∧ On w B s a (fe e (misR (s.data.toList.drop a))) (fp e (a : Int) p) m W' := by
  refine (Rhere_any B s a e p W h.rd ha).mono ?_
  rintro r W' ⟨rfl, t, d⟩
  exact ⟨rfl, h.next t d⟩
theorem On.fail {w W : World} {B : Nat} {s : ByteArray} {a : Nat} {e p : Int} {m : Mr} (h : On w B s a e p m W) (x y : Int) :
    Calls Tryz.prog 52 #[.pointer (some ⟨B, 0, none⟩), .int .i64 x, .int .i64 y] W fun r W' => r = .returned (.tuple #[]) ∧ On w B s a (fe e x) (fp e y p) m W' := by
  refine (Rfail_any B s a e p x y W h.rd).mono ?_
  rintro r W' ⟨rfl, t, d⟩
  exact ⟨rfl, h.next t d⟩
theorem On.cmp {w W : World} {B : Nat} {s : ByteArray} {a : Nat} {e p : Int} {m : Mr} (h : On w B s a e p m W) (x y : List UInt8) {C : Int} (hC : cmpT x y = C) :
    Calls Tryz.prog 20 #[.string (ofL x), .string (ofL y)] W fun r W' => r = .returned (.int .i64 C) ∧ On w B s a e p m W' := by
  subst hC
  refine (RCmp x y W).mono ?_
  rintro r W' ⟨rfl, b⟩
  exact ⟨rfl, h.next (Turn.ofBelow b) (h.rd.below b)⟩
theorem On.version {w W : World} {B : Nat} {s : ByteArray} {a : Nat} {e p : Int} {m : Mr} (h : On w B s a e p m W) (hs : s.size ≤ 256) (ha : a ≤ s.size) {V : List UInt8} {H : Bool} {q : Nat} {e' p' : Int}
    (hV : verAt (s.data.toList.drop a) = V) (hH : decide (V ≠ []) = H) (hq : a + vK (s.data.toList.drop a) = q) (he : vE (vBad (s.data.toList.drop a)) e = e') (hp : vP (vBad (s.data.toList.drop a)) e (a + blN (s.data.toList.drop a)) p = p') :
    Calls Tryz.prog 27 #[.pointer (some ⟨B, 0, none⟩)] W fun r W' => r = .returned (.tuple #[.string (ofL V), .bool H]) ∧ On w B s q e' p' m W' := by
  subst hV hH hq he hp
  refine (Rversion_any B s a e p W h.rd hs ha).mono ?_
  rintro r W' ⟨rfl, t, d⟩
  exact ⟨rfl, h.next t d⟩

/-- What a reader of one range leaves. -/
def OnePost (w : World) (B : Nat) (s : ByteArray) (e p : Int) (m : Mr) (q : Nat) : Ending → World → Prop := fun r W' =>
  ∃ m' q', r = .returned (mV m') ∧ Turn B w W' ∧ q' ≤ s.size ∧ DrAt W' B s q' e p ∧ (e = 0 → m' = m ∧ q' = q)
theorem fin53 {R : Ending → World → Prop} (tmps : Array Value) (W : World) (B : Nat) (m : Mr)
    (h2 : tmps.getD 2 undef = .pointer (some ⟨B, 0, none⟩))
    (e1 : W.heap[B]? = some (.cells #[.bool m.hasLo, .string (ofL m.lo), .bool m.loIn, .bool m.hasHi, .string (ofL m.hi), .bool m.hiIn] 54 (0, 0)))
    (hR : R (.returned (mV m)) W) :
    bodyPost Tryz.prog Tryz.f53 R .ret { tmps := tmps, defers := [] } W := by
  have r0 := cell_at 0 e1 rfl
  have r1 := cell_at 1 e1 rfl
  have r2 := cell_at 2 e1 rfl
  have r3 := cell_at 3 e1 rfl
  have r4 := cell_at 4 e1 rfl
  have r5 := cell_at 5 e1 rfl
  rw [Array.getD_eq_getD_getElem?] at h2
  refine ⟨rfl, _, ?_, hR⟩
  simp [results, Tryz.results53, go_sem, h2, r0, r1, r2, r3, r4, r5, mV]
  try rfl
theorem On.fin {w W : World} {B : Nat} {s : ByteArray} {a : Nat} {e p : Int} {m m' : Mr} {q : Nat} (h : On w B s a e p m W) (ha : a ≤ s.size) (he : e = 0 → m = m' ∧ a = q) (tmps : Array Value) (h2 : tmps.getD 2 undef = .pointer (some ⟨w.heap.size, 0, none⟩)) :
    bodyPost Tryz.prog Tryz.f53 (OnePost w B s e p m' q) .ret { tmps := tmps, defers := [] } ((((((W.setCell ⟨w.heap.size, 0, none⟩ (.bool m.hasLo)).setCell ⟨w.heap.size, 1, none⟩ (.string (ofL m.lo))).setCell ⟨w.heap.size, 2, none⟩ (.bool m.loIn)).setCell ⟨w.heap.size, 3, none⟩ (.bool m.hasHi)).setCell ⟨w.heap.size, 4, none⟩ (.string (ofL m.hi))).setCell ⟨w.heap.size, 5, none⟩ (.bool m.hiIn)) := by
  refine fin53 tmps _ w.heap.size m h2 (put6 _ _ _ _ _ _ h.res) ⟨m, a, rfl, ?_, ha, ?_, he⟩
  · exact (((((h.turn.other _ _ _ (Nat.le_refl _)).other _ _ _ (Nat.le_refl _)).other _ _ _ (Nat.le_refl _)).other _ _ _ (Nat.le_refl _)).other _ _ _ (Nat.le_refl _)).other _ _ _ (Nat.le_refl _)
  · have hne : B ≠ w.heap.size := by have := h.lt; omega
    exact ((((((Below.heap_setCell _ _ _ _ hne).trans (Below.heap_setCell _ _ _ _ hne)).trans (Below.heap_setCell _ _ _ _ hne)).trans (Below.heap_setCell _ _ _ _ hne)).trans (Below.heap_setCell _ _ _ _ hne)).trans (Below.heap_setCell _ _ _ _ hne)).trans h.rd

end Go.Proofs.YtpedljmpobhimaaGreatDoor
