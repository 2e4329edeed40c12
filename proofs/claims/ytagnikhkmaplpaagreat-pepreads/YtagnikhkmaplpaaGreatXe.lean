/-
  Walks: the document's words.
-/
import Derived.Test.YtagnikhkmaplpaaGreatGen
import Derived.Test.YtagnikhkmaplpaaGreatPb
import Derived.BigQuiet
import Derived.Deep.QuietTactic
import Derived.Test.YtagnikhkmaplpaaGreatPf
import Derived.Test.YtagnikhkmaplpaaGreatPi
import Derived.Test.YtagnikhkmaplpaaGreatPp
import Derived.Laws.AppendOwnNone
import Derived.Test.YtagnikhkmaplpaaGreatPj
namespace Go.Proofs.YtagnikhkmaplpaaGreat
open Go.RowKit
set_option linter.unusedVariables false

/-- Does a text begin so? -/
def hasP (s x : List UInt8) : Bool := s.take x.length == x

theorem hasP_short (s x : List UInt8) (h : s.length < x.length) : hasP s x = false := by
  unfold hasP
  rw [beq_eq_false_iff_ne]
  intro e
  have := congrArg List.length e
  simp at this
  omega

/-- Does a text go on so, from a place on? -/
def startsL (s : List UInt8) (n : Int) (x : List UInt8) : Bool := (decide (0 ≤ n) && decide (n ≤ (s.length : Int))) && hasP (s.drop n.toNat) x

set_option maxHeartbeats 400000 in
theorem Starts_any (s : ByteArray) (n : Int) (x : ByteArray) (w : World) (hs : s.size ≤ maxLen) :
    Calls Tryz.prog 94 #[.string s, .int .i64 n, .string x] w fun e w' => e = .returned (.bool (startsL s.data.toList n x.data.toList)) ∧ w' = w := by
  unfold maxLen at hs
  by_cases h0 : 0 ≤ n
  · obtain ⟨m, rfl⟩ := Int.eq_ofNat_of_zero_le h0
    by_cases h1 : m ≤ s.size
    · by_cases h2 : m + x.size ≤ s.size
      · have HE : Hid (((s.extract m (m + x.size)).toList == x.toList) = startsL s.data.toList m x.data.toList) := by
          show _ = _
          rw [toL, toL, extract_ofL, ofL_data, startsL, hasP, len_data, len_data, List.drop_take]
          simp [h1]
        go_enter Tryz.func94, Tryz.ntmps94
        go_wp2
        go_ret
        exact ⟨ret_b HE.out, rfl⟩
      · have HE : Hid (startsL s.data.toList m x.data.toList = false) := by
          show _ = _
          rw [startsL, hasP_short _ _ (by rw [List.length_drop, len_data, len_data]; simp; omega)]; simp
        go_enter Tryz.func94, Tryz.ntmps94
        go_wp2
        go_ret
        exact ⟨ret_b HE.out.symm, rfl⟩
    · have HE : Hid (startsL s.data.toList m x.data.toList = false) := by
        show _ = _
        rw [startsL, len_data]; simp; omega
      go_enter Tryz.func94, Tryz.ntmps94
      go_wp2
      go_ret
      exact ⟨ret_b HE.out.symm, rfl⟩
  · have HE : Hid (startsL s.data.toList n x.data.toList = false) := by
      show _ = _
      rw [startsL]; simp; omega
    go_enter Tryz.func94, Tryz.ntmps94
    go_wp2
    go_ret
    exact ⟨ret_b HE.out.symm, rfl⟩

/-- A slice of strings that came in, or was made: what it holds. -/
def Words (W : World) (a : Option Addr) (ws : List ByteArray) : Prop :=
  ws = [] ∨ ∃ b off, a = some ⟨b, off, none⟩ ∧ ∀ i, i < ws.length → W.cell? ⟨b, off + i, none⟩ = some (.string (ws.getD i ByteArray.empty))

theorem ret_w {a c : ByteArray} {b d : Bool} (h1 : a = c) (h2 : b = d) : Ending.returned (.tuple #[.string a, .bool b]) = .returned (.tuple #[.string c, .bool d]) := by rw [h1, h2]

def wstepF (f : ByteArray → Bool) (acc : ByteArray × Bool) (x : ByteArray) : ByteArray × Bool :=
  if f x = true ∧ (acc.2 = false ∨ acc.1.size < x.size) then (x, true) else acc
def wordF (f : ByteArray → Bool) (ws : List ByteArray) : ByteArray × Bool := ws.foldl (wstepF f) (ByteArray.empty, false)
theorem wordF_succ (f : ByteArray → Bool) (ws : List ByteArray) (k : Nat) (h : k < ws.length) : wordF f (ws.take (k + 1)) = wstepF f (wordF f (ws.take k)) (ws.getD k ByteArray.empty) := by
  unfold wordF
  rw [List.take_succ_eq_append_getElem h, List.foldl_append]
  simp [List.getD, h]
theorem wordF_none (f : ByteArray → Bool) (hf : ∀ x, f x = false) : ∀ (ws : List ByteArray) (acc : ByteArray × Bool), ws.foldl (wstepF f) acc = acc
  | [], _ => rfl
  | x :: ws, acc => by
    rw [List.foldl_cons, wstepF, if_neg (by simp [hf])]
    exact wordF_none f hf ws acc
set_option maxHeartbeats 1000000 in
theorem RWord_any (s : ByteArray) (n : Int) (a0 : Option Addr) (ws : List ByteArray) (cap : Nat) (w : World) (hs : s.size ≤ maxLen) (hw : ws.length ≤ maxLen) (hv : Words w a0 ws) :
    Calls Tryz.prog 64 #[.string s, .int .i64 n, .slice a0 ws.length cap] w fun e w' => e = .returned (.tuple #[.string (wordF (fun x => startsL s.data.toList n x.data.toList) ws).1, .bool (wordF (fun x => startsL s.data.toList n x.data.toList) ws).2]) ∧ w' = w := by
  have HP : Hid (∀ x w, Calls Tryz.prog 94 #[.string s, .int .i64 n, .string x] w fun e w' => e = .returned (.bool (startsL s.data.toList n x.data.toList)) ∧ w' = w) := fun x w => Starts_any s n x w hs
  unfold maxLen at hs hw
  obtain ⟨f, hf⟩ : ∃ f : ByteArray → Bool, (fun x => startsL s.data.toList n x.data.toList) = f := ⟨_, rfl⟩
  have HP' : Hid (∀ x w, Calls Tryz.prog 94 #[.string s, .int .i64 n, .string x] w fun e w' => e = .returned (.bool (f x)) ∧ w' = w) := fun x w => by
    have := HP.out x w
    rw [← hf]; exact this
  rw [hf]
  clear HP hf
  rcases hv with rfl | ⟨b, off, rfl, hc⟩
  · go_enter Tryz.func64, Tryz.ntmps64
    go_wp2_with fail
    refine wp_loop_rounds 1 ?_
    rw [rounds_succ]
    go_wp2
    go_ret2
    exact ⟨rfl, rfl⟩
  · have HC := hide hc
    clear hc
    go_enter Tryz.func64, Tryz.ntmps64
    go_wp2_with fail
    go_loop [8, 9, 10] (fun x y i => ∃ k : Nat, k ≤ ws.length ∧ i = .int .i64 k ∧ ∃ p q, x = .string p ∧ y = .bool q ∧ Hid (wordF f (ws.take k) = (p, q))) (fun _ _ i => ws.length - (intOf i).toNat)
    case atStart => exact ⟨0, by omega, rfl, _, _, rfl, rfl, rfl⟩
    case round =>
      obtain ⟨k, hk, rfl, p, q, rfl, rfl, HR⟩ := hrel
      by_cases hlt : k < ws.length
      · have hcell := HC.out k hlt
        have HX : Hid _ := wordF_succ f ws k hlt
        generalize ws.getD k ByteArray.empty = x at *
        by_cases hp : f x = true
        · cases q with
          | false =>
            go_wp2_with (go_at_call 94; refine (HP'.out _ _).mono ?_; rintro e w' ⟨rfl, rfl⟩)
            go_round
            case rel => exact ⟨k + 1, by omega, by go_num, x, true, rfl, rfl, by rw [HX.out, HR.out]; simp [Hid, wstepF, hp]⟩
            case measure => simp [intOf]; omega
          | true =>
            by_cases hsz : p.size < x.size
            · go_wp2_with (go_at_call 94; refine (HP'.out _ _).mono ?_; rintro e w' ⟨rfl, rfl⟩)
              go_round
              case rel => exact ⟨k + 1, by omega, by go_num, x, true, rfl, rfl, by rw [HX.out, HR.out]; simp [Hid, wstepF, hp, hsz]⟩
              case measure => simp [intOf]; omega
            · go_wp2_with (go_at_call 94; refine (HP'.out _ _).mono ?_; rintro e w' ⟨rfl, rfl⟩)
              go_round
              case rel => exact ⟨k + 1, by omega, by go_num, p, true, rfl, rfl, by rw [HX.out, HR.out]; simp [Hid, wstepF, hp]; omega⟩
              case measure => simp [intOf]; omega
        · have hp' : f x = false := by simpa using hp
          go_wp2_with (go_at_call 94; refine (HP'.out _ _).mono ?_; rintro e w' ⟨rfl, rfl⟩)
          go_round
          case rel => exact ⟨k + 1, by omega, by go_num, p, q, rfl, rfl, by rw [HX.out, HR.out]; simp [Hid, wstepF, hp']⟩
          case measure => simp [intOf]; omega
      · have HA : Hid (ws.take k = ws) := List.take_of_length_le (by omega)
        go_wp2_with fail
        go_ret2
        exact ⟨ret_w (by rw [← HA.out, HR.out]) (by rw [← HA.out, HR.out]), rfl⟩

end Go.Proofs.YtagnikhkmaplpaaGreat

/-
  Walks: the document's reader: marks, classes, digits, a fault.
-/
namespace Go.Proofs.YtagnikhkmaplpaaGreat
open Go.RowKit Go.Shelf
set_option linter.unusedVariables false

/-- The document's reader in its block. -/
def DrAt (W : World) (B : Nat) (s : ByteArray) (a : Nat) (e p : Int) : Prop := W.heap[B]? = some (.cells #[.string s, .int .i64 (a : Int), .int .i64 e, .int .i64 p] 45 (0, 0))
theorem DrAt.seen {W : World} {B : Nat} {s : ByteArray} {a : Nat} {e p : Int} (h : DrAt W B s a e p) : W.cell? ⟨B, 0, none⟩ = some (.string s) ∧ W.cell? ⟨B, 1, none⟩ = some (.int .i64 (a : Int)) ∧ W.cell? ⟨B, 2, none⟩ = some (.int .i64 e) ∧ W.cell? ⟨B, 3, none⟩ = some (.int .i64 p) ∧ W.frozen? ⟨B, 1, none⟩ = false ∧ W.frozen? ⟨B, 2, none⟩ = false ∧ W.frozen? ⟨B, 3, none⟩ = false :=
  ⟨cell_at 0 h rfl, cell_at 1 h rfl, cell_at 2 h rfl, cell_at 3 h rfl, one_free 1 h, one_free 2 h, one_free 3 h⟩
theorem DrAt.lt {W : World} {B : Nat} {s : ByteArray} {a : Nat} {e p : Int} (h : DrAt W B s a e p) : B < W.heap.size := (Array.getElem?_eq_some_iff.1 h).1
theorem DrAt.drewN {W : World} {B : Nat} {s : ByteArray} {a : Nat} {e p : Int} (h : DrAt W B s a e p) (n : Nat) : DrAt (W.drewN n) B s a e p := by unfold DrAt; rw [heap_drewN]; exact h
theorem DrAt.place {W : World} {B : Nat} {s : ByteArray} {a : Nat} {e p : Int} (h : DrAt W B s a e p) (x : Nat) : DrAt (W.setCell ⟨B, 1, none⟩ (.int .i64 (x : Int))) B s x e p := set_lies 1 (.int .i64 (x : Int)) h
theorem DrAt.step {W : World} {B : Nat} {s : ByteArray} {a : Nat} {e p : Int} (h : DrAt W B s a e p) : DrAt (W.setCell ⟨B, 1, none⟩ (.int .i64 ((a : Int) + 1))) B s (a + 1) e p := h.place (a + 1)
theorem DrAt.fault {W : World} {B : Nat} {s : ByteArray} {a : Nat} {e p : Int} (h : DrAt W B s a e p) (x y : Int) : DrAt ((W.setCell ⟨B, 2, none⟩ (.int .i64 x)).setCell ⟨B, 3, none⟩ (.int .i64 y)) B s a x y := by
  have h1 : DrAt (W.setCell ⟨B, 2, none⟩ (.int .i64 x)) B s a x p := set_lies 2 (.int .i64 x) h
  exact set_lies 3 (.int .i64 y) h1
theorem DrAt.below {W W' : World} {B : Nat} {s : ByteArray} {a : Nat} {e p : Int} (h : DrAt W B s a e p) (hb : Below W.heap.size W W') : DrAt W' B s a e p := (hb.block B h.lt).trans h

/-- A mark at a place. -/
def markB (l : List UInt8) (a : Nat) : Bool := (l[a]?.map isMark).getD false
/-- A byte of a class at a place. -/
def clsB (l : List UInt8) (a : Nat) (k : Int) : Bool := (l[a]?.map fun c => isC (c.toNat : Int) k).getD false
theorem markB_in (s : ByteArray) (a : Nat) (h : a < s.size) : markB s.data.toList a = isMark s[a] := by
  unfold markB; rw [List.getElem?_eq_getElem (by rw [len_data]; exact h)]; rfl
theorem markB_out (s : ByteArray) (a : Nat) (h : ¬ a < s.size) : markB s.data.toList a = false := by
  unfold markB; rw [List.getElem?_eq_none (by rw [len_data]; omega)]; rfl
theorem clsB_in (s : ByteArray) (a : Nat) (k : Int) (h : a < s.size) : clsB s.data.toList a k = isC (s[a].toNat : Int) k := by
  unfold clsB; rw [List.getElem?_eq_getElem (by rw [len_data]; exact h)]; rfl
theorem clsB_out (s : ByteArray) (a : Nat) (k : Int) (h : ¬ a < s.size) : clsB s.data.toList a k = false := by
  unfold clsB; rw [List.getElem?_eq_none (by rw [len_data]; omega)]; rfl

set_option maxHeartbeats 400000 in
theorem Rmark_any (c : UInt8) (w : World) : Calls Tryz.prog 93 #[.int .u8 (c.toNat : Int)] w fun e w' => e = .returned (.bool (isMark c)) ∧ w' = w := by
  have HM : Hid (isMark c = (((c.toNat : Int) == 45) || ((c.toNat : Int) == 95) || ((c.toNat : Int) == 46))) := by
    show _ = _
    have e : ∀ d : UInt8, (c == d) = ((c.toNat : Int) == (d.toNat : Int)) := fun d => by
      rw [Bool.eq_iff_iff]
      simp only [beq_iff_eq]
      constructor
      · intro h; rw [h]
      · intro h; exact UInt8.toNat_inj.1 (by omega)
    unfold isMark
    rw [e, e, e]; rfl
  generalize isMark c = M at *
  generalize (c.toNat : Int) = x at *
  cases h1 : (x == 45)
  · cases h2 : (x == 95)
    · cases h3 : (x == 46)
      · rw [h1, h2, h3] at HM
        go_enter Tryz.func93, Tryz.ntmps93
        go_wp2_with fail
        go_ret
        exact ⟨ret_b HM.out.symm, rfl⟩
      · rw [h1, h2, h3] at HM
        go_enter Tryz.func93, Tryz.ntmps93
        go_wp2_with fail
        go_ret
        exact ⟨ret_b HM.out.symm, rfl⟩
    · rw [h1, h2] at HM
      have HM : Hid (M = true) := by show _ = _; rw [HM.out]; simp
      go_enter Tryz.func93, Tryz.ntmps93
      go_wp2_with fail
      go_ret
      exact ⟨ret_b HM.out.symm, rfl⟩
  · rw [h1] at HM
    have HM : Hid (M = true) := by show _ = _; rw [HM.out]; simp
    go_enter Tryz.func93, Tryz.ntmps93
    go_wp2_with fail
    go_ret
    exact ⟨ret_b HM.out.symm, rfl⟩

set_option maxRecDepth 100000 in
set_option maxHeartbeats 1000000 in
theorem RmarkAt_any (B : Nat) (s : ByteArray) (a : Nat) (e p : Int) (k : Nat) (w : World) (h : DrAt w B s a e p) (ha : a ≤ s.size) (hk : k ≤ 1) (hs : s.size ≤ 64) :
    Calls Tryz.prog 63 #[.pointer (some ⟨B, 0, none⟩), .int .i64 (k : Int)] w fun r w' => r = .returned (.bool (markB s.data.toList (a + k))) ∧ ∃ n, w' = w.drewN n := by
  obtain ⟨c0, c1, c2, c3, f1, f2, f3⟩ := h.seen
  clear h
  obtain ⟨j, hj⟩ : ∃ j, j = a + k := ⟨_, rfl⟩
  rw [← hj]
  have eA : (a : Int) + (k : Int) = (j : Int) := by omega
  have wA : IntKind.i64.wrap (j : Int) = (j : Int) := by rw [IntKind.wrap_i64]; omega
  have j0 : (0 : Int) ≤ (j : Int) := by omega
  by_cases hl : j < s.size
  · have hd : ((j : Int) < (s.size : Int)) := by omega
    have MK := hide (fun w => Rmark_any s[j] w)
    rw [markB_in s j hl]
    generalize isMark s[j] = M at *
    clear hj ha hk
    go_enter Tryz.func63, Tryz.ntmps63
    go_wp2_with fail
    go_quiet (first | (go_at_call 93; exact Calls.quiet_of_same (MK.out _)) | fail)
    go_wp2_with fail
    go_ret
    exact ⟨rfl, _, rfl⟩
  · have hd : ¬ ((j : Int) < (s.size : Int)) := by omega
    rw [markB_out s j hl]
    clear hj ha hk
    go_enter Tryz.func63, Tryz.ntmps63
    go_wp2_with fail
    go_quiet (fail)
    go_wp2_with fail
    go_ret
    exact ⟨rfl, _, rfl⟩

set_option maxRecDepth 100000 in
set_option maxHeartbeats 1000000 in
theorem RbyteIs_any (B : Nat) (s : ByteArray) (a : Nat) (e p : Int) (k : Nat) (c : Int) (w : World) (h : DrAt w B s a e p) (ha : a ≤ s.size) (hk : k ≤ 1) (hs : s.size ≤ 64) :
    Calls Tryz.prog 28 #[.pointer (some ⟨B, 0, none⟩), .int .i64 (k : Int), .int .i64 c] w fun r w' => r = .returned (.bool (clsB s.data.toList (a + k) c)) ∧ ∃ n, w' = w.drewN n := by
  obtain ⟨c0, c1, c2, c3, f1, f2, f3⟩ := h.seen
  clear h
  obtain ⟨j, hj⟩ : ∃ j, j = a + k := ⟨_, rfl⟩
  rw [← hj]
  have eA : (a : Int) + (k : Int) = (j : Int) := by omega
  have wA : IntKind.i64.wrap (j : Int) = (j : Int) := by rw [IntKind.wrap_i64]; omega
  have j0 : (0 : Int) ≤ (j : Int) := by omega
  by_cases hl : j < s.size
  · have hd : ((j : Int) < (s.size : Int)) := by omega
    have MK := hide (fun w => RIs_any (s[j].toNat : Int) c w)
    rw [clsB_in s j c hl]
    generalize isC (s[j].toNat : Int) c = M at *
    clear hj ha hk
    go_enter Tryz.func28, Tryz.ntmps28
    go_wp2_with fail
    go_quiet (first | (go_at_call 61; exact Calls.quiet_of_same (MK.out _)) | fail)
    go_wp2_with fail
    go_ret
    exact ⟨rfl, _, rfl⟩
  · have hd : ¬ ((j : Int) < (s.size : Int)) := by omega
    rw [clsB_out s j c hl]
    clear hj ha hk
    go_enter Tryz.func28, Tryz.ntmps28
    go_wp2_with fail
    go_quiet (fail)
    go_wp2_with fail
    go_ret
    exact ⟨rfl, _, rfl⟩

set_option maxRecDepth 100000 in
set_option maxHeartbeats 1000000 in
theorem Rdigits_any (B : Nat) (s : ByteArray) (a : Nat) (e p : Int) (w : World) (h : DrAt w B s a e p) (ha : a ≤ s.size) (hs : s.size ≤ 64) :
    Calls Tryz.prog 27 #[.pointer (some ⟨B, 0, none⟩)] w fun r w' => r = .returned (.string (ofL (trimL (seg s.data.toList a (a + runL 1 (s.data.toList.drop a)))))) ∧ DrAt w' B s (a + runL 1 (s.data.toList.drop a)) e p ∧ Turn B w w' := by
  obtain ⟨c0, c1, c2, c3, f1, f2, f3⟩ := h.seen
  have H := hide h
  clear h
  have hr := runL_drop_le 1 s a ha
  have HR := runI_in s a 1 ha
  obtain ⟨E, hE⟩ : ∃ E, E = a + runL 1 (s.data.toList.drop a) := ⟨_, rfl⟩
  rw [← hE] at hr ⊢
  have hRI : runI s.data.toList (a : Int) 1 = (E : Int) := by rw [HR, hE]; simp
  have R1 := hide (fun W => RRun_any s (a : Int) 1 W (by unfold maxLen; omega))
  rw [hRI] at R1
  have TM := fun w => RTrim_any (s.extract a E) w (by rw [extract_seg, ofL_size]; unfold maxLen seg; simp only [List.length_drop, List.length_take]; rw [len_data]; omega)
  rw [extract_data] at TM
  have TM := hide TM
  have i0 : (0 : Int) ≤ (a : Int) := Int.natCast_nonneg _
  have i1 : (a : Int) ≤ (E : Int) := by omega
  have i2 : (E : Int) ≤ (s.size : Int) := by omega
  clear hRI HR hE
  go_enter Tryz.func27, Tryz.ntmps27
  go_wp2_with fail
  go_quiet (first | (go_at_call 26; exact Calls.quiet_of_same (R1.out _)) | fail)
  generalize hn1 : w.drewN nq = w1 at *
  have H1 : DrAt w1 B s a e p := by rw [← hn1]; exact H.out.drewN _
  have T1 : Turn B w w1 := by rw [← hn1]; exact Turn.drewN _ _ _
  clear hn1 c0 c1 c2 c3 f1 f2 f3
  obtain ⟨c0, c1, c2, c3, f1, f2, f3⟩ := H1.seen
  go_wp2_with fail
  go_quiet (fail)
  go_wp2_with fail
  refine (TM.out _).mono ?_
  rintro r w' ⟨rfl, hw'⟩
  rw [hw']
  clear hw' w'
  go_wp2_with fail
  go_ret
  exact ⟨rfl, (H1.drewN _).place _, T1.trans ((Turn.drewN _ _ _).trans (Turn.set _ _ _ _))⟩

set_option maxRecDepth 100000 in
set_option maxHeartbeats 1000000 in
theorem Rfail_any (B : Nat) (s : ByteArray) (a : Nat) (p : Int) (w : World) (h : DrAt w B s a 0 p) (ha : a ≤ s.size) (hs : s.size ≤ 64) :
    Calls Tryz.prog 29 #[.pointer (some ⟨B, 0, none⟩)] w fun r w' => r = .returned (.tuple #[]) ∧ DrAt w' B s a (misL s.size a) (a : Int) ∧ Turn B w w' := by
  obtain ⟨c0, c1, c2, c3, f1, f2, f3⟩ := h.seen
  have H := hide h
  clear h
  by_cases hl : a < s.size
  · have hM : misL s.size a = 10 := by unfold misL; rw [if_neg (by omega)]
    rw [hM]
    have hd : ¬ ((s.size : Int) ≤ (a : Int)) := by omega
    have hd2 : decide ((s.size : Int) ≤ (a : Int)) = false := by simpa using hd
    clear hM hl ha
    go_enter Tryz.func29, Tryz.ntmps29
    go_wp2_with fail
    go_quiet (fail)
    generalize hn1 : w.drewN nq = w1 at *
    have H1 : DrAt w1 B s a 0 p := by rw [← hn1]; exact H.out.drewN _
    have T1 : Turn B w w1 := by rw [← hn1]; exact Turn.drewN _ _ _
    clear hn1 c0 c1 c2 c3 f1 f2 f3
    obtain ⟨c0, c1, c2, c3, f1, f2, f3⟩ := H1.seen
    go_wp2_with fail
    go_end0
    exact ⟨rfl, H1.fault _ _, T1.trans ((Turn.set _ _ _ _).trans (Turn.set _ _ _ _))⟩
  · have hM : misL s.size a = 11 := by unfold misL; rw [if_pos (by omega)]
    rw [hM]
    have hd : ((s.size : Int) ≤ (a : Int)) := by omega
    have hd2 : decide ((s.size : Int) ≤ (a : Int)) = true := by simpa using hd
    clear hM hl ha
    go_enter Tryz.func29, Tryz.ntmps29
    go_wp2_with fail
    go_quiet (fail)
    generalize hn1 : w.drewN nq = w1 at *
    have H1 : DrAt w1 B s a 0 p := by rw [← hn1]; exact H.out.drewN _
    have T1 : Turn B w w1 := by rw [← hn1]; exact Turn.drewN _ _ _
    clear hn1 c0 c1 c2 c3 f1 f2 f3
    obtain ⟨c0, c1, c2, c3, f1, f2, f3⟩ := H1.seen
    go_wp2_with fail
    go_end0
    exact ⟨rfl, H1.fault _ _, T1.trans ((Turn.set _ _ _ _).trans (Turn.set _ _ _ _))⟩

end Go.Proofs.YtagnikhkmaplpaaGreat

/-
  Walks: the document's reader: numbers behind words, letters, words.
-/
namespace Go.Proofs.YtagnikhkmaplpaaGreat
open Go.RowKit Go.Shelf
set_option linter.unusedVariables false

theorem run_cls (l : List UInt8) (a : Nat) (k : Int) : (runL k (l.drop a) = 0) ↔ clsB l a k = false := by
  unfold clsB
  by_cases h : a < l.length
  · rw [List.drop_eq_getElem_cons h, List.getElem?_eq_getElem h]
    simp only [Option.map_some, Option.getD_some]
    rw [runL]
    cases isC (l[a].toNat : Int) k <;> simp
  · rw [List.drop_eq_nil_of_le (by omega), List.getElem?_eq_none (by omega)]
    simp [runL]
theorem mark_not_digit (c : UInt8) (h : isMark c = true) : isC (c.toNat : Int) 1 = false := by
  unfold isMark at h
  simp only [Bool.or_eq_true, beq_iff_eq] at h
  rcases h with (rfl | rfl) | rfl <;> rfl
theorem mark_cls (l : List UInt8) (a : Nat) (h : markB l a = true) : clsB l a 1 = false := by
  unfold markB at h
  unfold clsB
  cases hl : l[a]? with
  | none => rw [hl] at h; simp at h
  | some c => rw [hl] at h; simp only [Option.map_some, Option.getD_some] at h ⊢; exact mark_not_digit c h
theorem markL_t {l : List UInt8} {a : Nat} (h : markB l a = true) : markL l a = a + 1 := by unfold markL; unfold markB at h; rw [if_pos h]
theorem markL_f {l : List UInt8} {a : Nat} (h : markB l a = false) : markL l a = a := by unfold markL; unfold markB at h; rw [if_neg (by simp [h])]
/-- Behind a mark with digits. -/
theorem dig_t {l : List UInt8} {b : Nat} (h1 : markB l b = true) (h2 : clsB l (b + 1) 1 = true) : digP l b = b + 1 + runL 1 (l.drop (b + 1)) ∧ digT l b = seg l (b + 1) (b + 1 + runL 1 (l.drop (b + 1))) := by
  have hr : runL 1 (l.drop (b + 1)) ≠ 0 := fun h => by rw [(run_cls l (b + 1) 1).1 h] at h2; cases h2
  unfold digP digT digE
  rw [markL_t h1, if_pos (by omega)]
  exact ⟨rfl, rfl⟩
theorem dig_f {l : List UInt8} {b : Nat} (h1 : markB l b = true) (h2 : clsB l (b + 1) 1 = false) : digP l b = b ∧ digT l b = [] := by
  have hr : runL 1 (l.drop (b + 1)) = 0 := (run_cls l (b + 1) 1).2 h2
  unfold digP digT digE
  rw [markL_t h1, hr, if_neg (by omega), Nat.add_zero]
  exact ⟨rfl, seg_self _ _⟩
theorem dig_n {l : List UInt8} {b : Nat} (h1 : markB l b = false) (h2 : clsB l b 1 = true) : digP l b = b + runL 1 (l.drop b) ∧ digT l b = seg l b (b + runL 1 (l.drop b)) := by
  have hr : runL 1 (l.drop b) ≠ 0 := fun h => by rw [(run_cls l b 1).1 h] at h2; cases h2
  unfold digP digT digE
  rw [markL_f h1, if_pos (by omega)]
  exact ⟨rfl, rfl⟩
theorem dig_0 {l : List UInt8} {b : Nat} (h1 : markB l b = false) (h2 : clsB l b 1 = false) : digP l b = b ∧ digT l b = [] := by
  have hr : runL 1 (l.drop b) = 0 := (run_cls l b 1).2 h2
  unfold digP digT digE
  rw [markL_f h1, hr, if_neg (by omega), Nat.add_zero]
  exact ⟨rfl, seg_self _ _⟩
theorem trim_nil : trimL [] = [48] := rfl

set_option maxRecDepth 100000 in
set_option maxHeartbeats 1000000 in
theorem Rnum_any (B : Nat) (s : ByteArray) (b : Nat) (e p : Int) (w : World) (h : DrAt w B s b e p) (hb : b ≤ s.size) (hs : s.size ≤ 64) :
    Calls Tryz.prog 32 #[.pointer (some ⟨B, 0, none⟩)] w fun r w' => r = .returned (.string (ofL (trimL (digT s.data.toList b)))) ∧ DrAt w' B s (digP s.data.toList b) e p ∧ Turn B w w' := by
  have M0 := hide (fun w h => RmarkAt_any B s b e p 0 w h hb (by omega) hs)
  have I0 := hide (fun w h => RbyteIs_any B s b e p 0 1 w h hb (by omega) hs)
  have I1 := hide (fun w h => RbyteIs_any B s b e p 1 1 w h hb (by omega) hs)
  simp only [Nat.add_zero] at M0 I0
  have H := hide h
  clear h
  cases hm : markB s.data.toList b
  · rw [hm] at M0
    cases hd : clsB s.data.toList b 1
    · rw [hd] at I0
      obtain ⟨e1, e2⟩ := dig_0 hm hd
      rw [e1, e2, trim_nil]
      clear e1 e2 hm hd
      go_enter Tryz.func32, Tryz.ntmps32
      go_wp2_with fail
      refine (M0.out _ H.out).mono ?_
      rintro r w1 ⟨rfl, n1, rfl⟩
      go_wp2_with fail
      refine (I0.out _ (H.out.drewN _)).mono ?_
      rintro r w2 ⟨rfl, n2, rfl⟩
      go_wp2_with fail
      go_ret
      exact ⟨rfl, H.out.drewN _, Turn.drewN _ _ _⟩
    · rw [hd] at I0
      obtain ⟨e1, e2⟩ := dig_n hm hd
      rw [e1, e2]
      have DG := hide (fun w h => Rdigits_any B s b e p w h hb hs)
      clear e1 e2 hm hd
      go_enter Tryz.func32, Tryz.ntmps32
      go_wp2_with fail
      refine (M0.out _ H.out).mono ?_
      rintro r w1 ⟨rfl, n1, rfl⟩
      go_wp2_with fail
      refine (I0.out _ (H.out.drewN _)).mono ?_
      rintro r w2 ⟨rfl, n2, rfl⟩
      go_wp2_with fail
      refine (DG.out _ (H.out.drewN _)).mono ?_
      rintro r w3 ⟨rfl, h3, t3⟩
      go_wp2_with fail
      go_ret
      exact ⟨rfl, h3, (Turn.drewN _ _ _).trans t3⟩
  · rw [hm] at M0
    have hdb := mark_cls _ _ hm
    cases hd : clsB s.data.toList (b + 1) 1
    · rw [hd] at I1
      rw [hdb] at I0
      obtain ⟨e1, e2⟩ := dig_f hm hd
      rw [e1, e2, trim_nil]
      clear e1 e2 hm hd hdb
      go_enter Tryz.func32, Tryz.ntmps32
      go_wp2_with fail
      refine (M0.out _ H.out).mono ?_
      rintro r w1 ⟨rfl, n1, rfl⟩
      go_wp2_with fail
      refine (I1.out _ (H.out.drewN _)).mono ?_
      rintro r w2 ⟨rfl, n2, rfl⟩
      go_wp2_with fail
      refine (I0.out _ (H.out.drewN _)).mono ?_
      rintro r w3 ⟨rfl, n3, rfl⟩
      go_wp2_with fail
      go_ret
      exact ⟨rfl, H.out.drewN _, Turn.drewN _ _ _⟩
    · rw [hd] at I1
      obtain ⟨e1, e2⟩ := dig_t hm hd
      rw [e1, e2]
      have hb1 : b + 1 ≤ s.size := by
        by_cases hl : b + 1 < s.size
        · omega
        · rw [clsB_out s _ _ hl] at hd; cases hd
      have I2 := hide (fun w h => RbyteIs_any B s (b + 1) e p 0 1 w h hb1 (by omega) hs)
      simp only [Nat.add_zero] at I2
      rw [hd] at I2
      have DG := hide (fun w h => Rdigits_any B s (b + 1) e p w h hb1 hs)
      have hw : IntKind.i64.wrap ((b : Int) + 1) = (b : Int) + 1 := by rw [IntKind.wrap_i64]; omega
      clear e1 e2 hm hd hdb
      go_enter Tryz.func32, Tryz.ntmps32
      go_wp2_with fail
      refine (M0.out _ H.out).mono ?_
      rintro r w1 ⟨rfl, n1, hw1⟩
      have H1 : DrAt w1 B s b e p := by rw [hw1]; exact H.out.drewN _
      have T1 : Turn B w w1 := by rw [hw1]; exact Turn.drewN _ _ _
      clear hw1
      go_wp2_with fail
      refine (I1.out _ H1).mono ?_
      rintro r w2 ⟨rfl, n2, hw2⟩
      have H2 : DrAt w2 B s b e p := by rw [hw2]; exact H1.drewN _
      have T2 : Turn B w w2 := by rw [hw2]; exact T1.trans (Turn.drewN _ _ _)
      clear hw2 H1 T1
      obtain ⟨c0, c1, c2, c3, f1, f2, f3⟩ := H2.seen
      go_wp2_with fail
      refine (I2.out _ H2.step).mono ?_
      rintro r w3 ⟨rfl, n3, hw3⟩
      have H3 : DrAt w3 B s (b + 1) e p := by rw [hw3]; exact H2.step.drewN _
      have T3 : Turn B w w3 := by rw [hw3]; exact T2.trans ((Turn.set _ _ _ _).trans (Turn.drewN _ _ _))
      clear hw3 H2 T2
      go_wp2_with fail
      refine (DG.out _ H3).mono ?_
      rintro r w4 ⟨rfl, h4, t4⟩
      go_wp2_with fail
      go_ret
      exact ⟨rfl, h4, T3.trans t4⟩

/-- A pre-release's letter by its word. -/
def letC (x : List UInt8) : Int := if x = [97, 108, 112, 104, 97] ∨ x = [97] then 97 else if x = [98, 101, 116, 97] ∨ x = [98] then 98 else 114

set_option maxRecDepth 100000 in
set_option maxHeartbeats 1000000 in
theorem Rletter_any (x : List UInt8) (w : World) : Calls Tryz.prog 31 #[.string (ofL x)] w fun e w' => e = .returned (.int .u8 (letC x)) ∧ w' = w := by
  have q : ∀ y : List UInt8, ((ofL x).toList == y) = decide (x = y) := fun y => by
    rw [toL, ofL_data]
    rw [Bool.eq_iff_iff]; simp
  have q1 := q [97, 108, 112, 104, 97]
  have q2 := q [97]
  have q3 := q [98, 101, 116, 97]
  have q4 := q [98]
  clear q
  have HL : Hid (letC x = if x = [97, 108, 112, 104, 97] ∨ x = [97] then 97 else if x = [98, 101, 116, 97] ∨ x = [98] then 98 else 114) := rfl
  generalize letC x = L at *
  generalize ofL x = s at *
  by_cases h1 : x = [97, 108, 112, 104, 97]
  · rw [decide_eq_true h1] at q1
    have HL : Hid (L = 97) := by show _ = _; rw [HL.out, if_pos (.inl h1)]
    clear h1 q2 q3 q4
    go_enter Tryz.func31, Tryz.ntmps31
    go_wp2_with fail
    go_ret
    exact ⟨by rw [HL.out]; rfl, rfl⟩
  · rw [decide_eq_false h1] at q1
    by_cases h2 : x = [97]
    · rw [decide_eq_true h2] at q2
      have HL : Hid (L = 97) := by show _ = _; rw [HL.out, if_pos (.inr h2)]
      clear h1 h2 q3 q4
      go_enter Tryz.func31, Tryz.ntmps31
      go_wp2_with fail
      go_ret
      exact ⟨by rw [HL.out]; rfl, rfl⟩
    · rw [decide_eq_false h2] at q2
      by_cases h3 : x = [98, 101, 116, 97]
      · rw [decide_eq_true h3] at q3
        have HL : Hid (L = 98) := by show _ = _; rw [HL.out, if_neg (by rintro (h | h); exact h1 h; exact h2 h), if_pos (.inl h3)]
        clear h1 h2 h3 q4
        go_enter Tryz.func31, Tryz.ntmps31
        go_wp2_with fail
        go_ret
        exact ⟨by rw [HL.out]; rfl, rfl⟩
      · rw [decide_eq_false h3] at q3
        by_cases h4 : x = [98]
        · rw [decide_eq_true h4] at q4
          have HL : Hid (L = 98) := by show _ = _; rw [HL.out, if_neg (by rintro (h | h); exact h1 h; exact h2 h), if_pos (.inr h4)]
          clear h1 h2 h3 h4
          go_enter Tryz.func31, Tryz.ntmps31
          go_wp2_with fail
          go_ret
          exact ⟨by rw [HL.out]; rfl, rfl⟩
        · rw [decide_eq_false h4] at q4
          have HL : Hid (L = 114) := by show _ = _; rw [HL.out, if_neg (by rintro (h | h); exact h1 h; exact h2 h), if_neg (by rintro (h | h); exact h3 h; exact h4 h)]
          clear h1 h2 h3 h4
          go_enter Tryz.func31, Tryz.ntmps31
          go_wp2_with fail
          go_ret
          exact ⟨by rw [HL.out]; rfl, rfl⟩

end Go.Proofs.YtagnikhkmaplpaaGreat

/-
  Walks: the document's reader: a word behind a mark.
-/
namespace Go.Proofs.YtagnikhkmaplpaaGreat
open Go.RowKit Go.Shelf
set_option linter.unusedVariables false

theorem hasP_pfx (t x : List UInt8) : hasP t x = pfxB t x := by
  unfold hasP
  by_cases h : x.length ≤ t.length
  · rw [pfx_take t x h]
    rw [Bool.eq_iff_iff]; simp
  · rw [pfx_long t x h]
    rw [beq_eq_false_iff_ne]
    intro e
    have := congrArg List.length e
    simp at this
    omega
theorem starts_pfx (l : List UInt8) (m : Nat) (h : m ≤ l.length) (x : List UInt8) : startsL l (m : Int) x = pfxB (l.drop m) x := by
  unfold startsL
  rw [hasP_pfx]
  simp [h]
theorem word_keep (f : ByteArray → Bool) (x : List UInt8) : ∀ ws : List (List UInt8), (∀ y ∈ ws, f (ofL y) = true → ¬ x.length < y.length) → (ws.map ofL).foldl (wstepF f) (ofL x, true) = (ofL x, true)
  | [], _ => rfl
  | y :: ws, h => by
    rw [List.map_cons, List.foldl_cons, wstepF, if_neg]
    · exact word_keep f x ws (fun z hz => h z (List.mem_cons_of_mem _ hz))
    · rintro ⟨h1, h2⟩
      have := h y List.mem_cons_self h1
      rcases h2 with h2 | h2
      · cases h2
      · simp only [ofL_size] at h2; exact this h2
theorem word_first (f : ByteArray → Bool) : ∀ ws : List (List UInt8), ws.Pairwise (fun x y => f (ofL x) = true → f (ofL y) = true → ¬ x.length < y.length) →
    wordF f (ws.map ofL) = match ws.find? (fun x => f (ofL x)) with | some x => (ofL x, true) | none => (ByteArray.empty, false)
  | [], _ => rfl
  | x :: ws, h => by
    rw [List.pairwise_cons] at h
    unfold wordF
    rw [List.map_cons, List.foldl_cons, List.find?_cons]
    cases hx : f (ofL x)
    · rw [wstepF, if_neg (by rintro ⟨h1, _⟩; rw [hx] at h1; cases h1)]
      exact word_first f ws h.2
    · rw [wstepF, if_pos ⟨hx, .inl rfl⟩]
      exact word_keep f x ws (fun y hy hf => h.1 y hy hx hf)
theorem pfx_both {t x y : List UInt8} (hx : pfxB t x = true) (hy : pfxB t y = true) (hl : x.length < y.length) : x.isPrefixOf y = true := by
  unfold pfxB at hx hy
  rw [List.isPrefixOf_iff_prefix] at *
  exact List.prefix_of_prefix_length_le hx hy (by omega)
/-- Words of which none is the beginning of a later one. -/
def Apart (ws : List (List UInt8)) : Prop := ws.Pairwise fun x y => x.length < y.length → x.isPrefixOf y = false
theorem apart_pre : Apart preWs := by unfold Apart preWs; decide
theorem apart_post : Apart postWs := by unfold Apart postWs; decide
theorem apart_dev : Apart devWs := by unfold Apart devWs; decide
theorem word_is (l : List UInt8) (a : Nat) (ha : a ≤ l.length) (ws : List (List UInt8)) (h : Apart ws) :
    wordF (fun x => startsL l ((markL l a : Nat) : Int) x.data.toList) (ws.map ofL) = match wordL l a ws with | some x => (ofL x, true) | none => (ByteArray.empty, false) := by
  have hm := (mark_le l a ha).2.1
  have e : (fun x : ByteArray => startsL l ((markL l a : Nat) : Int) x.data.toList) = fun x => pfxB (l.drop (markL l a)) x.data.toList := funext fun x => starts_pfx l _ hm _
  rw [e, word_first]
  · unfold wordL
    simp only [ofL_data]
  · refine h.imp ?_
    intro x y hxy h1 h2 hl
    simp only [ofL_data] at h1 h2
    have := hxy hl
    rw [pfx_both h1 h2 hl] at this
    cases this

/-- What a word leaves. -/
def WPost (s : ByteArray) (a : Nat) (ws : List (List UInt8)) (B : Nat) (e p : Int) (w : World) (r : Ending) (w' : World) : Prop :=
  match wordL s.data.toList a ws with
  | none => r = .returned (.tuple #[.string ByteArray.empty, .bool false]) ∧ DrAt w' B s a e p ∧ Turn B w w'
  | some x => r = .returned (.tuple #[.string (ofL x), .bool true]) ∧ DrAt w' B s (markL s.data.toList a + x.length) e p ∧ Turn B w w'

set_option maxRecDepth 100000 in
set_option maxHeartbeats 2000000 in
theorem Rword_any (B : Nat) (s : ByteArray) (a A c : Nat) (e p : Int) (ws : List (List UInt8)) (w : World) (h : DrAt w B s a e p) (ha : a ≤ s.size) (hs : s.size ≤ 64) (hA : WordsAt w A ws) (hws : ws.length ≤ 64) (hwl : ∀ x ∈ ws, x.length ≤ 64) (hap : Apart ws) :
    Calls Tryz.prog 30 #[.pointer (some ⟨B, 0, none⟩), .slice (some ⟨A, 0, none⟩) ws.length c] w (WPost s a ws B e p w) := by
  have M0 := hide (fun w h => RmarkAt_any B s a e p 0 w h ha (by omega) hs)
  simp only [Nat.add_zero] at M0
  have H := hide h
  have hm := mark_le s.data.toList a (by rw [len_data]; exact ha)
  have HW := word_is s.data.toList a (by rw [len_data]; exact ha) ws hap
  have WD := fun W (hW : W.heap[A]? = w.heap[A]?) => RWord_any s ((markL s.data.toList a : Nat) : Int) (some ⟨A, 0, none⟩) (ws.map ofL) c W (by unfold maxLen; omega) (by rw [List.length_map]; unfold maxLen; omega) (by
    by_cases h0 : ws = []
    · left; rw [h0]; rfl
    · right
      refine ⟨A, 0, rfl, fun i hi => ?_⟩
      rw [List.length_map] at hi
      have hc : WordsAt W A ws := by unfold WordsAt; rw [hW]; exact hA
      have := hc.cell i hi
      rw [Nat.zero_add, this]
      simp [List.getD, hi])
  rw [List.length_map] at WD
  rw [HW] at WD
  have hwx : ∀ x, wordL s.data.toList a ws = some x → markL s.data.toList a + x.length ≤ 200 := fun x hx => by
    have := hwl x (List.mem_of_find?_eq_some hx)
    rw [len_data] at hm
    omega
  unfold WPost
  have hmk : (markB s.data.toList a = true ∧ markL s.data.toList a = a + 1) ∨ (markB s.data.toList a = false ∧ markL s.data.toList a = a) := by
    cases hb : markB s.data.toList a
    · exact .inr ⟨rfl, markL_f hb⟩
    · exact .inl ⟨rfl, markL_t hb⟩
  clear hA h HW hap hwl
  cases hx : wordL s.data.toList a ws with
  | none =>
    rw [hx] at WD
    have WD := hide WD
    clear hwx hx
    rcases hmk with ⟨hb, hl⟩ | ⟨hb, hl⟩
    · rw [hb] at M0
      have e1 : (a : Int) + 1 = ((markL s.data.toList a : Nat) : Int) := by omega
      have w1 : IntKind.i64.wrap ((markL s.data.toList a : Nat) : Int) = ((markL s.data.toList a : Nat) : Int) := by rw [IntKind.wrap_i64, len_data] at *; omega
      clear hl hb hm
      generalize ((markL s.data.toList a : Nat) : Int) = m at *
      go_enter Tryz.func30, Tryz.ntmps30
      go_wp2_with fail
      refine (M0.out _ H.out).mono ?_
      rintro r w1 ⟨rfl, n1, hw1⟩
      have H1 : DrAt w1 B s a e p := by rw [hw1]; exact H.out.drewN _
      have T1 : Turn B w w1 := by rw [hw1]; exact Turn.drewN _ _ _
      have A1 : w1.heap[A]? = w.heap[A]? := by rw [hw1, heap_drewN]
      have WD1 := hide (fun n => WD.out (w1.drewN n) (by rw [heap_drewN]; exact A1))
      clear hw1
      obtain ⟨c0, c1, c2, c3, f1, f2, f3⟩ := H1.seen
      go_wp2_with fail
      go_quiet (first | (go_at_call 64; exact Calls.quiet_of_same (WD1.out _)) | fail)
      go_wp2_with fail
      go_ret2
      exact ⟨rfl, H1.drewN _, T1.trans (Turn.drewN _ _ _)⟩
    · rw [hb] at M0
      have e1 : ((markL s.data.toList a : Nat) : Int) = (a : Int) := by omega
      rw [e1] at WD
      clear hl hb hm e1
      go_enter Tryz.func30, Tryz.ntmps30
      go_wp2_with fail
      refine (M0.out _ H.out).mono ?_
      rintro r w1 ⟨rfl, n1, hw1⟩
      have H1 : DrAt w1 B s a e p := by rw [hw1]; exact H.out.drewN _
      have T1 : Turn B w w1 := by rw [hw1]; exact Turn.drewN _ _ _
      have A1 : w1.heap[A]? = w.heap[A]? := by rw [hw1, heap_drewN]
      have WD1 := hide (fun n => WD.out (w1.drewN n) (by rw [heap_drewN]; exact A1))
      clear hw1
      obtain ⟨c0, c1, c2, c3, f1, f2, f3⟩ := H1.seen
      go_wp2_with fail
      go_quiet (first | (go_at_call 64; exact Calls.quiet_of_same (WD1.out _)) | fail)
      go_wp2_with fail
      go_ret2
      exact ⟨rfl, H1.drewN _, T1.trans (Turn.drewN _ _ _)⟩
  | some x =>
    rw [hx] at WD
    have WD := hide WD
    have hx2 := hwx x hx
    have hxs : (ofL x).size = x.length := ofL_size x
    clear hwx hx
    dsimp only
    obtain ⟨j, hj⟩ : ∃ j, j = markL s.data.toList a + x.length := ⟨_, rfl⟩
    rw [← hj]
    rcases hmk with ⟨hb, hl⟩ | ⟨hb, hl⟩
    · rw [hb] at M0
      rw [hl] at hj WD
      have e1 : ((a + 1 : Nat) : Int) = (a : Int) + 1 := by omega
      rw [e1] at WD
      have w1 : IntKind.i64.wrap ((a : Int) + 1) = (a : Int) + 1 := by rw [IntKind.wrap_i64]; omega
      have e2 : (a : Int) + 1 + (x.length : Int) = (j : Int) := by omega
      have w2 : IntKind.i64.wrap (j : Int) = (j : Int) := by rw [IntKind.wrap_i64]; omega
      clear hl hb hm e1 hj hx2
      go_enter Tryz.func30, Tryz.ntmps30
      go_wp2_with fail
      refine (M0.out _ H.out).mono ?_
      rintro r w1 ⟨rfl, n1, hw1⟩
      have H1 : DrAt w1 B s a e p := by rw [hw1]; exact H.out.drewN _
      have T1 : Turn B w w1 := by rw [hw1]; exact Turn.drewN _ _ _
      have A1 : w1.heap[A]? = w.heap[A]? := by rw [hw1, heap_drewN]
      have WD1 := hide (fun n => WD.out (w1.drewN n) (by rw [heap_drewN]; exact A1))
      clear hw1
      obtain ⟨c0, c1, c2, c3, f1, f2, f3⟩ := H1.seen
      go_wp2_with fail
      go_quiet (first | (go_at_call 64; exact Calls.quiet_of_same (WD1.out _)) | fail)
      go_wp2_with fail
      go_ret2
      exact ⟨rfl, (H1.drewN _).place _, T1.trans ((Turn.drewN _ _ _).trans (Turn.set _ _ _ _))⟩
    · rw [hb] at M0
      rw [hl] at hj WD
      have e2 : (a : Int) + (x.length : Int) = (j : Int) := by omega
      have w2 : IntKind.i64.wrap (j : Int) = (j : Int) := by rw [IntKind.wrap_i64]; omega
      clear hl hb hm hj hx2
      go_enter Tryz.func30, Tryz.ntmps30
      go_wp2_with fail
      refine (M0.out _ H.out).mono ?_
      rintro r w1 ⟨rfl, n1, hw1⟩
      have H1 : DrAt w1 B s a e p := by rw [hw1]; exact H.out.drewN _
      have T1 : Turn B w w1 := by rw [hw1]; exact Turn.drewN _ _ _
      have A1 : w1.heap[A]? = w.heap[A]? := by rw [hw1, heap_drewN]
      have WD1 := hide (fun n => WD.out (w1.drewN n) (by rw [heap_drewN]; exact A1))
      clear hw1
      obtain ⟨c0, c1, c2, c3, f1, f2, f3⟩ := H1.seen
      go_wp2_with fail
      go_quiet (first | (go_at_call 64; exact Calls.quiet_of_same (WD1.out _)) | fail)
      go_wp2_with fail
      go_ret2
      exact ⟨rfl, (H1.drewN _).place _, T1.trans ((Turn.drewN _ _ _).trans (Turn.set _ _ _ _))⟩

end Go.Proofs.YtagnikhkmaplpaaGreat

/-
  Walks: the document's reader: the local part.
-/
namespace Go.Proofs.YtagnikhkmaplpaaGreat
open Go.RowKit Go.Shelf
set_option linter.unusedVariables false

def txsV (S : List (List UInt8)) : List Value := S.map fun t => .string (ofL t)
theorem txsV_len (S : List (List UInt8)) : (txsV S).length = S.length := List.length_map _
theorem txsV_app (S R : List (List UInt8)) : txsV (S ++ R) = txsV S ++ txsV R := List.map_append
theorem txsV_one (R : List (List UInt8)) : ∀ u ∈ txsV R, u.oneCell' = true := by
  intro u hu
  obtain ⟨t, _, rfl⟩ := List.mem_map.1 hu
  rfl
theorem inf9 : ∃ i, Tryz.prog.info? 9 = some i ∧ i.zero = some (.string ⟨#[]⟩) ∧ i.bytes = 16 ∧ i.size = 1 := by
  cases h : Tryz.prog.info? 9 with
  | none => exact absurd (show (Tryz.prog.info? 9).isSome = true by kernel_rfl) (by rw [h]; simp)
  | some i =>
    refine ⟨i, rfl, ?_, ?_, ?_⟩
    · have : (Tryz.prog.info? 9).bind (fun i => i.zero) = some (.string ⟨#[]⟩) := by kernel_rfl
      rwa [h] at this
    · have : (Tryz.prog.info? 9).map (fun i => i.bytes) = some 16 := by kernel_rfl
      rw [h] at this; simpa using this
    · have : (Tryz.prog.info? 9).map (fun i => i.size) = some 1 := by kernel_rfl
      rw [h] at this; simpa using this
theorem own_shape {W : World} {B n : Nat} {v : Value} {xs : List Value} (h : W.ownsRow B 9 1 v n xs) : ∃ ao cv, v = .slice ao n cv := by
  rcases h.2 with ⟨h, h0⟩ | ⟨g, cap, cur, h1, _⟩
  · exact ⟨none, 0, by rw [h, h0]⟩
  · exact ⟨_, _, h1⟩
theorem own_block (ao : Option Addr) (n cv : Nat) : (Value.slice ao n cv).ownBlock = ao.map (·.block) := by cases ao <;> rfl
theorem cell_new (w : World) (e : TypeId) (x : List UInt8) : ∀ j u, (txsV [x])[j]? = some u → (w.alloc (.cells #[.string (ofL x)] e)).cell? ((⟨w.heap.size, 0, none⟩ : Addr).add j) = some u := by
  intro j u hj
  have h := fun j => World.cell?_alloc_mark w #[.string (ofL x)] e (0, 0) j
  match j, hj with
  | 0, hj => simp [txsV] at hj; subst hj; exact h 0
theorem own_lt {W : World} {B n cv : Nat} {ao : Option Addr} {xs : List Value} (h : W.ownsRow B 9 1 (.slice ao n cv) n xs) : ∀ k, ao.map (·.block) = some k → B ≤ k ∧ k < W.heap.size := fun k hk => h.lt k (by rw [own_block]; exact hk)

theorem app_any {w : World} {ops : Array Oper} {rest : List Oper} {o : Oper} {a : Act} {Q : Exit → Act → World → Prop} (hgd : o.guard = none) (s x : Operand)
    (ho : o.op = .call { callee := .builtin .append, args := #[s, x], argTypes := #[22, 22] })
    (B : Nat) (ao : Option Addr) (n cv : Nat) (S : List (List UInt8)) (hs : a.eval s = .slice ao n cv) (hown : w.ownsRow B 9 1 (.slice ao n cv) n (txsV S))
    (bo : Option Addr) (m c : Nat) (R : List (List UInt8)) (hx : a.eval x = .slice bo m c) (hR : R.length = m)
    (hnone : bo = none → m = 0 ∧ c = 0) (hc : ∀ ad, bo = some ad → ∀ j u, (txsV R)[j]? = some u → w.cell? (ad.add j) = some u) (hb : n + m ≤ 4194304) (hB : B ≤ w.heap.size)
    (h : ∀ ao' cv' w', w'.ownsRow B 9 1 (.slice ao' (n + m) cv') (n + m) (txsV (S ++ R)) → w.grownBy w' (ao.map (·.block)) → wpList Tryz.prog ops Q rest (a.put o.dst (.slice ao' (n + m) cv')) w') :
    wpList Tryz.prog ops Q (o :: rest) a w := by
  obtain ⟨i0, hi, hz0, hz2, hz1⟩ := inf9
  cases bo with
  | none =>
    obtain ⟨rfl, rfl⟩ := hnone rfl
    obtain rfl : R = [] := List.length_eq_zero_iff.1 hR
    refine wpList_append_own_none hgd s x 22 ho B 9 i0 1 Tryz.underlying22 hi _ n _ hs hown hx ?_
    have := h ao cv w (by simpa using hown) (World.grownBy.refl _ _)
    simpa using this
  | some ad =>
    refine wpList_append_own _ hgd s x 22 ho B 9 i0 (.string ⟨#[]⟩) 1 16 Tryz.underlying22 hi hz0 hz1 hz2 rfl (by decide) _ n _ hs hown ad m c (txsV R) hx (by rw [txsV_len, hR]; omega) (hc ad rfl) (txsV_one R) (by unfold maxLen; omega) (by omega) hB ?_
    intro v' w' h1 h2 _
    obtain ⟨ao', cv', rfl⟩ := own_shape h1
    rw [own_block] at h2
    exact h ao' cv' w' (by rw [txsV_app]; exact h1) h2
theorem vals_row (l : List UInt8) (xs : List (Nat × Nat)) : vals l xs = txsV (rowL l xs) := by simp [vals, txsV, rowL]
theorem DrAt.grown {W W' : World} {B n : Nat} {s : ByteArray} {a : Nat} {e p : Int} {ao : Option Addr} {cv base : Nat} {xs : List Value} (h : DrAt W B s a e p) (hg : W.grownBy W' (ao.map (·.block))) (ho : W.ownsRow base 9 1 (.slice ao n cv) n xs) (hB : B < base) : DrAt W' B s a e p :=
  (hg.block B h.lt (fun e' => by have := (own_lt ho B e'.symm).1; omega)).trans h
/-- A row of one more text behind a turn. -/
theorem Turn.grownR {W W' w : World} {B n cv base : Nat} {ao : Option Addr} {xs : List Value} (h : Turn B w W) (hg : W.grownBy W' (ao.map (·.block))) (ho : W.ownsRow base 9 1 (.slice ao n cv) n xs) (hb : w.heap.size ≤ base) : Turn B w W' :=
  turn_grown h hg (fun k hk => by have := (own_lt ho k hk).1; omega)
/-- The place at which the document's reader stands. -/
def dplace (W : World) (B : Nat) : Nat := (intOf ((W.cell? ⟨B, 1, none⟩).getD (.int .i64 0))).toNat
theorem DrAt.dplace {W : World} {B : Nat} {s : ByteArray} {a : Nat} {e p : Int} (h : DrAt W B s a e p) : dplace W B = a := by
  unfold Go.Proofs.YtagnikhkmaplpaaGreat.dplace
  rw [(h.seen).2.1]
  simp [intOf]

theorem seps_mark (c : UInt8) : ([45, 95, 46] : List UInt8).contains c = isMark c := by
  unfold isMark
  simp only [List.contains_cons, List.contains_nil, Bool.or_false]
  rw [Bool.or_assoc]
theorem mark_some {l : List UInt8} {e : Nat} (h : markB l e = true) : ∃ c, l[e]? = some c ∧ ([45, 95, 46] : List UInt8).contains c = true := by
  unfold markB at h
  cases hl : l[e]? with
  | none => rw [hl] at h; simp at h
  | some c => rw [hl] at h; exact ⟨c, rfl, by rw [seps_mark]; simpa using h⟩
theorem mark_no {l : List UInt8} {e : Nat} (h : markB l e = false) : ∀ c, l[e]? = some c → ([45, 95, 46] : List UInt8).contains c = false := by
  intro c hc
  unfold markB at h
  rw [hc] at h
  rw [seps_mark]; simpa using h
/-- Nothing goes on behind a run. -/
theorem locs_last {l : List UInt8} {k e : Nat} (he : k + runL 5 (l.drop k) = e) (hn : e ≠ k) (h : markB l e = false ∨ (markB l e = true ∧ clsB l (e + 1) 5 = false)) : runsL l 5 [45, 95, 46] k = [(k, e)] := by
  rcases h with h | ⟨h1, h2⟩
  · exact runs_last l 5 _ k e he hn (mark_no h)
  · obtain ⟨c, hc, hs⟩ := mark_some h1
    rw [runs_more l 5 _ k e he hn c hc hs, runs_none l 5 _ (e + 1) ((run_cls l (e + 1) 5).2 h2)]
theorem locs_more {l : List UInt8} {k e : Nat} (he : k + runL 5 (l.drop k) = e) (hn : e ≠ k) (h1 : markB l e = true) : runsL l 5 [45, 95, 46] k = (k, e) :: runsL l 5 [45, 95, 46] (e + 1) := by
  obtain ⟨c, hc, hs⟩ := mark_some h1
  exact runs_more l 5 _ k e he hn c hc hs

/-- What the local part leaves. -/
def LPost (s : ByteArray) (b B : Nat) (p : Int) (w : World) (r : Ending) (w' : World) : Prop :=
  ∃ v, r = .returned v ∧ w'.ownsRow w.heap.size 9 1 v (runsL s.data.toList 5 [45, 95, 46] b).length (vals s.data.toList (runsL s.data.toList 5 [45, 95, 46] b)) ∧
    DrAt w' B s (lastE b (runsL s.data.toList 5 [45, 95, 46] b)) (if (runsL s.data.toList 5 [45, 95, 46] b).length = 0 then misL s.size b else 0) (if (runsL s.data.toList 5 [45, 95, 46] b).length = 0 then (b : Int) else p) ∧ Turn B w w'

theorem lpost_nil {s : ByteArray} {b B : Nat} {p : Int} {w w' : World} (h : runsL s.data.toList 5 [45, 95, 46] b = []) (h1 : DrAt w' B s b (misL s.size b) (b : Int)) (h2 : Turn B w w') : LPost s b B p w (.returned (.slice none 0 0)) w' := by
  refine ⟨_, rfl, ?_⟩
  rw [h]
  exact ⟨World.ownsRow_nil _ _ _ _, h1, h2⟩
theorem lpost_ok {s : ByteArray} {b B n : Nat} {p : Int} {w w' : World} {v : Value} {xs : List (Nat × Nat)} {x : Nat × Nat} {S : List (List UInt8)} (h : runsL s.data.toList 5 [45, 95, 46] b = xs ++ [x]) (hS : rowL s.data.toList (xs ++ [x]) = S) (hn : n = xs.length + 1) (ho : w'.ownsRow w.heap.size 9 1 v n (txsV S)) (h1 : DrAt w' B s x.2 0 p) (h2 : Turn B w w') : LPost s b B p w (.returned v) w' := by
  refine ⟨v, rfl, ?_⟩
  rw [h, if_neg (by simp), if_neg (by simp), lastE_snoc, vals_row, hS]
  refine ⟨?_, h1, h2⟩
  rw [show (xs ++ [x]).length = n by simp [hn]]
  exact ho

set_option maxRecDepth 100000 in
set_option maxHeartbeats 8000000 in
theorem Rlocal_any (B : Nat) (s : ByteArray) (a b : Nat) (hab : b = a + 1) (p : Int) (w : World) (h : DrAt w B s a 0 p) (ha : a < s.size) (hs : s.size ≤ 64) :
    Calls Tryz.prog 33 #[.pointer (some ⟨B, 0, none⟩)] w (LPost s b B p w) := by
  obtain ⟨c0, c1, c2, c3, f1, f2, f3⟩ := h.seen
  have hBl := h.lt
  have H := hide h
  clear h
  have hlen : (runsL s.data.toList 5 [45, 95, 46] b).length ≤ 64 := by
    have := runs_len s.data.toList 5 [45, 95, 46] _ b rfl
    rw [len_data] at this
    omega
  have hwr : IntKind.i64.wrap (b : Int) = (b : Int) := by rw [IntKind.wrap_i64]; omega
  have hab' : (a : Int) + 1 = (b : Int) := by omega
  have hbs : b ≤ s.size := by omega
  clear hab
  have HLE : Hid (∀ k done, done ++ runsL s.data.toList 5 [45, 95, 46] k = runsL s.data.toList 5 [45, 95, 46] b → done.length ≤ 64) := fun k done h => by
    have := congrArg List.length h
    rw [List.length_append] at this
    omega
  clear hlen
  go_enter Tryz.func33, Tryz.ntmps33
  go_wp2_with fail
  clear c0 c1 c2 c3 f1 f2 f3
  go_loopw [3] (fun v wr => ∃ (k : Nat) (done : List (Nat × Nat)) (ao : Option Addr) (cv : Nat), v = .slice ao done.length cv ∧ b ≤ k ∧ k ≤ s.size ∧ DrAt wr B s k 0 p ∧ Turn B w wr ∧ Hid (wr.ownsRow w.heap.size 9 1 (.slice ao done.length cv) done.length (vals s.data.toList done)) ∧ Hid (done ++ runsL s.data.toList 5 [45, 95, 46] k = runsL s.data.toList 5 [45, 95, 46] b) ∧ Hid ((done = [] ∧ k = b) ∨ clsB s.data.toList k 5 = true)) (fun _ wr => s.size - dplace wr B)
  case atStart =>
    exact ⟨b, [], none, 0, rfl, Nat.le_refl _, hbs, H.out.place b, Turn.set _ _ _ _, World.ownsRow_nil _ _ _ _, rfl, .inl ⟨rfl, rfl⟩⟩
  case round =>
    obtain ⟨k, done, ao, cv, rfl, hak, hk, R, TU, HO, HL, HD⟩ := hrel
    have hme := R.dplace
    have hdl := HLE.out k done HL.out
    have hr := runL_drop_le 5 s k hk
    have HR := runI_in s k 5 hk
    obtain ⟨E, hE⟩ : ∃ E, k + runL 5 (s.data.toList.drop k) = E := ⟨_, rfl⟩
    rw [hE] at hr
    have hRI : runI s.data.toList (k : Int) 5 = (E : Int) := by rw [HR, ← hE]; simp
    have R1 := hide (fun W => RRun_any s (k : Int) 5 W (by unfold maxLen; omega))
    rw [hRI] at R1
    clear hRI HR
    obtain ⟨c0, c1, c2, c3, f1, f2, f3⟩ := R.seen
    by_cases hz : E = k
    · have hrun : runL 5 (s.data.toList.drop k) = 0 := by omega
      have hd0 : done = [] ∧ k = b := by
        rcases HD.out with h | h
        · exact h
        · rw [(run_cls _ _ _).1 hrun] at h; cases h
      obtain ⟨rfl, hkb⟩ := hd0
      have hbk := hkb.symm
      clear hkb
      subst hbk
      have HN : Hid (runsL s.data.toList 5 [45, 95, 46] b = []) := runs_none _ _ _ _ hrun
      have FL := hide (fun w h => Rfail_any B s b p w h hk hs)
      have hzE := hz.symm
      clear hz
      subst hzE
      have hb : ((b : Int) == (b : Int)) = true := by simp
      clear HL HD HLE HO
      go_wp2_with fail
      go_quiet (first | (go_at_call 26; exact Calls.quiet_of_same (R1.out _)) | fail)
      generalize hn1 : wr.drewN nq = w1 at *
      have H1 : DrAt w1 B s b 0 p := by rw [← hn1]; exact R.drewN _
      have T1 : Turn B w w1 := by rw [← hn1]; exact TU.trans (Turn.drewN _ _ _)
      clear hn1 c0 c1 c2 c3 f1 f2 f3
      obtain ⟨c0, c1, c2, c3, f1, f2, f3⟩ := H1.seen
      go_wp2_with fail
      refine (FL.out _ H1).mono ?_
      rintro r w2 ⟨rfl, h2, t2⟩
      go_wp2_with fail
      go_ret
      exact lpost_nil HN.out h2 (T1.trans t2)
    · have hb : ((E : Int) == (k : Int)) = false := by simp; omega
      have i0 : (0 : Int) ≤ (k : Int) := Int.natCast_nonneg _
      have i1 : (k : Int) ≤ (E : Int) := by omega
      have i2 : (E : Int) ≤ (s.size : Int) := by omega
      have hsg : (s.extract k E).size = E - k := by rw [extract_seg, ofL_size, seg_len _ _ _ (by rw [len_data]; omega)]
      have R2 := fun W => RRun_any (s.extract k E) 0 1 W (by unfold maxLen; omega)
      rw [show runI (s.extract k E).data.toList 0 1 = ((runL 1 (seg s.data.toList k E) : Nat) : Int) by have := runI_in (s.extract k E) 0 1 (Nat.zero_le _); rw [extract_data] at this ⊢; simpa using this] at R2
      have TM := fun w => RTrim_any (s.extract k E) w (by unfold maxLen; omega)
      rw [extract_data] at TM
      have hsl : (seg s.data.toList k E).length = E - k := seg_len _ _ _ (by rw [len_data]; omega)
      have hdg : digB (seg s.data.toList k E) = decide (runL 1 (seg s.data.toList k E) = E - k) := by
        unfold digB
        have hne : (seg s.data.toList k E).isEmpty = false := by
          rw [Bool.eq_false_iff]
          intro h
          rw [List.isEmpty_iff] at h
          rw [h] at hsl; simp at hsl; omega
        rw [hne, hsl, Bool.eq_iff_iff]; simp
      have HPL : Hid (plainL (seg s.data.toList k E) = if digB (seg s.data.toList k E) then trimL (seg s.data.toList k E) else seg s.data.toList k E) := rfl
      have HSE : Hid (ofL (seg s.data.toList k E) = s.extract k E) := by show _ = _; rw [extract_seg]
      have HRL : Hid (rowL s.data.toList (done ++ [(k, E)]) = rowL s.data.toList done ++ [plainL (seg s.data.toList k E)]) := by simp [rowL, Hid]
      have HRW := hide (vals_row s.data.toList)
      have hrl : (rowL s.data.toList done).length = done.length := by simp [rowL]
      have HEE := hide hE
      have HNE : Hid (E ≠ k) := hz
      have hkE : k < E := by omega
      have M0 := hide (fun w h => RmarkAt_any B s E 0 p 0 w h hr (by omega) hs)
      have I1 := hide (fun w h => RbyteIs_any B s E 0 p 1 5 w h hr (by omega) hs)
      simp only [Nat.add_zero] at M0
      have R2 := hide R2
      have TM := hide TM
      clear hE hz HD
      generalize hsgm : seg s.data.toList k E = g at *
      clear hsgm
      cases hdb : digB g
      · have HPT : Hid (ofL (plainL g) = s.extract k E) := by show _ = _; rw [HPL.out, hdb]; exact HSE.out
        rw [hdb] at hdg
        have hdg2 : (((runL 1 g : Nat) : Int) == ((s.extract k E).size : Int)) = false := by
          rw [hsg]
          have := of_decide_eq_false hdg.symm; rw [beq_eq_false_iff_ne]; omega
        clear hdg hdb HPL HSE
        generalize ((runL 1 g : Nat) : Int) = rq at *
        cases hm : markB s.data.toList E
        · rw [hm] at M0
          have HLA : Hid (runsL s.data.toList 5 [45, 95, 46] k = [(k, E)]) := locs_last HEE.out HNE.out (.inl hm)
          clear hm I1 HLE
          go_wp2_with fail
          go_quiet (first | (go_at_call 26; exact Calls.quiet_of_same (R1.out _)) | fail)
          generalize hn1 : wr.drewN nq = w1 at *
          have H1 : DrAt w1 B s k 0 p := by rw [← hn1]; exact R.drewN _
          have T1 : Turn B w w1 := by rw [← hn1]; exact TU.trans (Turn.drewN _ _ _)
          have O1 : Hid (w1.ownsRow w.heap.size 9 1 (.slice ao done.length cv) done.length (txsV (rowL s.data.toList done))) := by rw [← hn1, ← HRW.out]; exact own_turn HO.out (Turn.drewN _ _ _) hBl
          clear hn1 c0 c1 c2 c3 f1 f2 f3
          obtain ⟨c0, c1, c2, c3, f1, f2, f3⟩ := H1.seen
          go_wp2_with fail
          go_quiet (fail)
          generalize hn2 : w1.drewN nq = w2 at *
          have H2 : DrAt w2 B s k 0 p := by rw [← hn2]; exact H1.drewN _
          have T2 : Turn B w w2 := by rw [← hn2]; exact T1.trans (Turn.drewN _ _ _)
          have O2 : Hid (w2.ownsRow w.heap.size 9 1 (.slice ao done.length cv) done.length (txsV (rowL s.data.toList done))) := by rw [← hn2]; exact own_turn O1.out (Turn.drewN _ _ _) hBl
          clear hn2 c0 c1 c2 c3 f1 f2 f3 H1 T1 O1
          generalize hP : s.extract k E = P at *
          clear hP
          go_wp2_with fail
          refine (R2.out _).mono ?_
          rintro r w' ⟨rfl, hw'⟩
          rw [hw']; clear hw' w'
          rw [← HPT.out] at hdg2 ⊢
          have hsz2 : w.heap.size ≤ w2.heap.size := T2.size
          go_wp2_with (first
            | (at_builtin; refine app_any rfl (.tmp 47) (.tmp 49) rfl w.heap.size ao done.length cv (rowL s.data.toList done) rfl (O2.out.alloc _) (some ⟨w2.heap.size, 0, none⟩) 1 1 [plainL g] rfl rfl (fun h => by cases h) (fun ad h => by cases h; exact cell_new _ _ _) (by omega) (by simp; omega) ?_; intro ao3 cv3 w3 own3 grow3; have H3 : DrAt w3 B s k 0 p := DrAt.grown (H2.below ((Below.refl _ w2).alloc (Nat.le_refl _) _)) grow3 (O2.out.alloc _) hBl; have T3 : Turn B w w3 := Turn.grownR (T2.alloc _) grow3 (O2.out.alloc _) (Nat.le_refl _); obtain ⟨c0, c1, c2, c3, f1, f2, f3⟩ := H3.seen)
            | fail)
          have H4 := H3.place E
          have T4 : Turn B w _ := T3.trans (Turn.set B 1 w3 (.int .i64 (E : Int)))
          have O4 := own_turn own3 (Turn.set B 1 w3 (.int .i64 (E : Int))) hBl
          generalize w3.setCell ⟨B, 1, none⟩ (.int .i64 (E : Int)) = w4 at *
          clear c0 c1 c2 c3 f1 f2 f3 H3 T3 own3 grow3
          refine (M0.out _ H4).mono ?_
          rintro r w5 ⟨rfl, n5, hw5⟩
          have H5 : DrAt w5 B s E 0 p := by rw [hw5]; exact H4.drewN _
          have T5 : Turn B w w5 := by rw [hw5]; exact T4.trans (Turn.drewN _ _ _)
          have O5 := own_turn O4 (Turn.drewN B w4 n5) hBl
          rw [← hw5] at O5
          clear hw5 H4 T4 O4
          go_wp2_with fail
          go_ret
          exact lpost_ok (by rw [← HL.out, HLA.out]) HRL.out rfl O5 H5 T5
        · rw [hm] at M0
          cases hc : clsB s.data.toList (E + 1) 5
          · rw [hc] at I1
            have HLA : Hid (runsL s.data.toList 5 [45, 95, 46] k = [(k, E)]) := locs_last HEE.out HNE.out (.inr ⟨hm, hc⟩)
            clear hm hc HLE
            go_wp2_with fail
            go_quiet (first | (go_at_call 26; exact Calls.quiet_of_same (R1.out _)) | fail)
            generalize hn1 : wr.drewN nq = w1 at *
            have H1 : DrAt w1 B s k 0 p := by rw [← hn1]; exact R.drewN _
            have T1 : Turn B w w1 := by rw [← hn1]; exact TU.trans (Turn.drewN _ _ _)
            have O1 : Hid (w1.ownsRow w.heap.size 9 1 (.slice ao done.length cv) done.length (txsV (rowL s.data.toList done))) := by rw [← hn1, ← HRW.out]; exact own_turn HO.out (Turn.drewN _ _ _) hBl
            clear hn1 c0 c1 c2 c3 f1 f2 f3
            obtain ⟨c0, c1, c2, c3, f1, f2, f3⟩ := H1.seen
            go_wp2_with fail
            go_quiet (fail)
            generalize hn2 : w1.drewN nq = w2 at *
            have H2 : DrAt w2 B s k 0 p := by rw [← hn2]; exact H1.drewN _
            have T2 : Turn B w w2 := by rw [← hn2]; exact T1.trans (Turn.drewN _ _ _)
            have O2 : Hid (w2.ownsRow w.heap.size 9 1 (.slice ao done.length cv) done.length (txsV (rowL s.data.toList done))) := by rw [← hn2]; exact own_turn O1.out (Turn.drewN _ _ _) hBl
            clear hn2 c0 c1 c2 c3 f1 f2 f3 H1 T1 O1
            generalize hP : s.extract k E = P at *
            clear hP
            go_wp2_with fail
            refine (R2.out _).mono ?_
            rintro r w' ⟨rfl, hw'⟩
            rw [hw']; clear hw' w'
            rw [← HPT.out] at hdg2 ⊢
            have hsz2 : w.heap.size ≤ w2.heap.size := T2.size
            go_wp2_with (first
              | (at_builtin; refine app_any rfl (.tmp 47) (.tmp 49) rfl w.heap.size ao done.length cv (rowL s.data.toList done) rfl (O2.out.alloc _) (some ⟨w2.heap.size, 0, none⟩) 1 1 [plainL g] rfl rfl (fun h => by cases h) (fun ad h => by cases h; exact cell_new _ _ _) (by omega) (by simp; omega) ?_; intro ao3 cv3 w3 own3 grow3; have H3 : DrAt w3 B s k 0 p := DrAt.grown (H2.below ((Below.refl _ w2).alloc (Nat.le_refl _) _)) grow3 (O2.out.alloc _) hBl; have T3 : Turn B w w3 := Turn.grownR (T2.alloc _) grow3 (O2.out.alloc _) (Nat.le_refl _); obtain ⟨c0, c1, c2, c3, f1, f2, f3⟩ := H3.seen)
              | fail)
            have H4 := H3.place E
            have T4 : Turn B w _ := T3.trans (Turn.set B 1 w3 (.int .i64 (E : Int)))
            have O4 := own_turn own3 (Turn.set B 1 w3 (.int .i64 (E : Int))) hBl
            generalize w3.setCell ⟨B, 1, none⟩ (.int .i64 (E : Int)) = w4 at *
            clear c0 c1 c2 c3 f1 f2 f3 H3 T3 own3 grow3
            refine (M0.out _ H4).mono ?_
            rintro r w5 ⟨rfl, n5, hw5⟩
            have H5 : DrAt w5 B s E 0 p := by rw [hw5]; exact H4.drewN _
            have T5 : Turn B w w5 := by rw [hw5]; exact T4.trans (Turn.drewN _ _ _)
            have O5 := own_turn O4 (Turn.drewN B w4 n5) hBl
            rw [← hw5] at O5
            clear hw5 H4 T4 O4
            go_wp2_with fail
            refine (I1.out _ H5).mono ?_
            rintro r w6 ⟨rfl, n6, hw6⟩
            have H6 : DrAt w6 B s E 0 p := by rw [hw6]; exact H5.drewN _
            have T6 : Turn B w w6 := by rw [hw6]; exact T5.trans (Turn.drewN _ _ _)
            have O6 := own_turn O5 (Turn.drewN B w5 n6) hBl
            rw [← hw6] at O6
            clear hw6 H5 T5 O5
            go_wp2_with fail
            go_ret
            exact lpost_ok (by rw [← HL.out, HLA.out]) HRL.out rfl O6 H6 T6
          · rw [hc] at I1
            have hE1 : E + 1 < s.size := by
              by_cases hl : E + 1 < s.size
              · exact hl
              · rw [clsB_out s _ _ hl] at hc; cases hc
            have HMR : Hid (runsL s.data.toList 5 [45, 95, 46] k = (k, E) :: runsL s.data.toList 5 [45, 95, 46] (E + 1)) := locs_more HEE.out HNE.out hm
            have HCL := hide hc
            clear hm hc HLE
            go_wp2_with fail
            go_quiet (first | (go_at_call 26; exact Calls.quiet_of_same (R1.out _)) | fail)
            generalize hn1 : wr.drewN nq = w1 at *
            have H1 : DrAt w1 B s k 0 p := by rw [← hn1]; exact R.drewN _
            have T1 : Turn B w w1 := by rw [← hn1]; exact TU.trans (Turn.drewN _ _ _)
            have O1 : Hid (w1.ownsRow w.heap.size 9 1 (.slice ao done.length cv) done.length (txsV (rowL s.data.toList done))) := by rw [← hn1, ← HRW.out]; exact own_turn HO.out (Turn.drewN _ _ _) hBl
            clear hn1 c0 c1 c2 c3 f1 f2 f3
            obtain ⟨c0, c1, c2, c3, f1, f2, f3⟩ := H1.seen
            go_wp2_with fail
            go_quiet (fail)
            generalize hn2 : w1.drewN nq = w2 at *
            have H2 : DrAt w2 B s k 0 p := by rw [← hn2]; exact H1.drewN _
            have T2 : Turn B w w2 := by rw [← hn2]; exact T1.trans (Turn.drewN _ _ _)
            have O2 : Hid (w2.ownsRow w.heap.size 9 1 (.slice ao done.length cv) done.length (txsV (rowL s.data.toList done))) := by rw [← hn2]; exact own_turn O1.out (Turn.drewN _ _ _) hBl
            clear hn2 c0 c1 c2 c3 f1 f2 f3 H1 T1 O1
            generalize hP : s.extract k E = P at *
            clear hP
            go_wp2_with fail
            refine (R2.out _).mono ?_
            rintro r w' ⟨rfl, hw'⟩
            rw [hw']; clear hw' w'
            rw [← HPT.out] at hdg2 ⊢
            have hsz2 : w.heap.size ≤ w2.heap.size := T2.size
            go_wp2_with (first
              | (at_builtin; refine app_any rfl (.tmp 47) (.tmp 49) rfl w.heap.size ao done.length cv (rowL s.data.toList done) rfl (O2.out.alloc _) (some ⟨w2.heap.size, 0, none⟩) 1 1 [plainL g] rfl rfl (fun h => by cases h) (fun ad h => by cases h; exact cell_new _ _ _) (by omega) (by simp; omega) ?_; intro ao3 cv3 w3 own3 grow3; have H3 : DrAt w3 B s k 0 p := DrAt.grown (H2.below ((Below.refl _ w2).alloc (Nat.le_refl _) _)) grow3 (O2.out.alloc _) hBl; have T3 : Turn B w w3 := Turn.grownR (T2.alloc _) grow3 (O2.out.alloc _) (Nat.le_refl _); obtain ⟨c0, c1, c2, c3, f1, f2, f3⟩ := H3.seen)
              | fail)
            have H4 := H3.place E
            have T4 : Turn B w _ := T3.trans (Turn.set B 1 w3 (.int .i64 (E : Int)))
            have O4 := own_turn own3 (Turn.set B 1 w3 (.int .i64 (E : Int))) hBl
            generalize w3.setCell ⟨B, 1, none⟩ (.int .i64 (E : Int)) = w4 at *
            clear c0 c1 c2 c3 f1 f2 f3 H3 T3 own3 grow3
            refine (M0.out _ H4).mono ?_
            rintro r w5 ⟨rfl, n5, hw5⟩
            have H5 : DrAt w5 B s E 0 p := by rw [hw5]; exact H4.drewN _
            have T5 : Turn B w w5 := by rw [hw5]; exact T4.trans (Turn.drewN _ _ _)
            have O5 := own_turn O4 (Turn.drewN B w4 n5) hBl
            rw [← hw5] at O5
            clear hw5 H4 T4 O4
            go_wp2_with fail
            refine (I1.out _ H5).mono ?_
            rintro r w6 ⟨rfl, n6, hw6⟩
            have H6 : DrAt w6 B s E 0 p := by rw [hw6]; exact H5.drewN _
            have T6 : Turn B w w6 := by rw [hw6]; exact T5.trans (Turn.drewN _ _ _)
            have O6 := own_turn O5 (Turn.drewN B w5 n6) hBl
            rw [← hw6] at O6
            clear hw6 H5 T5 O5
            obtain ⟨c0, c1, c2, c3, f1, f2, f3⟩ := H6.seen
            have hwE : IntKind.i64.wrap ((E : Int) + 1) = (E : Int) + 1 := by rw [IntKind.wrap_i64]; omega
            go_wp2_with fail
            go_roundw
            case rel =>
              refine ⟨E + 1, done ++ [(k, E)], ao3, cv3, by simp, by omega, by omega, H6.step, T6.trans (Turn.set _ _ _ _), ?_, ?_, .inr HCL.out⟩
              · have := own_turn O6 (Turn.set B 1 w6 (.int .i64 ((E : Int) + 1))) hBl
                show World.ownsRow _ _ _ _ _ _ _
                rw [HRW.out, HRL.out]
                simpa using this
              · show _ = _
                rw [List.append_assoc, ← HL.out, HMR.out]; rfl
            case measure =>
              rw [H6.step.dplace, hme]
              omega
      · have HPT : Hid (ofL (plainL g) = ofL (trimL g)) := by show _ = _; rw [HPL.out, hdb]; rfl
        rw [hdb] at hdg
        have hdg2 : (((runL 1 g : Nat) : Int) == ((s.extract k E).size : Int)) = true := by
          rw [hsg]
          have := of_decide_eq_true hdg.symm; rw [this]; simp
        clear hdg hdb HPL HSE
        generalize ((runL 1 g : Nat) : Int) = rq at *
        cases hm : markB s.data.toList E
        · rw [hm] at M0
          have HLA : Hid (runsL s.data.toList 5 [45, 95, 46] k = [(k, E)]) := locs_last HEE.out HNE.out (.inl hm)
          clear hm I1 HLE
          go_wp2_with fail
          go_quiet (first | (go_at_call 26; exact Calls.quiet_of_same (R1.out _)) | fail)
          generalize hn1 : wr.drewN nq = w1 at *
          have H1 : DrAt w1 B s k 0 p := by rw [← hn1]; exact R.drewN _
          have T1 : Turn B w w1 := by rw [← hn1]; exact TU.trans (Turn.drewN _ _ _)
          have O1 : Hid (w1.ownsRow w.heap.size 9 1 (.slice ao done.length cv) done.length (txsV (rowL s.data.toList done))) := by rw [← hn1, ← HRW.out]; exact own_turn HO.out (Turn.drewN _ _ _) hBl
          clear hn1 c0 c1 c2 c3 f1 f2 f3
          obtain ⟨c0, c1, c2, c3, f1, f2, f3⟩ := H1.seen
          go_wp2_with fail
          go_quiet (fail)
          generalize hn2 : w1.drewN nq = w2 at *
          have H2 : DrAt w2 B s k 0 p := by rw [← hn2]; exact H1.drewN _
          have T2 : Turn B w w2 := by rw [← hn2]; exact T1.trans (Turn.drewN _ _ _)
          have O2 : Hid (w2.ownsRow w.heap.size 9 1 (.slice ao done.length cv) done.length (txsV (rowL s.data.toList done))) := by rw [← hn2]; exact own_turn O1.out (Turn.drewN _ _ _) hBl
          clear hn2 c0 c1 c2 c3 f1 f2 f3 H1 T1 O1
          generalize hP : s.extract k E = P at *
          clear hP
          go_wp2_with fail
          refine (R2.out _).mono ?_
          rintro r w' ⟨rfl, hw'⟩
          rw [hw']; clear hw' w'
          go_wp2_with fail
          refine (TM.out _).mono ?_
          rintro r w' ⟨rfl, hw'⟩
          rw [hw']; clear hw' w'
          rw [← HPT.out]
          have hsz2 : w.heap.size ≤ w2.heap.size := T2.size
          go_wp2_with (first
            | (at_builtin; refine app_any rfl (.tmp 47) (.tmp 49) rfl w.heap.size ao done.length cv (rowL s.data.toList done) rfl (O2.out.alloc _) (some ⟨w2.heap.size, 0, none⟩) 1 1 [plainL g] rfl rfl (fun h => by cases h) (fun ad h => by cases h; exact cell_new _ _ _) (by omega) (by simp; omega) ?_; intro ao3 cv3 w3 own3 grow3; have H3 : DrAt w3 B s k 0 p := DrAt.grown (H2.below ((Below.refl _ w2).alloc (Nat.le_refl _) _)) grow3 (O2.out.alloc _) hBl; have T3 : Turn B w w3 := Turn.grownR (T2.alloc _) grow3 (O2.out.alloc _) (Nat.le_refl _); obtain ⟨c0, c1, c2, c3, f1, f2, f3⟩ := H3.seen)
            | fail)
          have H4 := H3.place E
          have T4 : Turn B w _ := T3.trans (Turn.set B 1 w3 (.int .i64 (E : Int)))
          have O4 := own_turn own3 (Turn.set B 1 w3 (.int .i64 (E : Int))) hBl
          generalize w3.setCell ⟨B, 1, none⟩ (.int .i64 (E : Int)) = w4 at *
          clear c0 c1 c2 c3 f1 f2 f3 H3 T3 own3 grow3
          refine (M0.out _ H4).mono ?_
          rintro r w5 ⟨rfl, n5, hw5⟩
          have H5 : DrAt w5 B s E 0 p := by rw [hw5]; exact H4.drewN _
          have T5 : Turn B w w5 := by rw [hw5]; exact T4.trans (Turn.drewN _ _ _)
          have O5 := own_turn O4 (Turn.drewN B w4 n5) hBl
          rw [← hw5] at O5
          clear hw5 H4 T4 O4
          go_wp2_with fail
          go_ret
          exact lpost_ok (by rw [← HL.out, HLA.out]) HRL.out rfl O5 H5 T5
        · rw [hm] at M0
          cases hc : clsB s.data.toList (E + 1) 5
          · rw [hc] at I1
            have HLA : Hid (runsL s.data.toList 5 [45, 95, 46] k = [(k, E)]) := locs_last HEE.out HNE.out (.inr ⟨hm, hc⟩)
            clear hm hc HLE
            go_wp2_with fail
            go_quiet (first | (go_at_call 26; exact Calls.quiet_of_same (R1.out _)) | fail)
            generalize hn1 : wr.drewN nq = w1 at *
            have H1 : DrAt w1 B s k 0 p := by rw [← hn1]; exact R.drewN _
            have T1 : Turn B w w1 := by rw [← hn1]; exact TU.trans (Turn.drewN _ _ _)
            have O1 : Hid (w1.ownsRow w.heap.size 9 1 (.slice ao done.length cv) done.length (txsV (rowL s.data.toList done))) := by rw [← hn1, ← HRW.out]; exact own_turn HO.out (Turn.drewN _ _ _) hBl
            clear hn1 c0 c1 c2 c3 f1 f2 f3
            obtain ⟨c0, c1, c2, c3, f1, f2, f3⟩ := H1.seen
            go_wp2_with fail
            go_quiet (fail)
            generalize hn2 : w1.drewN nq = w2 at *
            have H2 : DrAt w2 B s k 0 p := by rw [← hn2]; exact H1.drewN _
            have T2 : Turn B w w2 := by rw [← hn2]; exact T1.trans (Turn.drewN _ _ _)
            have O2 : Hid (w2.ownsRow w.heap.size 9 1 (.slice ao done.length cv) done.length (txsV (rowL s.data.toList done))) := by rw [← hn2]; exact own_turn O1.out (Turn.drewN _ _ _) hBl
            clear hn2 c0 c1 c2 c3 f1 f2 f3 H1 T1 O1
            generalize hP : s.extract k E = P at *
            clear hP
            go_wp2_with fail
            refine (R2.out _).mono ?_
            rintro r w' ⟨rfl, hw'⟩
            rw [hw']; clear hw' w'
            go_wp2_with fail
            refine (TM.out _).mono ?_
            rintro r w' ⟨rfl, hw'⟩
            rw [hw']; clear hw' w'
            rw [← HPT.out]
            have hsz2 : w.heap.size ≤ w2.heap.size := T2.size
            go_wp2_with (first
              | (at_builtin; refine app_any rfl (.tmp 47) (.tmp 49) rfl w.heap.size ao done.length cv (rowL s.data.toList done) rfl (O2.out.alloc _) (some ⟨w2.heap.size, 0, none⟩) 1 1 [plainL g] rfl rfl (fun h => by cases h) (fun ad h => by cases h; exact cell_new _ _ _) (by omega) (by simp; omega) ?_; intro ao3 cv3 w3 own3 grow3; have H3 : DrAt w3 B s k 0 p := DrAt.grown (H2.below ((Below.refl _ w2).alloc (Nat.le_refl _) _)) grow3 (O2.out.alloc _) hBl; have T3 : Turn B w w3 := Turn.grownR (T2.alloc _) grow3 (O2.out.alloc _) (Nat.le_refl _); obtain ⟨c0, c1, c2, c3, f1, f2, f3⟩ := H3.seen)
              | fail)
            have H4 := H3.place E
            have T4 : Turn B w _ := T3.trans (Turn.set B 1 w3 (.int .i64 (E : Int)))
            have O4 := own_turn own3 (Turn.set B 1 w3 (.int .i64 (E : Int))) hBl
            generalize w3.setCell ⟨B, 1, none⟩ (.int .i64 (E : Int)) = w4 at *
            clear c0 c1 c2 c3 f1 f2 f3 H3 T3 own3 grow3
            refine (M0.out _ H4).mono ?_
            rintro r w5 ⟨rfl, n5, hw5⟩
            have H5 : DrAt w5 B s E 0 p := by rw [hw5]; exact H4.drewN _
            have T5 : Turn B w w5 := by rw [hw5]; exact T4.trans (Turn.drewN _ _ _)
            have O5 := own_turn O4 (Turn.drewN B w4 n5) hBl
            rw [← hw5] at O5
            clear hw5 H4 T4 O4
            go_wp2_with fail
            refine (I1.out _ H5).mono ?_
            rintro r w6 ⟨rfl, n6, hw6⟩
            have H6 : DrAt w6 B s E 0 p := by rw [hw6]; exact H5.drewN _
            have T6 : Turn B w w6 := by rw [hw6]; exact T5.trans (Turn.drewN _ _ _)
            have O6 := own_turn O5 (Turn.drewN B w5 n6) hBl
            rw [← hw6] at O6
            clear hw6 H5 T5 O5
            go_wp2_with fail
            go_ret
            exact lpost_ok (by rw [← HL.out, HLA.out]) HRL.out rfl O6 H6 T6
          · rw [hc] at I1
            have hE1 : E + 1 < s.size := by
              by_cases hl : E + 1 < s.size
              · exact hl
              · rw [clsB_out s _ _ hl] at hc; cases hc
            have HMR : Hid (runsL s.data.toList 5 [45, 95, 46] k = (k, E) :: runsL s.data.toList 5 [45, 95, 46] (E + 1)) := locs_more HEE.out HNE.out hm
            have HCL := hide hc
            clear hm hc HLE
            go_wp2_with fail
            go_quiet (first | (go_at_call 26; exact Calls.quiet_of_same (R1.out _)) | fail)
            generalize hn1 : wr.drewN nq = w1 at *
            have H1 : DrAt w1 B s k 0 p := by rw [← hn1]; exact R.drewN _
            have T1 : Turn B w w1 := by rw [← hn1]; exact TU.trans (Turn.drewN _ _ _)
            have O1 : Hid (w1.ownsRow w.heap.size 9 1 (.slice ao done.length cv) done.length (txsV (rowL s.data.toList done))) := by rw [← hn1, ← HRW.out]; exact own_turn HO.out (Turn.drewN _ _ _) hBl
            clear hn1 c0 c1 c2 c3 f1 f2 f3
            obtain ⟨c0, c1, c2, c3, f1, f2, f3⟩ := H1.seen
            go_wp2_with fail
            go_quiet (fail)
            generalize hn2 : w1.drewN nq = w2 at *
            have H2 : DrAt w2 B s k 0 p := by rw [← hn2]; exact H1.drewN _
            have T2 : Turn B w w2 := by rw [← hn2]; exact T1.trans (Turn.drewN _ _ _)
            have O2 : Hid (w2.ownsRow w.heap.size 9 1 (.slice ao done.length cv) done.length (txsV (rowL s.data.toList done))) := by rw [← hn2]; exact own_turn O1.out (Turn.drewN _ _ _) hBl
            clear hn2 c0 c1 c2 c3 f1 f2 f3 H1 T1 O1
            generalize hP : s.extract k E = P at *
            clear hP
            go_wp2_with fail
            refine (R2.out _).mono ?_
            rintro r w' ⟨rfl, hw'⟩
            rw [hw']; clear hw' w'
            go_wp2_with fail
            refine (TM.out _).mono ?_
            rintro r w' ⟨rfl, hw'⟩
            rw [hw']; clear hw' w'
            rw [← HPT.out]
            have hsz2 : w.heap.size ≤ w2.heap.size := T2.size
            go_wp2_with (first
              | (at_builtin; refine app_any rfl (.tmp 47) (.tmp 49) rfl w.heap.size ao done.length cv (rowL s.data.toList done) rfl (O2.out.alloc _) (some ⟨w2.heap.size, 0, none⟩) 1 1 [plainL g] rfl rfl (fun h => by cases h) (fun ad h => by cases h; exact cell_new _ _ _) (by omega) (by simp; omega) ?_; intro ao3 cv3 w3 own3 grow3; have H3 : DrAt w3 B s k 0 p := DrAt.grown (H2.below ((Below.refl _ w2).alloc (Nat.le_refl _) _)) grow3 (O2.out.alloc _) hBl; have T3 : Turn B w w3 := Turn.grownR (T2.alloc _) grow3 (O2.out.alloc _) (Nat.le_refl _); obtain ⟨c0, c1, c2, c3, f1, f2, f3⟩ := H3.seen)
              | fail)
            have H4 := H3.place E
            have T4 : Turn B w _ := T3.trans (Turn.set B 1 w3 (.int .i64 (E : Int)))
            have O4 := own_turn own3 (Turn.set B 1 w3 (.int .i64 (E : Int))) hBl
            generalize w3.setCell ⟨B, 1, none⟩ (.int .i64 (E : Int)) = w4 at *
            clear c0 c1 c2 c3 f1 f2 f3 H3 T3 own3 grow3
            refine (M0.out _ H4).mono ?_
            rintro r w5 ⟨rfl, n5, hw5⟩
            have H5 : DrAt w5 B s E 0 p := by rw [hw5]; exact H4.drewN _
            have T5 : Turn B w w5 := by rw [hw5]; exact T4.trans (Turn.drewN _ _ _)
            have O5 := own_turn O4 (Turn.drewN B w4 n5) hBl
            rw [← hw5] at O5
            clear hw5 H4 T4 O4
            go_wp2_with fail
            refine (I1.out _ H5).mono ?_
            rintro r w6 ⟨rfl, n6, hw6⟩
            have H6 : DrAt w6 B s E 0 p := by rw [hw6]; exact H5.drewN _
            have T6 : Turn B w w6 := by rw [hw6]; exact T5.trans (Turn.drewN _ _ _)
            have O6 := own_turn O5 (Turn.drewN B w5 n6) hBl
            rw [← hw6] at O6
            clear hw6 H5 T5 O5
            obtain ⟨c0, c1, c2, c3, f1, f2, f3⟩ := H6.seen
            have hwE : IntKind.i64.wrap ((E : Int) + 1) = (E : Int) + 1 := by rw [IntKind.wrap_i64]; omega
            go_wp2_with fail
            go_roundw
            case rel =>
              refine ⟨E + 1, done ++ [(k, E)], ao3, cv3, by simp, by omega, by omega, H6.step, T6.trans (Turn.set _ _ _ _), ?_, ?_, .inr HCL.out⟩
              · have := own_turn O6 (Turn.set B 1 w6 (.int .i64 ((E : Int) + 1))) hBl
                show World.ownsRow _ _ _ _ _ _ _
                rw [HRW.out, HRL.out]
                simpa using this
              · show _ = _
                rw [List.append_assoc, ← HL.out, HMR.out]; rfl
            case measure =>
              rw [H6.step.dplace, hme]
              omega

end Go.Proofs.YtagnikhkmaplpaaGreat

/-
  Plain laws: the document's reader reads what the program's reads; the state in which the document's Parse stands.
-/
namespace Go.Proofs.YtagnikhkmaplpaaGreat
open Go.RowKit Go.Shelf
set_option linter.unusedVariables false

theorem pfx_one (t : List UInt8) (c : UInt8) : pfxB t [c] = (t[0]? == some c) := by
  unfold pfxB
  cases t with
  | nil => rfl
  | cons d r => simp [List.isPrefixOf, Bool.beq_comm]
theorem drop_0 (l : List UInt8) (a : Nat) : (l.drop a)[0]? = l[a]? := by rw [List.getElem?_drop]; rfl
theorem epo_all : ∀ t : List UInt8, (hasB t && (runL 1 (cutB t) == (cutB t).length)) = (t[runL 1 t]? == some 33) ∧ (t[runL 1 t]? = some 33 → cutB t = t.take (runL 1 t))
  | [] => ⟨rfl, fun h => by cases h⟩
  | c :: r => by
    obtain ⟨ih1, ih2⟩ := epo_all r
    by_cases h33 : c = 33
    · subst h33
      have e1 : hasB (33 :: r) = true := by unfold hasB Lib.indexByte; simp
      have e2 : cutB (33 :: r) = [] := by unfold cutB; simp
      have e3 : runL 1 (33 :: r) = 0 := by rw [runL, if_neg (by decide)]
      rw [e1, e2, e3]
      exact ⟨rfl, fun _ => rfl⟩
    · have e1 : hasB (c :: r) = hasB r := by
        unfold hasB
        congr 1
        rw [Lib.indexByte]
        have hne : (c == 33) = false := by simpa using h33
        rw [if_neg (by simp [h33])]
        by_cases hi : Lib.indexByte r 33 = -1
        · simp [hi]
        · have hge := Lib.indexByte_ge r 33
          simp only [hi, ne_eq, not_false_eq_true]
          simp
          omega
      have e2 : cutB (c :: r) = c :: cutB r := by unfold cutB; rw [List.takeWhile_cons]; simp [h33]
      rw [e1, e2]
      cases hc : isC (c.toNat : Int) 1
      · have e3 : runL 1 (c :: r) = 0 := by rw [runL, if_neg (by simp [hc])]
        have e4 : runL 1 (c :: cutB r) = 0 := by rw [runL, if_neg (by simp [hc])]
        rw [e3, e4]
        refine ⟨?_, fun h => absurd (Option.some.inj h) h33⟩
        simp [h33]
      · have e3 : runL 1 (c :: r) = runL 1 r + 1 := by rw [runL, if_pos hc]
        have e4 : runL 1 (c :: cutB r) = runL 1 (cutB r) + 1 := by rw [runL, if_pos hc]
        rw [e3, e4, List.getElem?_cons_succ]
        refine ⟨?_, fun h => by rw [ih2 h]; rfl⟩
        rw [← ih1]
        congr 1
        rw [List.length_cons, Bool.eq_iff_iff]
        simp
theorem epo_is (l : List UInt8) (a : Nat) : epoB l a = (decide (0 < runL 1 (l.drop a)) && (l[a + runL 1 (l.drop a)]? == some 33)) := by
  unfold epoB
  obtain ⟨h1, h2⟩ := epo_all (l.drop a)
  rw [List.getElem?_drop] at h1 h2
  unfold digB
  cases hb : (l[a + runL 1 (l.drop a)]? == some 33)
  · rw [hb] at h1
    rw [Bool.and_false]
    cases hh : hasB (l.drop a)
    · rfl
    · rw [hh, Bool.true_and] at h1
      rw [h1]; simp
  · rw [hb] at h1
    rw [Bool.and_true]
    rw [Bool.and_eq_true] at h1
    rw [h1.1, h1.2, Bool.and_true, Bool.true_and, h2 (by simpa using hb)]
    rw [Bool.eq_iff_iff]
    simp only [Bool.not_eq_true', decide_eq_true_eq, List.isEmpty_eq_false_iff, ne_eq, List.take_eq_nil_iff, not_or]
    constructor
    · intro h; omega
    · intro h
      refine ⟨by omega, fun e => ?_⟩
      rw [e] at h; simp [runL] at h
theorem epo_cut {l : List UInt8} {a : Nat} (h : epoB l a = true) : cutB (l.drop a) = seg l a (a + runL 1 (l.drop a)) ∧ epoP l a = a + runL 1 (l.drop a) + 1 ∧ epoT l a = trimL (seg l a (a + runL 1 (l.drop a))) := by
  have h' := h
  rw [epo_is, Bool.and_eq_true] at h'
  have h2 := (epo_all (l.drop a)).2 (by rw [List.getElem?_drop]; simpa using h'.2)
  have hlt : a + runL 1 (l.drop a) < l.length := by
    have := h'.2
    by_cases hl : a + runL 1 (l.drop a) < l.length
    · exact hl
    · rw [List.getElem?_eq_none (by omega)] at this; cases this
  have e : cutB (l.drop a) = seg l a (a + runL 1 (l.drop a)) := by rw [h2, seg_run]
  refine ⟨e, ?_, ?_⟩
  · unfold epoP; rw [if_pos h, e, seg_len _ _ _ (by omega)]; omega
  · unfold epoT; rw [if_pos h, e]
theorem epo_no {l : List UInt8} {a : Nat} (h : epoB l a = false) : epoP l a = a ∧ epoT l a = [48] := by
  unfold epoP epoT; rw [if_neg (by simp [h]), if_neg (by simp [h])]; exact ⟨rfl, rfl⟩

/-- Nothing goes on behind a run of digits. -/
theorem rels_last {l : List UInt8} {k e : Nat} (he : k + runL 1 (l.drop k) = e) (hn : e ≠ k) (h : (l[e]? == some 46) = false ∨ ((l[e]? == some 46) = true ∧ clsB l (e + 1) 1 = false)) : runsL l 1 [46] k = [(k, e)] := by
  rcases h with h | ⟨h1, h2⟩
  · refine runs_last l 1 _ k e he hn (fun c hc => ?_)
    rw [hc] at h
    simpa using h
  · rw [runs_more l 1 _ k e he hn 46 (by simpa using h1) rfl, runs_none l 1 _ (e + 1) ((run_cls l (e + 1) 1).2 h2)]
theorem rels_more {l : List UInt8} {k e : Nat} (he : k + runL 1 (l.drop k) = e) (hn : e ≠ k) (h1 : (l[e]? == some 46) = true) : runsL l 1 [46] k = (k, e) :: runsL l 1 [46] (e + 1) :=
  runs_more l 1 _ k e he hn 46 (by simpa using h1) rfl
theorem plain_run (l : List UInt8) (k : Nat) (h : runL 1 (l.drop k) ≠ 0) : plainL (seg l k (k + runL 1 (l.drop k))) = trimL (seg l k (k + runL 1 (l.drop k))) := by
  have hd : digB (seg l k (k + runL 1 (l.drop k))) = true := by
    have hle := runL_le 1 (l.drop k)
    have hlen : (seg l k (k + runL 1 (l.drop k))).length = runL 1 (l.drop k) := by rw [seg_run, List.length_take]; omega
    unfold digB
    rw [hlen, seg_run, run_take]
    simp only [BEq.rfl, Bool.and_true, Bool.not_eq_true', List.isEmpty_eq_false_iff, ne_eq]
    intro e
    rw [seg_run, e] at hlen
    simp at hlen
    omega
  unfold plainL
  rw [if_pos hd]
/-- A dash with digits behind it. -/
theorem dash_is (l : List UInt8) (a : Nat) : dashB l a = ((l[a]? == some 45) && clsB l (a + 1) 1) := by
  unfold dashB
  rw [pfx_one, drop_0]
  cases h : (l[a]? == some 45)
  · rfl
  · have hm : markB l a = true := by
      have : l[a]? = some 45 := by simpa using h
      unfold markB; rw [this]; rfl
    rw [Bool.true_and, Bool.true_and]
    cases hc : clsB l (a + 1) 1
    · rw [(dig_f hm hc).2]; rfl
    · rw [(dig_t hm hc).2]
      have hr : runL 1 (l.drop (a + 1)) ≠ 0 := fun h => by rw [(run_cls l (a + 1) 1).1 h] at hc; cases hc
      have hle := runL_le 1 (l.drop (a + 1))
      rw [seg_run]
      simp only [Bool.not_eq_true', List.isEmpty_eq_false_iff, ne_eq, List.take_eq_nil_iff, not_or]
      exact ⟨hr, fun e => hr (by rw [e]; rfl)⟩
theorem dash_dig {l : List UInt8} {a : Nat} (h : dashB l a = true) : digP l a = a + 1 + runL 1 (l.drop (a + 1)) ∧ digT l a = seg l (a + 1) (a + 1 + runL 1 (l.drop (a + 1))) ∧ clsB l (a + 1) 1 = true ∧ l[a]? = some 45 := by
  rw [dash_is, Bool.and_eq_true] at h
  have hm : markB l a = true := by
    have : l[a]? = some 45 := by simpa using h.1
    unfold markB; rw [this]; rfl
  obtain ⟨e1, e2⟩ := dig_t hm h.2
  exact ⟨e1, e2, h.2, by simpa using h.1⟩
theorem at_eq (s : ByteArray) (a : Nat) (c : UInt8) (h : a < s.size) : (s.data.toList[a]? == some c) = ((s[a].toNat : Int) == (c.toNat : Int)) := by
  rw [at_some s a h, Bool.eq_iff_iff]
  simp only [beq_iff_eq, Option.some.injEq]
  constructor
  · intro h; rw [h]
  · intro h; exact UInt8.toNat_inj.1 (by omega)
theorem at_neq (s : ByteArray) (a : Nat) (c : UInt8) (h : ¬ a < s.size) : (s.data.toList[a]? == some c) = false := by rw [at_none s a h]; rfl

/-- Where the document's Parse stands. -/
structure DV (w : World) (Q : Nat) (s : ByteArray) (a : Nat) (e p : Int) (c0 c1 c2 c3 c4 c5 c6 c7 c8 : Value) (xs ys : List Value) (W : World) : Prop where
  bel : Below w.heap.size w W
  res : W.heap[w.heap.size]? = some (.cells #[.string ⟨#[]⟩, .slice none 0 0, .int .u8 0, .string ⟨#[]⟩, .bool false, .string ⟨#[]⟩, .bool false, .string ⟨#[]⟩, .slice none 0 0] 24 (0, 0))
  fau : W.heap[w.heap.size + 1]? = some (.cells #[.int .i64 0, .int .i64 0] 27 (0, 0))
  lt : w.heap.size + 1 < Q
  rd : DrAt W Q s a e p
  ver : W.heap[Q + 1]? = some (.cells #[c0, c1, c2, c3, c4, c5, c6, c7, c8] 24 (0, 0))
  rel : W.ownsRow (Q + 2) 9 1 c1 xs.length xs
  loc : W.ownsRow (Q + 2) 9 1 c8 ys.length ys
section
variable {w : World} {Q : Nat} {s : ByteArray} {a a' : Nat} {e p e' p' : Int} {c0 c1 c2 c3 c4 c5 c6 c7 c8 : Value} {xs ys : List Value} {W W' : World}
theorem DV.szQ (h : DV w Q s a e p c0 c1 c2 c3 c4 c5 c6 c7 c8 xs ys W) : Q + 1 < W.heap.size := (Array.getElem?_eq_some_iff.1 h.ver).1
theorem DV.turn (h : DV w Q s a e p c0 c1 c2 c3 c4 c5 c6 c7 c8 xs ys W) (t : Turn Q W W') (r : DrAt W' Q s a' e' p') : DV w Q s a' e' p' c0 c1 c2 c3 c4 c5 c6 c7 c8 xs ys W' := by
  have hq := h.szQ
  have hl := h.lt
  refine ⟨h.bel.trans (t.below (by omega) h.bel.size), (t.block _ (by omega) (by omega)).trans h.res, (t.block _ (by omega) (by omega)).trans h.fau, hl, r, (t.block _ hq (by omega)).trans h.ver, own_turn h.rel t (by omega), own_turn h.loc t (by omega)⟩
theorem DV.drewN (h : DV w Q s a e p c0 c1 c2 c3 c4 c5 c6 c7 c8 xs ys W) (n : Nat) : DV w Q s a e p c0 c1 c2 c3 c4 c5 c6 c7 c8 xs ys (W.drewN n) := h.turn (Turn.drewN _ _ _) (h.rd.drewN _)
theorem DV.alloc (h : DV w Q s a e p c0 c1 c2 c3 c4 c5 c6 c7 c8 xs ys W) (o : Obj) : DV w Q s a e p c0 c1 c2 c3 c4 c5 c6 c7 c8 xs ys (W.alloc o) := h.turn (Turn.ofBelow ((Below.refl _ W).alloc (Nat.le_refl _) o)) (h.rd.below ((Below.refl _ W).alloc (Nat.le_refl _) o))
theorem DV.seen (h : DV w Q s a e p c0 c1 c2 c3 c4 c5 c6 c7 c8 xs ys W) : W.cell? ⟨Q + 1, 0, none⟩ = some c0 ∧ W.cell? ⟨Q + 1, 1, none⟩ = some c1 ∧ W.cell? ⟨Q + 1, 2, none⟩ = some c2 ∧ W.cell? ⟨Q + 1, 3, none⟩ = some c3 ∧ W.cell? ⟨Q + 1, 4, none⟩ = some c4 ∧ W.cell? ⟨Q + 1, 5, none⟩ = some c5 ∧ W.cell? ⟨Q + 1, 6, none⟩ = some c6 ∧ W.cell? ⟨Q + 1, 7, none⟩ = some c7 ∧ W.cell? ⟨Q + 1, 8, none⟩ = some c8 := seen9 h.ver
theorem DV.free (h : DV w Q s a e p c0 c1 c2 c3 c4 c5 c6 c7 c8 xs ys W) (o : Nat) : W.frozen? ⟨Q + 1, o, none⟩ = false := one_free o h.ver
/-- A cell of the version is written. -/
theorem DV.set (h : DV w Q s a e p c0 c1 c2 c3 c4 c5 c6 c7 c8 xs ys W) (o : Nat) (u : Value) {d0 d2 d3 d4 d5 d6 d7 : Value} (hd : (#[c0, c1, c2, c3, c4, c5, c6, c7, c8] : Array Value).setIfInBounds o u = #[d0, c1, d2, d3, d4, d5, d6, d7, c8]) : DV w Q s a e p d0 c1 d2 d3 d4 d5 d6 d7 c8 xs ys (W.setCell ⟨Q + 1, o, none⟩ u) := by
  have hq := h.szQ
  have hl := h.lt
  have t : Turn (Q + 1) W (W.setCell ⟨Q + 1, o, none⟩ u) := Turn.set _ _ _ _
  refine ⟨h.bel.trans (t.below (by omega) h.bel.size), (t.block _ (by omega) (by omega)).trans h.res, (t.block _ (by omega) (by omega)).trans h.fau, hl, (t.block _ (by omega) (by omega)).trans h.rd, ?_, own_turn h.rel t (by omega), own_turn h.loc t (by omega)⟩
  have := set_lies o u h.ver
  rw [hd] at this
  exact this
/-- The release's row is another. -/
theorem DV.setRel {ao ao' : Option Addr} {n n' cv cv' : Nat} {S S' : List (List UInt8)} (h : DV w Q s a e p c0 (.slice ao n cv) c2 c3 c4 c5 c6 c7 c8 (txsV S) ys W) (hn : n = S.length) (hg : W.grownBy W' (ao.map (·.block))) (ho : W'.ownsRow (Q + 2) 9 1 (.slice ao' n' cv') n' (txsV S')) (hn' : n' = S'.length) (hy : ys = []) (h8 : c8 = .slice none 0 0) :
    DV w Q s a e p c0 (.slice ao' n' cv') c2 c3 c4 c5 c6 c7 c8 (txsV S') ys (W'.setCell ⟨Q + 1, 1, none⟩ (.slice ao' n' cv')) := by
  have hq := h.szQ
  have hl := h.lt
  have hs := hg.size
  have hr := h.rel
  rw [txsV_len, ← hn] at hr
  have hblk : ∀ k, k < Q + 2 → k < W.heap.size → W'.heap[k]? = W.heap[k]? := fun k hk hkw => hg.block k hkw (fun e => by have := (own_lt hr k e.symm).1; omega)
  have t : Turn (Q + 1) W' (W'.setCell ⟨Q + 1, 1, none⟩ (.slice ao' n' cv')) := Turn.set _ _ _ _
  have hbl : Below w.heap.size w W' := ⟨hg.os.trans h.bel.os, hg.tape.trans h.bel.tape, hg.output.trans h.bel.output, Nat.le_trans h.bel.size hg.size, fun k hk => (hblk k (by omega) (Nat.lt_of_lt_of_le hk h.bel.size)).trans (h.bel.block k hk)⟩
  refine ⟨hbl.trans (t.below (by omega) hbl.size), (t.block _ (by omega) (by omega)).trans ((hblk _ (by omega) (by omega)).trans h.res), (t.block _ (by omega) (by omega)).trans ((hblk _ (by omega) (by omega)).trans h.fau), hl, (t.block _ (by omega) (by omega)).trans ((hblk _ (by omega) (by omega)).trans h.rd), ?_, ?_, ?_⟩
  · have := set_lies 1 (.slice ao' n' cv') ((hblk _ (by omega) hq).trans h.ver)
    exact this
  · rw [txsV_len, ← hn']
    exact own_turn ho t (by omega)
  · subst hy h8
    exact World.ownsRow_nil _ _ _ _
/-- The local row is laid. -/
theorem DV.setLoc {v : Value} {zs : List Value} {b : Nat} (h : DV w Q s a e p c0 c1 c2 c3 c4 c5 c6 c7 c8 xs ys W) (ho : W.ownsRow b 9 1 v zs.length zs) (hb : Q + 2 ≤ b) : DV w Q s a e p c0 c1 c2 c3 c4 c5 c6 c7 v xs zs (W.setCell ⟨Q + 1, 8, none⟩ v) := by
  have hq := h.szQ
  have hl := h.lt
  have t : Turn (Q + 1) W (W.setCell ⟨Q + 1, 8, none⟩ v) := Turn.set _ _ _ _
  refine ⟨h.bel.trans (t.below (by omega) h.bel.size), (t.block _ (by omega) (by omega)).trans h.res, (t.block _ (by omega) (by omega)).trans h.fau, hl, (t.block _ (by omega) (by omega)).trans h.rd, ?_, own_turn h.rel t (by omega), own_turn (own_weak ho hb) t (by omega)⟩
  exact set_lies 8 v h.ver
end

end Go.Proofs.YtagnikhkmaplpaaGreat
