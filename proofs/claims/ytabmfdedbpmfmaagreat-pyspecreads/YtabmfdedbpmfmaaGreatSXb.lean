/-
  Walks: the document's words. · Walks: the document's reader: marks, classes, digits, a fault. · Walks: the document's reader: numbers behind words, letters, words.
-/
import Derived.Test.YtabmfdedbpmfmaaGreatSGb
import Derived.BigQuiet
import Derived.Deep.QuietTactic
import Derived.Test.YtabmfdedbpmfmaaGreatSPd
import Derived.Test.YtabmfdedbpmfmaaGreatSPg
namespace Go.Proofs.YtabmfdedbpmfmaaGreat
open Go.RowKit
set_option linter.unusedVariables false

def hasP (s x : List UInt8) : Bool := s.take x.length == x

theorem hasP_short (s x : List UInt8) (h : s.length < x.length) : hasP s x = false := by
  unfold hasP
  rw [beq_eq_false_iff_ne]
  intro e
  have := congrArg List.length e
  simp at this
  omega

def startsL (s : List UInt8) (n : Int) (x : List UInt8) : Bool := (decide (0 ≤ n) && decide (n ≤ (s.length : Int))) && hasP (s.drop n.toNat) x

set_option maxHeartbeats 400000 in
theorem Starts_any (s : ByteArray) (n : Int) (x : ByteArray) (w : World) (hs : s.size ≤ maxLen) :
    Calls Tryz.prog 113 #[.string s, .int .i64 n, .string x] w fun e w' => e = .returned (.bool (startsL s.data.toList n x.data.toList)) ∧ w' = w := by
  unfold maxLen at hs
  by_cases h0 : 0 ≤ n
  · obtain ⟨m, rfl⟩ := Int.eq_ofNat_of_zero_le h0
    by_cases h1 : m ≤ s.size
    · by_cases h2 : m + x.size ≤ s.size
      · have HE : Hid (((s.extract m (m + x.size)).toList == x.toList) = startsL s.data.toList m x.data.toList) := by
          show _ = _
          rw [toL, toL, extract_ofL, ofL_data, startsL, hasP, len_data, len_data, List.drop_take]
          simp [h1]
        go_enter Tryz.func113, Tryz.ntmps113
        go_wp2
        go_ret
        exact ⟨ret_b HE.out, rfl⟩
      · have HE : Hid (startsL s.data.toList m x.data.toList = false) := by
          show _ = _
          rw [startsL, hasP_short _ _ (by rw [List.length_drop, len_data, len_data]; simp; omega)]; simp
        go_enter Tryz.func113, Tryz.ntmps113
        go_wp2
        go_ret
        exact ⟨ret_b HE.out.symm, rfl⟩
    · have HE : Hid (startsL s.data.toList m x.data.toList = false) := by
        show _ = _
        rw [startsL, len_data]; simp; omega
      go_enter Tryz.func113, Tryz.ntmps113
      go_wp2
      go_ret
      exact ⟨ret_b HE.out.symm, rfl⟩
  · have HE : Hid (startsL s.data.toList n x.data.toList = false) := by
      show _ = _
      rw [startsL]; simp; omega
    go_enter Tryz.func113, Tryz.ntmps113
    go_wp2
    go_ret
    exact ⟨ret_b HE.out.symm, rfl⟩

def Words (W : World) (a : Option Addr) (ws : List ByteArray) : Prop :=
  ws = [] ∨ ∃ b off, a = some ⟨b, off, none⟩ ∧ ∀ i, i < ws.length → W.cell? ⟨b, off + i, none⟩ = some (.string (ws.getD i ByteArray.empty))

theorem ret_w {a c : ByteArray} {b d : Bool} (h1 : a = c) (h2 : b = d) : Ending.returned (.tuple #[.string a, .bool b]) = .returned (.tuple #[.string c, .bool d]) := by rw [h1, h2]

def wstepF (f : ByteArray → Bool) (acc : ByteArray × Bool) (x : ByteArray) : ByteArray × Bool :=
  if f x = true ∧ (acc.2 = false ∨ acc.1.size < x.size) then (x, true) else acc
def wordF (f : ByteArray → Bool) (ws : List ByteArray) : ByteArray × Bool := ws.foldl (wstepF f) (ByteArray.empty, false)
theorem wordF_succ (f : ByteArray → Bool) (ws : List ByteArray) (k : Nat) (h : k < ws.length) : wordF f (ws.take (k + 1)) = wstepF f (wordF f (ws.take k)) (ws.getD k ByteArray.empty) := by
  unfold wordF
  rw [List.take_succ_eq_append_getElem h, List.foldl_append]
  simp [List.getD, h]
set_option maxHeartbeats 1000000 in
theorem RWord_any (s : ByteArray) (n : Int) (a0 : Option Addr) (ws : List ByteArray) (cap : Nat) (w : World) (hs : s.size ≤ maxLen) (hw : ws.length ≤ maxLen) (hv : Words w a0 ws) :
    Calls Tryz.prog 84 #[.string s, .int .i64 n, .slice a0 ws.length cap] w fun e w' => e = .returned (.tuple #[.string (wordF (fun x => startsL s.data.toList n x.data.toList) ws).1, .bool (wordF (fun x => startsL s.data.toList n x.data.toList) ws).2]) ∧ w' = w := by
  have HP : Hid (∀ x w, Calls Tryz.prog 113 #[.string s, .int .i64 n, .string x] w fun e w' => e = .returned (.bool (startsL s.data.toList n x.data.toList)) ∧ w' = w) := fun x w => Starts_any s n x w hs
  unfold maxLen at hs hw
  obtain ⟨f, hf⟩ : ∃ f : ByteArray → Bool, (fun x => startsL s.data.toList n x.data.toList) = f := ⟨_, rfl⟩
  have HP' : Hid (∀ x w, Calls Tryz.prog 113 #[.string s, .int .i64 n, .string x] w fun e w' => e = .returned (.bool (f x)) ∧ w' = w) := fun x w => by
    have := HP.out x w
    rw [← hf]; exact this
  rw [hf]
  clear HP hf
  rcases hv with rfl | ⟨b, off, rfl, hc⟩
  · go_enter Tryz.func84, Tryz.ntmps84
    go_wp2_with fail
    refine wp_loop_rounds 1 ?_
    rw [rounds_succ]
    go_wp2
    go_ret2
    exact ⟨rfl, rfl⟩
  · have HC := hide hc
    clear hc
    go_enter Tryz.func84, Tryz.ntmps84
    go_wp2_with fail
    go_loop [8, 9, 10] (fun x y i => ∃ k : Nat, k ≤ ws.length ∧ i = .int .i64 k ∧ ∃ p q, x = .string p ∧ y = .bool q ∧ Hid (wordF f (ws.take k) = (p, q))) (fun _ _ i => ws.length - (intOf i).toNat)
    case atStart => exact ⟨0, by omega, rfl, _, _, rfl, rfl, rfl⟩
    case round =>
      obtain ⟨k, hk, rfl, p, q, rfl, rfl, HR⟩ := hrel
      by_cases hlt : k < ws.length
      · have hcell := HC.out k hlt
        have HX : Hid _ := wordF_succ f ws k hlt
        generalize ws.getD k ByteArray.empty = x at *
        by_cases hp : f x = true
        · cases q with
          | false =>
            go_wp2_with (go_at_call 113; refine (HP'.out _ _).mono ?_; rintro e w' ⟨rfl, rfl⟩)
            go_round
            case rel => exact ⟨k + 1, by omega, by go_num, x, true, rfl, rfl, by rw [HX.out, HR.out]; simp [Hid, wstepF, hp]⟩
            case measure => simp [intOf]; omega
          | true =>
            by_cases hsz : p.size < x.size
            · go_wp2_with (go_at_call 113; refine (HP'.out _ _).mono ?_; rintro e w' ⟨rfl, rfl⟩)
              go_round
              case rel => exact ⟨k + 1, by omega, by go_num, x, true, rfl, rfl, by rw [HX.out, HR.out]; simp [Hid, wstepF, hp, hsz]⟩
              case measure => simp [intOf]; omega
            · go_wp2_with (go_at_call 113; refine (HP'.out _ _).mono ?_; rintro e w' ⟨rfl, rfl⟩)
              go_round
              case rel => exact ⟨k + 1, by omega, by go_num, p, true, rfl, rfl, by rw [HX.out, HR.out]; simp [Hid, wstepF, hp]; omega⟩
              case measure => simp [intOf]; omega
        · have hp' : f x = false := by simpa using hp
          go_wp2_with (go_at_call 113; refine (HP'.out _ _).mono ?_; rintro e w' ⟨rfl, rfl⟩)
          go_round
          case rel => exact ⟨k + 1, by omega, by go_num, p, q, rfl, rfl, by rw [HX.out, HR.out]; simp [Hid, wstepF, hp']⟩
          case measure => simp [intOf]; omega
      · have HA : Hid (ws.take k = ws) := List.take_of_length_le (by omega)
        go_wp2_with fail
        go_ret2
        exact ⟨ret_w (by rw [← HA.out, HR.out]) (by rw [← HA.out, HR.out]), rfl⟩

end Go.Proofs.YtabmfdedbpmfmaaGreat

namespace Go.Proofs.YtabmfdedbpmfmaaGreat
open Go.RowKit Go.Shelf
set_option linter.unusedVariables false

def DrAt (W : World) (B : Nat) (s : ByteArray) (a : Nat) (e p : Int) : Prop := W.heap[B]? = some (.cells #[.string s, .int .i64 (a : Int), .int .i64 e, .int .i64 p] 80 (0, 0))
theorem DrAt.seen {W : World} {B : Nat} {s : ByteArray} {a : Nat} {e p : Int} (h : DrAt W B s a e p) : W.cell? ⟨B, 0, none⟩ = some (.string s) ∧ W.cell? ⟨B, 1, none⟩ = some (.int .i64 (a : Int)) ∧ W.cell? ⟨B, 2, none⟩ = some (.int .i64 e) ∧ W.cell? ⟨B, 3, none⟩ = some (.int .i64 p) ∧ W.frozen? ⟨B, 1, none⟩ = false ∧ W.frozen? ⟨B, 2, none⟩ = false ∧ W.frozen? ⟨B, 3, none⟩ = false :=
  ⟨cell_at 0 h rfl, cell_at 1 h rfl, cell_at 2 h rfl, cell_at 3 h rfl, one_free 1 h, one_free 2 h, one_free 3 h⟩
theorem DrAt.lt {W : World} {B : Nat} {s : ByteArray} {a : Nat} {e p : Int} (h : DrAt W B s a e p) : B < W.heap.size := (Array.getElem?_eq_some_iff.1 h).1
theorem DrAt.drewN {W : World} {B : Nat} {s : ByteArray} {a : Nat} {e p : Int} (h : DrAt W B s a e p) (n : Nat) : DrAt (W.drewN n) B s a e p := by unfold DrAt; rw [heap_drewN]; exact h
theorem DrAt.place {W : World} {B : Nat} {s : ByteArray} {a : Nat} {e p : Int} (h : DrAt W B s a e p) (x : Nat) : DrAt (W.setCell ⟨B, 1, none⟩ (.int .i64 (x : Int))) B s x e p := set_lies 1 (.int .i64 (x : Int)) h
theorem DrAt.step {W : World} {B : Nat} {s : ByteArray} {a : Nat} {e p : Int} (h : DrAt W B s a e p) : DrAt (W.setCell ⟨B, 1, none⟩ (.int .i64 ((a : Int) + 1))) B s (a + 1) e p := h.place (a + 1)
theorem DrAt.fault {W : World} {B : Nat} {s : ByteArray} {a : Nat} {e p : Int} (h : DrAt W B s a e p) (x y : Int) : DrAt ((W.setCell ⟨B, 2, none⟩ (.int .i64 x)).setCell ⟨B, 3, none⟩ (.int .i64 y)) B s a x y := by
  have h1 : DrAt (W.setCell ⟨B, 2, none⟩ (.int .i64 x)) B s a x p := set_lies 2 (.int .i64 x) h
  exact set_lies 3 (.int .i64 y) h1
theorem DrAt.below {W W' : World} {B : Nat} {s : ByteArray} {a : Nat} {e p : Int} (h : DrAt W B s a e p) (hb : Below W.heap.size W W') : DrAt W' B s a e p := (hb.block B h.lt).trans h

def markB (l : List UInt8) (a : Nat) : Bool := (l[a]?.map isMark).getD false
def clsB (l : List UInt8) (a : Nat) (k : Int) : Bool := (l[a]?.map fun c => isC (c.toNat : Int) k).getD false
theorem markB_in (s : ByteArray) (a : Nat) (h : a < s.size) : markB s.data.toList a = isMark s[a] := by
  unfold markB; rw [List.getElem?_eq_getElem (by rw [len_data]; exact h)]; rfl
theorem markB_out (s : ByteArray) (a : Nat) (h : ¬ a < s.size) : markB s.data.toList a = false := by
  unfold markB; rw [List.getElem?_eq_none (by rw [len_data]; omega)]; rfl
theorem clsB_in (s : ByteArray) (a : Nat) (k : Int) (h : a < s.size) : clsB s.data.toList a k = isC (s[a].toNat : Int) k := by
  unfold clsB; rw [List.getElem?_eq_getElem (by rw [len_data]; exact h)]; rfl
theorem clsB_out (s : ByteArray) (a : Nat) (k : Int) (h : ¬ a < s.size) : clsB s.data.toList a k = false := by
  unfold clsB; rw [List.getElem?_eq_none (by rw [len_data]; omega)]; rfl

set_option maxHeartbeats 400000 in
theorem Rmark_any (c : UInt8) (w : World) : Calls Tryz.prog 112 #[.int .u8 (c.toNat : Int)] w fun e w' => e = .returned (.bool (isMark c)) ∧ w' = w := by
  have HM : Hid (isMark c = (((c.toNat : Int) == 45) || ((c.toNat : Int) == 95) || ((c.toNat : Int) == 46))) := by
    show _ = _
    have e : ∀ d : UInt8, (c == d) = ((c.toNat : Int) == (d.toNat : Int)) := fun d => by
      rw [Bool.eq_iff_iff]
      simp only [beq_iff_eq]
      constructor
      · intro h; rw [h]
      · intro h; exact UInt8.toNat_inj.1 (by omega)
    unfold isMark
    rw [e, e, e]; rfl
  generalize isMark c = M at *
  generalize (c.toNat : Int) = x at *
  cases h1 : (x == 45)
  · cases h2 : (x == 95)
    · cases h3 : (x == 46)
      · rw [h1, h2, h3] at HM
        go_enter Tryz.func112, Tryz.ntmps112
        go_wp2_with fail
        go_ret
        exact ⟨ret_b HM.out.symm, rfl⟩
      · rw [h1, h2, h3] at HM
        go_enter Tryz.func112, Tryz.ntmps112
        go_wp2_with fail
        go_ret
        exact ⟨ret_b HM.out.symm, rfl⟩
    · rw [h1, h2] at HM
      have HM : Hid (M = true) := by show _ = _; rw [HM.out]; simp
      go_enter Tryz.func112, Tryz.ntmps112
      go_wp2_with fail
      go_ret
      exact ⟨ret_b HM.out.symm, rfl⟩
  · rw [h1] at HM
    have HM : Hid (M = true) := by show _ = _; rw [HM.out]; simp
    go_enter Tryz.func112, Tryz.ntmps112
    go_wp2_with fail
    go_ret
    exact ⟨ret_b HM.out.symm, rfl⟩

set_option maxRecDepth 100000 in
set_option maxHeartbeats 1000000 in
theorem RmarkAt_any (B : Nat) (s : ByteArray) (a : Nat) (e p : Int) (k : Nat) (w : World) (h : DrAt w B s a e p) (ha : a ≤ s.size) (hk : k ≤ 1) (hs : s.size ≤ 64) :
    Calls Tryz.prog 83 #[.pointer (some ⟨B, 0, none⟩), .int .i64 (k : Int)] w fun r w' => r = .returned (.bool (markB s.data.toList (a + k))) ∧ ∃ n, w' = w.drewN n := by
  obtain ⟨c0, c1, c2, c3, f1, f2, f3⟩ := h.seen
  clear h
  obtain ⟨j, hj⟩ : ∃ j, j = a + k := ⟨_, rfl⟩
  rw [← hj]
  have eA : (a : Int) + (k : Int) = (j : Int) := by omega
  have wA : IntKind.i64.wrap (j : Int) = (j : Int) := by rw [IntKind.wrap_i64]; omega
  have j0 : (0 : Int) ≤ (j : Int) := by omega
  by_cases hl : j < s.size
  · have hd : ((j : Int) < (s.size : Int)) := by omega
    have MK := hide (fun w => Rmark_any s[j] w)
    rw [markB_in s j hl]
    generalize isMark s[j] = M at *
    clear hj ha hk
    go_enter Tryz.func83, Tryz.ntmps83
    go_wp2_with fail
    go_quiet (first | (go_at_call 112; exact Calls.quiet_of_same (MK.out _)) | fail)
    go_wp2_with fail
    go_ret
    exact ⟨rfl, _, rfl⟩
  · have hd : ¬ ((j : Int) < (s.size : Int)) := by omega
    rw [markB_out s j hl]
    clear hj ha hk
    go_enter Tryz.func83, Tryz.ntmps83
    go_wp2_with fail
    go_quiet (fail)
    go_wp2_with fail
    go_ret
    exact ⟨rfl, _, rfl⟩

set_option maxRecDepth 100000 in
set_option maxHeartbeats 1000000 in
theorem RbyteIs_any (B : Nat) (s : ByteArray) (a : Nat) (e p : Int) (k : Nat) (c : Int) (w : World) (h : DrAt w B s a e p) (ha : a ≤ s.size) (hk : k ≤ 1) (hs : s.size ≤ 64) :
    Calls Tryz.prog 54 #[.pointer (some ⟨B, 0, none⟩), .int .i64 (k : Int), .int .i64 c] w fun r w' => r = .returned (.bool (clsB s.data.toList (a + k) c)) ∧ ∃ n, w' = w.drewN n := by
  obtain ⟨c0, c1, c2, c3, f1, f2, f3⟩ := h.seen
  clear h
  obtain ⟨j, hj⟩ : ∃ j, j = a + k := ⟨_, rfl⟩
  rw [← hj]
  have eA : (a : Int) + (k : Int) = (j : Int) := by omega
  have wA : IntKind.i64.wrap (j : Int) = (j : Int) := by rw [IntKind.wrap_i64]; omega
  have j0 : (0 : Int) ≤ (j : Int) := by omega
  by_cases hl : j < s.size
  · have hd : ((j : Int) < (s.size : Int)) := by omega
    have MK := hide (fun w => RIs_any (s[j].toNat : Int) c w)
    rw [clsB_in s j c hl]
    generalize isC (s[j].toNat : Int) c = M at *
    clear hj ha hk
    go_enter Tryz.func54, Tryz.ntmps54
    go_wp2_with fail
    go_quiet (first | (go_at_call 68; exact Calls.quiet_of_same (MK.out _)) | fail)
    go_wp2_with fail
    go_ret
    exact ⟨rfl, _, rfl⟩
  · have hd : ¬ ((j : Int) < (s.size : Int)) := by omega
    rw [clsB_out s j c hl]
    clear hj ha hk
    go_enter Tryz.func54, Tryz.ntmps54
    go_wp2_with fail
    go_quiet (fail)
    go_wp2_with fail
    go_ret
    exact ⟨rfl, _, rfl⟩

set_option maxRecDepth 100000 in
set_option maxHeartbeats 1000000 in
theorem Rdigits_any (B : Nat) (s : ByteArray) (a : Nat) (e p : Int) (w : World) (h : DrAt w B s a e p) (ha : a ≤ s.size) (hs : s.size ≤ 64) :
    Calls Tryz.prog 53 #[.pointer (some ⟨B, 0, none⟩)] w fun r w' => r = .returned (.string (ofL (trimL (seg s.data.toList a (a + runL 1 (s.data.toList.drop a)))))) ∧ DrAt w' B s (a + runL 1 (s.data.toList.drop a)) e p ∧ Turn B w w' := by
  obtain ⟨c0, c1, c2, c3, f1, f2, f3⟩ := h.seen
  have H := hide h
  clear h
  have hr := runL_drop_le 1 s a ha
  have HR := runI_in s a 1 ha
  obtain ⟨E, hE⟩ : ∃ E, E = a + runL 1 (s.data.toList.drop a) := ⟨_, rfl⟩
  rw [← hE] at hr ⊢
  have hRI : runI s.data.toList (a : Int) 1 = (E : Int) := by rw [HR, hE]; simp
  have R1 := hide (fun W => RRun_any s (a : Int) 1 W (by unfold maxLen; omega))
  rw [hRI] at R1
  have TM := fun w => RTrim_any (s.extract a E) w (by rw [extract_seg, ofL_size]; unfold maxLen seg; simp only [List.length_drop, List.length_take]; rw [len_data]; omega)
  rw [extract_data] at TM
  have TM := hide TM
  have i0 : (0 : Int) ≤ (a : Int) := Int.natCast_nonneg _
  have i1 : (a : Int) ≤ (E : Int) := by omega
  have i2 : (E : Int) ≤ (s.size : Int) := by omega
  clear hRI HR hE
  go_enter Tryz.func53, Tryz.ntmps53
  go_wp2_with fail
  go_quiet (first | (go_at_call 52; exact Calls.quiet_of_same (R1.out _)) | fail)
  generalize hn1 : w.drewN nq = w1 at *
  have H1 : DrAt w1 B s a e p := by rw [← hn1]; exact H.out.drewN _
  have T1 : Turn B w w1 := by rw [← hn1]; exact Turn.drewN _ _ _
  clear hn1 c0 c1 c2 c3 f1 f2 f3
  obtain ⟨c0, c1, c2, c3, f1, f2, f3⟩ := H1.seen
  go_wp2_with fail
  go_quiet (fail)
  go_wp2_with fail
  refine (TM.out _).mono ?_
  rintro r w' ⟨rfl, hw'⟩
  rw [hw']
  clear hw' w'
  go_wp2_with fail
  go_ret
  exact ⟨rfl, (H1.drewN _).place _, T1.trans ((Turn.drewN _ _ _).trans (Turn.set _ _ _ _))⟩

set_option maxRecDepth 100000 in
set_option maxHeartbeats 1000000 in
theorem Rfail_any (B : Nat) (s : ByteArray) (a : Nat) (p : Int) (w : World) (h : DrAt w B s a 0 p) (ha : a ≤ s.size) (hs : s.size ≤ 64) :
    Calls Tryz.prog 55 #[.pointer (some ⟨B, 0, none⟩)] w fun r w' => r = .returned (.tuple #[]) ∧ DrAt w' B s a (misL s.size a) (a : Int) ∧ Turn B w w' := by
  obtain ⟨c0, c1, c2, c3, f1, f2, f3⟩ := h.seen
  have H := hide h
  clear h
  by_cases hl : a < s.size
  · have hM : misL s.size a = 10 := by unfold misL; rw [if_neg (by omega)]
    rw [hM]
    have hd : ¬ ((s.size : Int) ≤ (a : Int)) := by omega
    have hd2 : decide ((s.size : Int) ≤ (a : Int)) = false := by simpa using hd
    clear hM hl ha
    go_enter Tryz.func55, Tryz.ntmps55
    go_wp2_with fail
    go_quiet (fail)
    generalize hn1 : w.drewN nq = w1 at *
    have H1 : DrAt w1 B s a 0 p := by rw [← hn1]; exact H.out.drewN _
    have T1 : Turn B w w1 := by rw [← hn1]; exact Turn.drewN _ _ _
    clear hn1 c0 c1 c2 c3 f1 f2 f3
    obtain ⟨c0, c1, c2, c3, f1, f2, f3⟩ := H1.seen
    go_wp2_with fail
    go_end0
    exact ⟨rfl, H1.fault _ _, T1.trans ((Turn.set _ _ _ _).trans (Turn.set _ _ _ _))⟩
  · have hM : misL s.size a = 11 := by unfold misL; rw [if_pos (by omega)]
    rw [hM]
    have hd : ((s.size : Int) ≤ (a : Int)) := by omega
    have hd2 : decide ((s.size : Int) ≤ (a : Int)) = true := by simpa using hd
    clear hM hl ha
    go_enter Tryz.func55, Tryz.ntmps55
    go_wp2_with fail
    go_quiet (fail)
    generalize hn1 : w.drewN nq = w1 at *
    have H1 : DrAt w1 B s a 0 p := by rw [← hn1]; exact H.out.drewN _
    have T1 : Turn B w w1 := by rw [← hn1]; exact Turn.drewN _ _ _
    clear hn1 c0 c1 c2 c3 f1 f2 f3
    obtain ⟨c0, c1, c2, c3, f1, f2, f3⟩ := H1.seen
    go_wp2_with fail
    go_end0
    exact ⟨rfl, H1.fault _ _, T1.trans ((Turn.set _ _ _ _).trans (Turn.set _ _ _ _))⟩

end Go.Proofs.YtabmfdedbpmfmaaGreat

namespace Go.Proofs.YtabmfdedbpmfmaaGreat
open Go.RowKit Go.Shelf
set_option linter.unusedVariables false

theorem run_cls (l : List UInt8) (a : Nat) (k : Int) : (runL k (l.drop a) = 0) ↔ clsB l a k = false := by
  unfold clsB
  by_cases h : a < l.length
  · rw [List.drop_eq_getElem_cons h, List.getElem?_eq_getElem h]
    simp only [Option.map_some, Option.getD_some]
    rw [runL]
    cases isC (l[a].toNat : Int) k <;> simp
  · rw [List.drop_eq_nil_of_le (by omega), List.getElem?_eq_none (by omega)]
    simp [runL]
theorem mark_not_digit (c : UInt8) (h : isMark c = true) : isC (c.toNat : Int) 1 = false := by
  unfold isMark at h
  simp only [Bool.or_eq_true, beq_iff_eq] at h
  rcases h with (rfl | rfl) | rfl <;> rfl
theorem mark_cls (l : List UInt8) (a : Nat) (h : markB l a = true) : clsB l a 1 = false := by
  unfold markB at h
  unfold clsB
  cases hl : l[a]? with
  | none => rw [hl] at h; simp at h
  | some c => rw [hl] at h; simp only [Option.map_some, Option.getD_some] at h ⊢; exact mark_not_digit c h
theorem markL_t {l : List UInt8} {a : Nat} (h : markB l a = true) : markL l a = a + 1 := by unfold markL; unfold markB at h; rw [if_pos h]
theorem markL_f {l : List UInt8} {a : Nat} (h : markB l a = false) : markL l a = a := by unfold markL; unfold markB at h; rw [if_neg (by simp [h])]
theorem dig_t {l : List UInt8} {b : Nat} (h1 : markB l b = true) (h2 : clsB l (b + 1) 1 = true) : digP l b = b + 1 + runL 1 (l.drop (b + 1)) ∧ digT l b = seg l (b + 1) (b + 1 + runL 1 (l.drop (b + 1))) := by
  have hr : runL 1 (l.drop (b + 1)) ≠ 0 := fun h => by rw [(run_cls l (b + 1) 1).1 h] at h2; cases h2
  unfold digP digT digE
  rw [markL_t h1, if_pos (by omega)]
  exact ⟨rfl, rfl⟩
theorem dig_f {l : List UInt8} {b : Nat} (h1 : markB l b = true) (h2 : clsB l (b + 1) 1 = false) : digP l b = b ∧ digT l b = [] := by
  have hr : runL 1 (l.drop (b + 1)) = 0 := (run_cls l (b + 1) 1).2 h2
  unfold digP digT digE
  rw [markL_t h1, hr, if_neg (by omega), Nat.add_zero]
  exact ⟨rfl, seg_self _ _⟩
theorem dig_n {l : List UInt8} {b : Nat} (h1 : markB l b = false) (h2 : clsB l b 1 = true) : digP l b = b + runL 1 (l.drop b) ∧ digT l b = seg l b (b + runL 1 (l.drop b)) := by
  have hr : runL 1 (l.drop b) ≠ 0 := fun h => by rw [(run_cls l b 1).1 h] at h2; cases h2
  unfold digP digT digE
  rw [markL_f h1, if_pos (by omega)]
  exact ⟨rfl, rfl⟩
theorem dig_0 {l : List UInt8} {b : Nat} (h1 : markB l b = false) (h2 : clsB l b 1 = false) : digP l b = b ∧ digT l b = [] := by
  have hr : runL 1 (l.drop b) = 0 := (run_cls l b 1).2 h2
  unfold digP digT digE
  rw [markL_f h1, hr, if_neg (by omega), Nat.add_zero]
  exact ⟨rfl, seg_self _ _⟩
theorem trim_nil : trimL [] = [48] := rfl

set_option maxRecDepth 100000 in
set_option maxHeartbeats 1000000 in
theorem Rnum_any (B : Nat) (s : ByteArray) (b : Nat) (e p : Int) (w : World) (h : DrAt w B s b e p) (hb : b ≤ s.size) (hs : s.size ≤ 64) :
    Calls Tryz.prog 58 #[.pointer (some ⟨B, 0, none⟩)] w fun r w' => r = .returned (.string (ofL (trimL (digT s.data.toList b)))) ∧ DrAt w' B s (digP s.data.toList b) e p ∧ Turn B w w' := by
  have M0 := hide (fun w h => RmarkAt_any B s b e p 0 w h hb (by omega) hs)
  have I0 := hide (fun w h => RbyteIs_any B s b e p 0 1 w h hb (by omega) hs)
  have I1 := hide (fun w h => RbyteIs_any B s b e p 1 1 w h hb (by omega) hs)
  simp only [Nat.add_zero] at M0 I0
  have H := hide h
  clear h
  cases hm : markB s.data.toList b
  · rw [hm] at M0
    cases hd : clsB s.data.toList b 1
    · rw [hd] at I0
      obtain ⟨e1, e2⟩ := dig_0 hm hd
      rw [e1, e2, trim_nil]
      clear e1 e2 hm hd
      go_enter Tryz.func58, Tryz.ntmps58
      go_wp2_with fail
      refine (M0.out _ H.out).mono ?_
      rintro r w1 ⟨rfl, n1, rfl⟩
      go_wp2_with fail
      refine (I0.out _ (H.out.drewN _)).mono ?_
      rintro r w2 ⟨rfl, n2, rfl⟩
      go_wp2_with fail
      go_ret
      exact ⟨rfl, H.out.drewN _, Turn.drewN _ _ _⟩
    · rw [hd] at I0
      obtain ⟨e1, e2⟩ := dig_n hm hd
      rw [e1, e2]
      have DG := hide (fun w h => Rdigits_any B s b e p w h hb hs)
      clear e1 e2 hm hd
      go_enter Tryz.func58, Tryz.ntmps58
      go_wp2_with fail
      refine (M0.out _ H.out).mono ?_
      rintro r w1 ⟨rfl, n1, rfl⟩
      go_wp2_with fail
      refine (I0.out _ (H.out.drewN _)).mono ?_
      rintro r w2 ⟨rfl, n2, rfl⟩
      go_wp2_with fail
      refine (DG.out _ (H.out.drewN _)).mono ?_
      rintro r w3 ⟨rfl, h3, t3⟩
      go_wp2_with fail
      go_ret
      exact ⟨rfl, h3, (Turn.drewN _ _ _).trans t3⟩
  · rw [hm] at M0
    have hdb := mark_cls _ _ hm
    cases hd : clsB s.data.toList (b + 1) 1
    · rw [hd] at I1
      rw [hdb] at I0
      obtain ⟨e1, e2⟩ := dig_f hm hd
      rw [e1, e2, trim_nil]
      clear e1 e2 hm hd hdb
      go_enter Tryz.func58, Tryz.ntmps58
      go_wp2_with fail
      refine (M0.out _ H.out).mono ?_
      rintro r w1 ⟨rfl, n1, rfl⟩
      go_wp2_with fail
      refine (I1.out _ (H.out.drewN _)).mono ?_
      rintro r w2 ⟨rfl, n2, rfl⟩
      go_wp2_with fail
      refine (I0.out _ (H.out.drewN _)).mono ?_
      rintro r w3 ⟨rfl, n3, rfl⟩
      go_wp2_with fail
      go_ret
      exact ⟨rfl, H.out.drewN _, Turn.drewN _ _ _⟩
    · rw [hd] at I1
      obtain ⟨e1, e2⟩ := dig_t hm hd
      rw [e1, e2]
      have hb1 : b + 1 ≤ s.size := by
        by_cases hl : b + 1 < s.size
        · omega
        · rw [clsB_out s _ _ hl] at hd; cases hd
      have I2 := hide (fun w h => RbyteIs_any B s (b + 1) e p 0 1 w h hb1 (by omega) hs)
      simp only [Nat.add_zero] at I2
      rw [hd] at I2
      have DG := hide (fun w h => Rdigits_any B s (b + 1) e p w h hb1 hs)
      have hw : IntKind.i64.wrap ((b : Int) + 1) = (b : Int) + 1 := by rw [IntKind.wrap_i64]; omega
      clear e1 e2 hm hd hdb
      go_enter Tryz.func58, Tryz.ntmps58
      go_wp2_with fail
      refine (M0.out _ H.out).mono ?_
      rintro r w1 ⟨rfl, n1, hw1⟩
      have H1 : DrAt w1 B s b e p := by rw [hw1]; exact H.out.drewN _
      have T1 : Turn B w w1 := by rw [hw1]; exact Turn.drewN _ _ _
      clear hw1
      go_wp2_with fail
      refine (I1.out _ H1).mono ?_
      rintro r w2 ⟨rfl, n2, hw2⟩
      have H2 : DrAt w2 B s b e p := by rw [hw2]; exact H1.drewN _
      have T2 : Turn B w w2 := by rw [hw2]; exact T1.trans (Turn.drewN _ _ _)
      clear hw2 H1 T1
      obtain ⟨c0, c1, c2, c3, f1, f2, f3⟩ := H2.seen
      go_wp2_with fail
      refine (I2.out _ H2.step).mono ?_
      rintro r w3 ⟨rfl, n3, hw3⟩
      have H3 : DrAt w3 B s (b + 1) e p := by rw [hw3]; exact H2.step.drewN _
      have T3 : Turn B w w3 := by rw [hw3]; exact T2.trans ((Turn.set _ _ _ _).trans (Turn.drewN _ _ _))
      clear hw3 H2 T2
      go_wp2_with fail
      refine (DG.out _ H3).mono ?_
      rintro r w4 ⟨rfl, h4, t4⟩
      go_wp2_with fail
      go_ret
      exact ⟨rfl, h4, T3.trans t4⟩

def letC (x : List UInt8) : Int := if x = [97, 108, 112, 104, 97] ∨ x = [97] then 97 else if x = [98, 101, 116, 97] ∨ x = [98] then 98 else 114

set_option maxRecDepth 100000 in
set_option maxHeartbeats 1000000 in
theorem Rletter_any (x : List UInt8) (w : World) : Calls Tryz.prog 57 #[.string (ofL x)] w fun e w' => e = .returned (.int .u8 (letC x)) ∧ w' = w := by
  have q : ∀ y : List UInt8, ((ofL x).toList == y) = decide (x = y) := fun y => by
    rw [toL, ofL_data]
    rw [Bool.eq_iff_iff]; simp
  have q1 := q [97, 108, 112, 104, 97]
  have q2 := q [97]
  have q3 := q [98, 101, 116, 97]
  have q4 := q [98]
  clear q
  have HL : Hid (letC x = if x = [97, 108, 112, 104, 97] ∨ x = [97] then 97 else if x = [98, 101, 116, 97] ∨ x = [98] then 98 else 114) := rfl
  generalize letC x = L at *
  generalize ofL x = s at *
  by_cases h1 : x = [97, 108, 112, 104, 97]
  · rw [decide_eq_true h1] at q1
    have HL : Hid (L = 97) := by show _ = _; rw [HL.out, if_pos (.inl h1)]
    clear h1 q2 q3 q4
    go_enter Tryz.func57, Tryz.ntmps57
    go_wp2_with fail
    go_ret
    exact ⟨by rw [HL.out]; rfl, rfl⟩
  · rw [decide_eq_false h1] at q1
    by_cases h2 : x = [97]
    · rw [decide_eq_true h2] at q2
      have HL : Hid (L = 97) := by show _ = _; rw [HL.out, if_pos (.inr h2)]
      clear h1 h2 q3 q4
      go_enter Tryz.func57, Tryz.ntmps57
      go_wp2_with fail
      go_ret
      exact ⟨by rw [HL.out]; rfl, rfl⟩
    · rw [decide_eq_false h2] at q2
      by_cases h3 : x = [98, 101, 116, 97]
      · rw [decide_eq_true h3] at q3
        have HL : Hid (L = 98) := by show _ = _; rw [HL.out, if_neg (by rintro (h | h); exact h1 h; exact h2 h), if_pos (.inl h3)]
        clear h1 h2 h3 q4
        go_enter Tryz.func57, Tryz.ntmps57
        go_wp2_with fail
        go_ret
        exact ⟨by rw [HL.out]; rfl, rfl⟩
      · rw [decide_eq_false h3] at q3
        by_cases h4 : x = [98]
        · rw [decide_eq_true h4] at q4
          have HL : Hid (L = 98) := by show _ = _; rw [HL.out, if_neg (by rintro (h | h); exact h1 h; exact h2 h), if_pos (.inr h4)]
          clear h1 h2 h3 h4
          go_enter Tryz.func57, Tryz.ntmps57
          go_wp2_with fail
          go_ret
          exact ⟨by rw [HL.out]; rfl, rfl⟩
        · rw [decide_eq_false h4] at q4
          have HL : Hid (L = 114) := by show _ = _; rw [HL.out, if_neg (by rintro (h | h); exact h1 h; exact h2 h), if_neg (by rintro (h | h); exact h3 h; exact h4 h)]
          clear h1 h2 h3 h4
          go_enter Tryz.func57, Tryz.ntmps57
          go_wp2_with fail
          go_ret
          exact ⟨by rw [HL.out]; rfl, rfl⟩

end Go.Proofs.YtabmfdedbpmfmaaGreat
