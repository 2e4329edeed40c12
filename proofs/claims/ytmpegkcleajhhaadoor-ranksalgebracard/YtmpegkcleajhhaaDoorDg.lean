/-
  Walks: is a rank in a set? The search of the program, the look of the document.
-/
import Derived.Test.YtmpegkcleajhhaaDoorDf
namespace Go.Proofs.YtmpegkcleajhhaaDoor
open Go.RowKit Go.Shelf
set_option linter.unusedVariables false

/-- Where a span lies as seen from a rank. -/
def plc (p : Sp) (r : Int) : Int := if p.2 ≤ r then -1 else if r < p.1 then 1 else 0
theorem place_any (x0 x1 r : Int) (w : World) : Calls Tryd.prog 49 #[.agg #[.int .i64 x0, .int .i64 x1], .int .i64 r] w fun e w' => e = .returned (.int .i64 (plc (x0, x1) r)) ∧ Below w.heap.size w w' := by
  have hB : Below w.heap.size w (w.alloc (.cells #[.int .i64 x0, .int .i64 x1] 45)) := (Below.refl _ w).alloc (Nat.le_refl _) _
  by_cases h1 : x1 ≤ r
  · have HP : Hid (plc (x0, x1) r = -1) := by show _ = _; unfold plc; rw [if_pos h1]
    go_enter Tryd.func49, Tryd.ntmps49
    go_wp2_with fail
    go_ret
    exact ⟨ret_i HP.out.symm, hB⟩
  · by_cases h2 : r < x0
    · have HP : Hid (plc (x0, x1) r = 1) := by show _ = _; unfold plc; rw [if_neg h1, if_pos h2]
      go_enter Tryd.func49, Tryd.ntmps49
      go_wp2_with fail
      go_ret
      exact ⟨ret_i HP.out.symm, hB⟩
    · have HP : Hid (plc (x0, x1) r = 0) := by show _ = _; unfold plc; rw [if_neg h1, if_neg h2]
      go_enter Tryd.func49, Tryd.ntmps49
      go_wp2_with fail
      go_ret
      exact ⟨ret_i HP.out.symm, hB⟩
theorem fitF_at {n : Int} : ∀ {s : List Sp} {last : Int}, fitF n last s = true → ∀ (i j : Nat) (p q : Sp), i < j → s[i]? = some p → s[j]? = some q → p.2 < q.1
  | [], _, _, i, j, p, q, _, h, _ => by simp at h
  | x :: s, last, hf, 0, j + 1, p, q, _, h, hq => by
    simp at h; subst h
    rw [fitF_cons] at hf
    have := fitF_mem hf.2.2.2 q (List.mem_of_getElem? (by simpa using hq))
    omega
  | x :: s, last, hf, i + 1, j + 1, p, q, hij, h, hq => by
    rw [fitF_cons] at hf
    exact fitF_at hf.2.2.2 i j p q (by omega) (by simpa using h) (by simpa using hq)
/-- All ahead of a place end by the rank; all from a place on don't. -/
def Seek (s : List Sp) (r : Int) (i j : Nat) : Prop := (∀ k p, s[k]? = some p → k < i → p.2 ≤ r) ∧ (∀ k p, s[k]? = some p → j ≤ k → r < p.2)
theorem seek_start (s : List Sp) (r : Int) : Seek s r 0 s.length := ⟨fun k p _ h => by omega, fun k p h hk => by have := (List.getElem?_eq_some_iff.1 h).1; omega⟩
theorem seek_left {n last : Int} {s : List Sp} {r : Int} {i j c : Nat} {p : Sp} (hf : fitF n last s = true) (h : Seek s r i j) (hp : s[c]? = some p) (hle : p.2 ≤ r) : Seek s r (c + 1) j := by
  refine ⟨fun k q hq hk => ?_, h.2⟩
  rcases Nat.lt_or_ge k c with h1 | h1
  · have := fitF_at hf k c q p h1 hq hp
    have := fitF_mem hf p (List.mem_of_getElem? hp)
    omega
  · obtain rfl : k = c := by omega
    rw [hp] at hq; cases hq; exact hle
theorem seek_right {n last : Int} {s : List Sp} {r : Int} {i j c : Nat} {p : Sp} (hf : fitF n last s = true) (h : Seek s r i j) (hp : s[c]? = some p) (hle : r < p.2) : Seek s r i c := by
  refine ⟨h.1, fun k q hq hk => ?_⟩
  rcases Nat.lt_or_ge c k with h1 | h1
  · have := fitF_at hf c k p q h1 hp hq
    have := fitF_mem hf q (List.mem_of_getElem? hq)
    omega
  · obtain rfl : k = c := by omega
    rw [hp] at hq; cases hq; exact hle
theorem seek_in {n last : Int} {s : List Sp} {r : Int} {i : Nat} {p : Sp} (hf : fitF n last s = true) (h : Seek s r i i) (hp : s[i]? = some p) : hasL s r = (plc p r == 0) ∧ ¬ p.2 ≤ r := by
  have h2 := h.2 i p hp (Nat.le_refl _)
  refine ⟨?_, by omega⟩
  rw [Bool.eq_iff_iff, has_iff, beq_iff_eq]
  unfold plc
  rw [if_neg (by omega)]
  constructor
  · rintro ⟨q, hq, h3, h4⟩
    obtain ⟨k, hk⟩ := List.getElem?_of_mem hq
    rcases Nat.lt_trichotomy k i with h5 | h5 | h5
    · have := h.1 k q hk h5; omega
    · subst h5
      rw [hp] at hk; cases hk
      rw [if_neg (by omega)]
    · have := fitF_at hf i k p q h5 hp hk
      omega
  · intro h3
    refine ⟨p, List.mem_of_getElem? hp, ?_, h2⟩
    rcases Int.lt_or_le r p.1 with h4 | h4
    · rw [if_pos h4] at h3; cases h3
    · exact h4
theorem seek_out {s : List Sp} {r : Int} {i : Nat} (h : Seek s r i i) (hi : s.length ≤ i) : hasL s r = false := by
  cases hh : hasL s r with
  | false => rfl
  | true =>
    obtain ⟨p, hp, h1, h2⟩ := (has_iff s r).1 hh
    obtain ⟨k, hk⟩ := List.getElem?_of_mem hp
    have := (List.getElem?_eq_some_iff.1 hk).1
    have := h.1 k p hk (by omega)
    omega
theorem plc_neg {p : Sp} {r : Int} : plc p r < 0 ↔ p.2 ≤ r := by
  unfold plc
  split
  · exact ⟨fun _ => by assumption, fun _ => by omega⟩
  · split
    · exact ⟨fun h => by omega, fun h => by omega⟩
    · exact ⟨fun h => by omega, fun h => by omega⟩

set_option maxRecDepth 100000 in
set_option maxHeartbeats 4000000 in
theorem Search_any (n : Int) (v : Value) (s : List Sp) (r : Int) (w : World) (hA : Spans w v s) (hf : fitL n s = true) (hl : s.length ≤ 1000000000000) :
    Calls Tryd.prog 48 #[v, .int .i64 r, .func (.func 49) #[] #[]] w fun e w' => (∃ i : Int, e = .returned (.tuple #[.int .i64 i, .bool (hasL s r)])) ∧ Below w.heap.size w w' := by
  obtain ⟨aa, ca, rfl, hra⟩ := hA
  have HA := hide hra
  have HFit := hide (fitL_iff.1 hf).2.2
  clear hra hf
  have CP := hide place_any
  go_enter Tryd.func48, Tryd.ntmps48
  go_wp2_with fail
  go_loopw [9, 10] (fun x y wr => ∃ i j : Nat, i ≤ j ∧ j ≤ s.length ∧ x = .int .i64 i ∧ y = .int .i64 j ∧ Below w.heap.size w wr ∧ Hid (Seek s r i j)) (fun x y _ => (intOf y).toNat - (intOf x).toNat)
  case atStart => exact ⟨0, s.length, by omega, by omega, rfl, rfl, Below.refl _ _, seek_start s r⟩
  case round =>
    obtain ⟨i, j, hij, hj, rfl, rfl, hBw, HS⟩ := hrel
    by_cases hlt : i < j
    · have hlt' : (i : Int) < (j : Int) := by omega
      obtain ⟨c, hc0⟩ : ∃ c : Nat, c = (i + j) / 2 := ⟨_, rfl⟩
      have eC : ((i : Int) + (j : Int)) / 2 = (c : Int) := by omega
      have hci : i ≤ c := by omega
      have hcj : c < j := by omega
      have hcl : c < s.length := by omega
      have hcl' : (c : Int) < (s.length : Int) := by omega
      clear hc0
      obtain ⟨b, off, rfl, hlb, hc⟩ : ∃ b off, aa = some ⟨b, off, none⟩ ∧ b < w.heap.size ∧ SRow w b off s := by
        rcases HA.out with h0 | h0
        · rw [h0] at hcl; simp at hcl
        · exact h0
      obtain ⟨c0, c1⟩ := (hc.of_block (hBw.block b hlb)) c hcl
      have hsc : s[c]? = some s[c] := List.getElem?_eq_getElem hcl
      clear hc
      generalize s[c] = p at *
      obtain ⟨x0, x1⟩ := p
      dsimp only at c0 c1
      have HL := hide (seek_left HFit.out HS.out hsc)
      have HR := hide (seek_right HFit.out HS.out hsc)
      clear hsc
      by_cases hp : x1 ≤ r
      · have hneg : plc (x0, x1) r < 0 := plc_neg.2 hp
        have HN := hide (HL.out hp)
        clear HL HR hp
        have CQ := hide (CP.out x0 x1 r)
        generalize plc (x0, x1) r = q at *
        go_wp2_with fail
        refine (CQ.out _).mono ?_
        rintro e w2 ⟨rfl, b2⟩
        have hB2 : Below w.heap.size w w2 := hBw.trans (b2.mono hBw.size)
        go_wp2_with fail
        go_roundw
        case rel => exact ⟨c + 1, j, by omega, by omega, by go_num, rfl, hB2, HN⟩
        case measure => simp [intOf]; omega
      · have hneg : ¬ plc (x0, x1) r < 0 := fun h => hp (plc_neg.1 h)
        have HN := hide (HR.out (by simp only; omega))
        clear HL HR hp
        have CQ := hide (CP.out x0 x1 r)
        generalize plc (x0, x1) r = q at *
        go_wp2_with fail
        refine (CQ.out _).mono ?_
        rintro e w2 ⟨rfl, b2⟩
        have hB2 : Below w.heap.size w w2 := hBw.trans (b2.mono hBw.size)
        go_wp2_with fail
        go_roundw
        case rel => exact ⟨i, c, by omega, by omega, rfl, rfl, hB2, HN⟩
        case measure => simp [intOf]; omega
    · have hlt' : ¬ (i : Int) < (j : Int) := by omega
      obtain rfl : i = j := by omega
      by_cases hil : i < s.length
      · have hil' : (i : Int) < (s.length : Int) := by omega
        obtain ⟨b, off, rfl, hlb, hc⟩ : ∃ b off, aa = some ⟨b, off, none⟩ ∧ b < w.heap.size ∧ SRow w b off s := by
          rcases HA.out with h0 | h0
          · rw [h0] at hil; simp at hil
          · exact h0
        obtain ⟨c0, c1⟩ := (hc.of_block (hBw.block b hlb)) i hil
        have hsc : s[i]? = some s[i] := List.getElem?_eq_getElem hil
        clear hc
        generalize s[i] = p at *
        obtain ⟨x0, x1⟩ := p
        dsimp only at c0 c1
        have HH := hide (seek_in HFit.out HS.out hsc).1
        have CQ := hide (CP.out x0 x1 r)
        generalize plc (x0, x1) r = q at *
        clear hsc
        cases hq : (q == 0)
        · rw [hq] at HH
          go_wp2_with fail
          refine (CQ.out _).mono ?_
          rintro e w2 ⟨rfl, b2⟩
          have hB2 : Below w.heap.size w w2 := hBw.trans (b2.mono hBw.size)
          go_wp2_with fail
          go_ret2
          exact ⟨⟨i, by rw [HH.out]; rfl⟩, hB2⟩
        · rw [hq] at HH
          go_wp2_with fail
          refine (CQ.out _).mono ?_
          rintro e w2 ⟨rfl, b2⟩
          have hB2 : Below w.heap.size w w2 := hBw.trans (b2.mono hBw.size)
          go_wp2_with fail
          go_ret2
          exact ⟨⟨i, by rw [HH.out]; rfl⟩, hB2⟩
      · have hil' : ¬ (i : Int) < (s.length : Int) := by omega
        have HH := hide (seek_out HS.out (by omega))
        go_wp2_with fail
        go_ret2
        exact ⟨⟨i, by rw [HH.out]; rfl⟩, hBw⟩

theorem Has_any (n : Int) (v : Value) (s : List Sp) (r : Int) (w : World) (hA : Spans w v s) (hf : fitL n s = true) (hl : s.length ≤ 1000000000000) :
    Calls Tryd.prog 27 #[v, .int .i64 r] w fun e w' => e = .returned (.bool (hasL s r)) ∧ Below w.heap.size w w' := by
  have C := hide (Search_any n v s r w hA hf hl)
  clear hA hf hl
  generalize hasL s r = d at *
  go_enter Tryd.func27, Tryd.ntmps27
  go_wp2_with fail
  refine C.out.mono ?_
  rintro e w' ⟨⟨i, rfl⟩, hw'⟩
  go_wp2_with fail
  go_ret
  exact ⟨rfl, hw'⟩

set_option maxRecDepth 100000 in
set_option maxHeartbeats 4000000 in
theorem RHas_any (v : Value) (s : List Sp) (r : Int) (w : World) (hA : Spans w v s) (hl : s.length ≤ 1000000000000) :
    Calls Tryd.prog 28 #[v, .int .i64 r] w fun e w' => e = .returned (.bool (hasL s r)) ∧ w' = w := by
  obtain ⟨aa, ca, rfl, hra⟩ := hA
  have HA := hide hra
  clear hra
  go_enter Tryd.func28, Tryd.ntmps28
  go_wp2_with fail
  go_loopw [5] (fun x wr => ∃ i : Nat, i ≤ s.length ∧ x = .int .i64 i ∧ wr = w ∧ Hid (hasL s r = hasL (s.drop i) r)) (fun x _ => s.length - (intOf x).toNat)
  case atStart => exact ⟨0, by omega, rfl, rfl, rfl⟩
  case round =>
    obtain ⟨i, hi, rfl, rfl, HH⟩ := hrel
    by_cases hlt : i < s.length
    · have hlt' : (i : Int) < (s.length : Int) := by omega
      obtain ⟨b, off, rfl, hlb, hc⟩ : ∃ b off, aa = some ⟨b, off, none⟩ ∧ b < wr.heap.size ∧ SRow wr b off s := by
        rcases HA.out with h0 | h0
        · rw [h0] at hlt; simp at hlt
        · exact h0
      obtain ⟨c0, c1⟩ := hc i hlt
      have HD : Hid (hasL (s.drop i) r = (decide (s[i].1 ≤ r) && decide (r < s[i].2) || hasL (s.drop (i + 1)) r)) := by show _ = _; rw [List.drop_eq_getElem_cons hlt, has_cons]
      clear hc
      generalize s[i] = p at *
      obtain ⟨x0, x1⟩ := p
      dsimp only at c0 c1
      by_cases h1 : x0 ≤ r
      · by_cases h2 : r < x1
        · have HT : Hid (hasL s r = true) := by show _ = _; rw [HH.out, HD.out]; simp [h1, h2]
          go_wp2_with fail
          go_ret
          exact ⟨by rw [HT.out]; rfl, rfl⟩
        · have HT : Hid (hasL s r = hasL (s.drop (i + 1)) r) := by show _ = _; rw [HH.out, HD.out]; simp [h2]
          go_wp2_with fail
          go_roundw
          case rel => exact ⟨i + 1, by omega, by go_num, by first | exact trivial | rfl, HT⟩
          case measure => simp [intOf]; omega
      · have HT : Hid (hasL s r = hasL (s.drop (i + 1)) r) := by show _ = _; rw [HH.out, HD.out]; simp [h1]
        go_wp2_with fail
        go_roundw
        case rel => exact ⟨i + 1, by omega, by go_num, by first | exact trivial | rfl, HT⟩
        case measure => simp [intOf]; omega
    · have hlt' : ¬ (i : Int) < (s.length : Int) := by omega
      have HT : Hid (hasL s r = false) := by show _ = _; rw [HH.out, List.drop_eq_nil_of_le (by omega)]; rfl
      go_wp2_with fail
      go_ret
      exact ⟨by rw [HT.out]; rfl, rfl⟩

end Go.Proofs.YtmpegkcleajhhaaDoor
