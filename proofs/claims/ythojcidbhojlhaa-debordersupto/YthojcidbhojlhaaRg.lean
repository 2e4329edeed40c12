/-
  Walks: the program's Sort.
-/
import Derived.Test.YthojcidbhojlhaaRf
namespace Go.Proofs.Ythojcidbhojlhaa
open Go.RowKit Go.Shelf
set_option linter.unusedVariables false

theorem txt_at {W : World} {a : Option Addr} {n cap : Nat} {ts : List (List UInt8)} (h : Txt W (.slice a n cap) ts) (hne : 0 < ts.length) :
    ∃ b off, a = some ⟨b, off, none⟩ ∧ b < W.heap.size ∧ ∀ i (h : i < ts.length), W.cell? ⟨b, off + i, none⟩ = some (.string (ofL ts[i])) := by
  obtain ⟨a', cap', hv, h0 | ⟨b, off, ha, hlt, hc⟩⟩ := h
  · subst h0; simp at hne
  · cases hv
    exact ⟨b, off, ha, hlt, hc⟩
theorem cell_kept {W W' : World} {b o : Nat} (h : W'.heap[b]? = W.heap[b]?) : W'.cell? ⟨b, o, none⟩ = W.cell? ⟨b, o, none⟩ := by simp only [World.cell?]; rw [h]
theorem take_set {α : Type} (ts : List α) (z : α) (i : Nat) (hi : i < ts.length) : (ts.take i ++ List.replicate (ts.length - i) z).set i ts[i] = ts.take (i + 1) ++ List.replicate (ts.length - (i + 1)) z := by
  have hl : (ts.take i).length = i := by rw [List.length_take]; omega
  rw [List.set_append_right _ _ (by rw [hl]; exact Nat.le_refl _), hl, Nat.sub_self, show ts.length - i = (ts.length - (i + 1)) + 1 by omega, List.replicate_succ, List.set_cons_zero, List.take_succ_eq_append_getElem hi, List.append_assoc]
  rfl

/-- The rows of the second loop: readings, and texts told so far. -/
structure SW (w2 : World) (B C : Nat) (S : List (List UInt8)) (i : Nat) (W : World) : Prop where
  dw : DW rdE w2 B S W
  ne : C ≠ B
  cs : W.heap[C]? = some (.cells (((S.take i).map fun t => (.string (ofL t) : Value)) ++ List.replicate (S.length - i) (.string ⟨#[]⟩ : Value)).toArray 9 (0, 0))
theorem SW.alloc {w2 : World} {B C : Nat} {S : List (List UInt8)} {i : Nat} {W : World} (h : SW w2 B C S i W) (o : Obj) : SW w2 B C S i (W.alloc o) :=
  ⟨h.dw.next ((Below.refl _ W).alloc (Nat.le_refl _) o), h.ne, (Below.heap_alloc _ _ _ (Array.getElem?_eq_some_iff.1 h.cs).1).trans h.cs⟩
theorem SW.put {w2 : World} {B C : Nat} {S : List (List UInt8)} {i : Nat} {W : World} (h : SW w2 B C S i W) (hC : w2.heap.size ≤ C) (hi : i < S.length) : SW w2 B C S (i + 1) (W.setCell ⟨C, i, none⟩ (.string (ofL S[i]))) := by
  refine ⟨⟨?_, ?_⟩, h.ne, ?_⟩
  · exact ⟨h.dw.turn.os, h.dw.turn.tape, h.dw.turn.output, by rw [show (W.setCell ⟨C, i, none⟩ (.string (ofL S[i]))).heap.size = W.heap.size from Array.size_modify]; exact h.dw.turn.size, fun k hk hn => (Below.heap_setCell _ _ _ k (by simp only; omega)).trans (h.dw.turn.block k hk hn)⟩
  · exact (Below.heap_setCell _ _ _ B (fun e => h.ne e.symm)).trans h.dw.cells
  · rw [set_list i _ h.cs]
    congr 3
    have hl : ((S.take i).map fun t => (.string (ofL t) : Value)).length = i := by rw [List.length_map, List.length_take]; omega
    rw [List.set_append_right _ _ (by rw [hl]; exact Nat.le_refl _), hl, Nat.sub_self, show S.length - i = (S.length - (i + 1)) + 1 by omega, List.replicate_succ, List.set_cons_zero, List.take_succ_eq_append_getElem hi, List.map_append, List.append_assoc]
    rfl

set_option maxRecDepth 100000 in
set_option maxHeartbeats 4000000 in
theorem TextsSort_any (a : Option Addr) (cap n : Nat) (ts : List (List UInt8)) (hlen : ts.length = n) (w : World) (hT : Txt w (.slice a n cap) ts) (hn : n ≤ 1048576) :
    Calls Try.prog 49 #[.slice a n cap, .func (.func 9) #[] #[], .func (.func 46) #[] #[]] w fun e w' => ∃ b, e = .returned (.slice (some ⟨b, 0, none⟩) n n) ∧ Txt w' (.slice (some ⟨b, 0, none⟩) n n) (srt cmpT ts) ∧ w.heap.size ≤ b ∧ Below w.heap.size w w' := by
  have M1 := mk72 n hn
  have HT := hide hT
  have HL := hide hlen
  have hob : Boxed (w.alloc (.cells #[.func (.func 46) #[] #[]] 35)) w.heap.size 35 (.func (.func 46) #[] #[]) := World.alloc_heap_new w _
  clear hT hlen
  obtain ⟨w1, hw1⟩ : ∃ w1, w1 = w.alloc (.cells #[.func (.func 46) #[] #[]] 35) := ⟨_, rfl⟩
  have z1 : w1.heap.size = w.heap.size + 1 := by rw [hw1]; simp
  have b1 : Below w.heap.size w w1 := by rw [hw1]; exact (Below.refl _ w).alloc (Nat.le_refl _) _
  obtain ⟨w2, hw2⟩ : ∃ w2, w2 = w1.alloc (.cells (rdE.flat (List.replicate n [])).toArray 72) := ⟨_, rfl⟩
  have z2 : w2.heap.size = w.heap.size + 1 + 1 := by rw [hw2]; simp; omega
  have b2 : Below w.heap.size w w2 := by rw [hw2]; exact b1.alloc (by omega) _
  have hob2 : Boxed w2 w.heap.size 35 (.func (.func 46) #[] #[]) := by
    rw [hw2]; rw [← hw1] at hob
    exact (Below.heap_alloc _ _ _ (by omega)).trans hob
  have d0 : DW rdE w2 (w.heap.size + 1) (List.replicate n []) w2 := ⟨Turn.refl _ _, by rw [hw2, ← z1]; exact World.alloc_heap_new w1 _⟩
  have CG := hide (cmpG_any w2 (w.heap.size + 1) w.heap.size (by omega) hob2)
  have HL2 : Hid (∀ W, Turn (w.heap.size + 1) w2 W → ∀ i (h : i < ts.length), ∃ b off, a = some ⟨b, off, none⟩ ∧ W.cell? ⟨b, off + i, none⟩ = some (.string (ofL ts[i]))) := by
    intro W hW i h
    obtain ⟨b, off, ha, hlt, hc⟩ := txt_at HT.out (by omega)
    refine ⟨b, off, ha, ?_⟩
    rw [← hc i h]
    exact cell_kept ((hW.block b (by omega) (by omega)).trans (b2.block b hlt))
  clear hob hob2
  rw [hw1] at hw2
  clear hw1
  have hz1 : (w.alloc (.cells #[.func (.func 46) #[] #[]] 35)).heap.size = w.heap.size + 1 := by simp
  go_enter Try.func49, Try.ntmps49
  go_wp2_with fail
  rw [← hw2]
  clear hw2 M1 hz1
  go_loopw [18] (fun x wr => ∃ i : Nat, i ≤ n ∧ x = .int .i64 i ∧ DW rdE w2 (w.heap.size + 1) (ts.take i ++ List.replicate (ts.length - i) []) wr) (fun x _ => n - (intOf x).toNat)
  case atStart => exact ⟨0, by omega, rfl, by rw [HL.out]; simpa using d0⟩
  case round =>
    clear d0
    obtain ⟨i, hi, rfl, hD⟩ := hrel
    by_cases hlt : i < n
    · have hlt' : (i : Int) < (n : Int) := by omega
      have hil : i < ts.length := by rw [HL.out]; exact hlt
      obtain ⟨b, off, rfl, hc⟩ := HL2.out wr hD.turn i hil
      have HTS := hide (take_set ts [] i hil)
      have HXI : Hid (∃ z, (ts.take i ++ List.replicate (ts.length - i) ([] : List UInt8))[i]? = some z) := some_at _ i (by rw [List.length_append, List.length_take, List.length_replicate]; omega)
      have HLI : Hid (i < (ts.take i ++ List.replicate (ts.length - i) ([] : List UInt8)).length) := by show _ < _; rw [List.length_append, List.length_take, List.length_replicate]; omega
      have RD := fun w => read_any (ofL ts[i]) w
      rw [ofL_data, ← rdE_val] at RD
      unfold Cel.val at RD
      have RD := hide RD
      generalize ts[i] = s at *
      generalize hys : ts.take i ++ List.replicate (ts.length - i) ([] : List UInt8) = ys at *
      clear hys hil
      go_wp2_with fail
      refine (RD.out _).mono ?_
      rintro e w3 ⟨rfl, b3⟩
      have hD3 := hD.next b3
      obtain ⟨z, hz⟩ := HXI.out
      obtain ⟨p0, p1, p2, p3, p4⟩ := hD3.seen i z hz
      have f0 := hD3.free (i * 5)
      have f1 := hD3.free (i * 5 + 1)
      have f2 := hD3.free (i * 5 + 2)
      have f3 := hD3.free (i * 5 + 3)
      have f4 := hD3.free (i * 5 + 4)
      have HP := hide (hD3.put i s HLI.out)
      clear hz
      go_wp2_with fail
      go_roundw
      case rel => exact ⟨i + 1, by omega, by go_num, by rw [← HTS.out]; exact HP.out⟩
      case measure => simp [intOf]; omega
    · have hlt' : ¬ (i : Int) < (n : Int) := by omega
      have hD0 : DW rdE w2 (w.heap.size + 1) ts wr := by
        have e : ts.take i ++ List.replicate (ts.length - i) ([] : List UInt8) = ts := by
          rw [List.take_of_length_le (by rw [HL.out]; omega), show ts.length - i = 0 by rw [HL.out]; omega]; simp
        rwa [e] at hD
      have SO := hide (fun W hd => sortStable_any rdE cmpT cmpT_cmp3 _ w2 (w.heap.size + 1) CG.out ts n HL.out W hd (by omega))
      obtain ⟨S, HS⟩ : ∃ S, Hid (S = srt cmpT ts) := ⟨_, rfl⟩
      have HSL : Hid (S.length = n) := by show _ = _; rw [HS.out, srt_length]; exact HL.out
      clear hD HL2
      go_wp2_with fail
      refine (SO.out _ hD0).mono ?_
      rintro e w4 ⟨rfl, d4⟩
      clear hD0 SO CG
      have M2 := mk9 n hn
      rw [← HS.out] at d4
      have sw0 : SW w2 (w.heap.size + 1) w4.heap.size S 0 (w4.alloc (.cells (Array.replicate n (.string ⟨#[]⟩)) 9)) := by
        have h4 := d4.turn.size
        refine ⟨d4.next ((Below.refl _ w4).alloc (Nat.le_refl _) _), by omega, ?_⟩
        rw [show ((S.take 0).map fun t => (.string (ofL t) : Value)) ++ List.replicate (S.length - 0) (.string ⟨#[]⟩ : Value) = List.replicate n (.string ⟨#[]⟩) by rw [HSL.out]; simp]
        rw [List.toArray_replicate]
        exact World.alloc_heap_new w4 _
      have hC : w2.heap.size ≤ w4.heap.size := d4.turn.size
      clear d4
      go_wp2_with fail
      clear M2
      generalize w4.alloc (.cells (Array.replicate n (.string ⟨#[]⟩)) 9) = w5 at *
      generalize w4.heap.size = C at *
      go_loopw [38] (fun x wr => ∃ i : Nat, i ≤ n ∧ x = .int .i64 i ∧ SW w2 (w.heap.size + 1) C S i wr) (fun x _ => n - (intOf x).toNat)
      case atStart => exact ⟨0, by omega, rfl, sw0⟩
      case round =>
        clear sw0
        obtain ⟨i, hi, rfl, hW⟩ := hrel
        by_cases hlt : i < n
        · have hlt' : (i : Int) < (n : Int) := by omega
          have hil : i < S.length := by rw [HSL.out]; exact hlt
          obtain ⟨p0, p1, p2, p3, p4⟩ := hW.dw.seen i S[i] (List.getElem?_eq_getElem hil)
          have HPU : Hid (SW w2 (w.heap.size + 1) C S (i + 1) ((wr.setCell ⟨C, i, none⟩ (.string (rdE.c0 S[i]))).alloc (.cells #[.string (rdE.c0 S[i]), .string (rdE.c1 S[i]), .string (rdE.c2 S[i]), .string (rdE.c3 S[i]), .bool (rdE.c4 S[i])] 72))) := (hW.put hC hil).alloc _
          have cz : wr.cell? ⟨C, i, none⟩ = some (.string ⟨#[]⟩) := cell_at i hW.cs (by
            have hl : ((S.take i).map fun t => (.string (ofL t) : Value)).length = i := by rw [List.length_map, List.length_take]; omega
            rw [List.getElem?_toArray, List.getElem?_append_right (by omega), hl, Nat.sub_self, List.getElem?_replicate, if_pos (by omega)])
          have fz := one_free (W := wr) i hW.cs
          have lC := (Array.getElem?_eq_some_iff.1 hW.cs).1
          have lB := hW.dw.lt
          have hne : C ≠ w.heap.size + 1 := hW.ne
          generalize S[i] = s at *
          clear hil
          go_wp2_with fail
          go_roundw
          case rel => exact ⟨i + 1, by omega, by go_num, HPU.out⟩
          case measure => simp [intOf]; omega
        · have hlt' : ¬ (i : Int) < (n : Int) := by omega
          obtain rfl : i = n := by omega
          have HFI : Hid (Txt wr (.slice (some ⟨C, 0, none⟩) i i) S) := by
            refine ⟨some ⟨C, 0, none⟩, i, by rw [HSL.out], .inr ⟨C, 0, rfl, (Array.getElem?_eq_some_iff.1 hW.cs).1, fun q hq => ?_⟩⟩
            refine cell_at _ hW.cs ?_
            rw [List.getElem?_toArray, Nat.zero_add, List.getElem?_append_left (by rw [List.length_map, List.length_take, HSL.out]; rw [HSL.out] at hq; omega), List.getElem?_map, List.getElem?_take, if_pos (by rw [HSL.out] at hq; omega), List.getElem?_eq_getElem hq]
            rfl
          have hbw : Below w.heap.size w wr := b2.trans (hW.dw.turn.below (by omega) (by omega))
          go_wp2_with fail
          go_ret
          exact ⟨C, rfl, by rw [← HS.out]; exact HFI.out, by omega, hbw⟩

theorem Sort_any (a : Option Addr) (cap n : Nat) (ts : List (List UInt8)) (hlen : ts.length = n) (w : World) (hT : Txt w (.slice a n cap) ts) (hn : n ≤ 1048576) :
    Calls Try.prog 25 #[.slice a n cap] w fun e w' => ∃ b, e = .returned (.slice (some ⟨b, 0, none⟩) n n) ∧ Txt w' (.slice (some ⟨b, 0, none⟩) n n) (srt cmpT ts) ∧ w.heap.size ≤ b ∧ Below w.heap.size w w' := by
  have TS := hide (TextsSort_any a cap n ts hlen w hT hn)
  clear hT hlen
  go_enter Try.func25, Try.ntmps25
  go_wp2_with fail
  refine TS.out.mono ?_
  rintro e w1 ⟨b, rfl, h1, h2, h3⟩
  go_wp2_with fail
  go_ret
  exact ⟨b, rfl, h1, h2, h3⟩

end Go.Proofs.Ythojcidbhojlhaa
