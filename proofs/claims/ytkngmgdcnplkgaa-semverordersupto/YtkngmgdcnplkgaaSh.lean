/-
  Walks: chapter 2's examples.
-/
import Derived.Test.YtkngmgdcnplkgaaSg
namespace Go.Proofs.Ytkngmgdcnplkgaa
open Go.RowKit Go.Shelf
set_option linter.unusedVariables false

def exCells : Array Value := #[.string ⟨#[49, 46, 48, 46, 48, 45, 97, 108, 112, 104, 97]⟩, .string ⟨#[49, 46, 48, 46, 48, 45, 97, 108, 112, 104, 97, 46, 49]⟩, .string ⟨#[49, 46, 48, 46, 48, 45, 97, 108, 112, 104, 97, 46, 98, 101, 116, 97]⟩, .string ⟨#[49, 46, 48, 46, 48, 45, 98, 101, 116, 97]⟩, .string ⟨#[49, 46, 48, 46, 48, 45, 98, 101, 116, 97, 46, 50]⟩, .string ⟨#[49, 46, 48, 46, 48, 45, 98, 101, 116, 97, 46, 49, 49]⟩, .string ⟨#[49, 46, 48, 46, 48, 45, 114, 99, 46, 49]⟩, .string ⟨#[49, 46, 48, 46, 48]⟩]
theorem ex_cell (k : Nat) (h : k < 8) : exCells[k]? = some (.string (ofL (exs.getD k []))) := by
  match k, h with
  | 0, _ => rfl
  | 1, _ => rfl
  | 2, _ => rfl
  | 3, _ => rfl
  | 4, _ => rfl
  | 5, _ => rfl
  | 6, _ => rfl
  | 7, _ => rfl

set_option maxRecDepth 100000 in
set_option maxHeartbeats 2000000 in
theorem awake_any (PA : ∀ (s : ByteArray) (w : World), s.size ≤ 64 → Calls Try.prog 9 #[.string s] w (PPost s w)) (w : World) :
    Calls Try.prog 14 #[] w fun e w' => e = .returned (.bool true) ∧ Below w.heap.size w w' := by
  go_enter Try.func14, Try.ntmps14
  go_wp2_with fail
  have eL : (w.alloc (.cells exCells 9)).heap[w.heap.size]? = some (.cells exCells 9) := World.alloc_heap_new w _
  have bL : Below w.heap.size w (w.alloc (.cells exCells 9)) := (Below.refl _ w).alloc (Nat.le_refl _) _
  generalize hW0 : w.alloc (.cells #[.string ⟨#[49, 46, 48, 46, 48, 45, 97, 108, 112, 104, 97]⟩, .string ⟨#[49, 46, 48, 46, 48, 45, 97, 108, 112, 104, 97, 46, 49]⟩, .string ⟨#[49, 46, 48, 46, 48, 45, 97, 108, 112, 104, 97, 46, 98, 101, 116, 97]⟩, .string ⟨#[49, 46, 48, 46, 48, 45, 98, 101, 116, 97]⟩, .string ⟨#[49, 46, 48, 46, 48, 45, 98, 101, 116, 97, 46, 50]⟩, .string ⟨#[49, 46, 48, 46, 48, 45, 98, 101, 116, 97, 46, 49, 49]⟩, .string ⟨#[49, 46, 48, 46, 48, 45, 114, 99, 46, 49]⟩, .string ⟨#[49, 46, 48, 46, 48]⟩] 9) = W0 at *
  rw [show w.alloc (.cells exCells 9) = W0 from hW0] at eL bL
  clear hW0
  have EL := hide eL
  have BL := hide bL
  clear eL bL
  go_loopw [2] (fun i wr => ∃ k : Nat, 1 ≤ k ∧ k ≤ 8 ∧ i = .int .i64 k ∧ Hid (wr.heap[w.heap.size]? = some (.cells exCells 9)) ∧ Below w.heap.size w wr) (fun i _ => 8 - (intOf i).toNat)
  case atStart => exact ⟨1, by omega, by omega, rfl, EL, BL.out⟩
  case round =>
    obtain ⟨k, h1, h8, rfl, HL, hb⟩ := hrel
    by_cases hlt : k < 8
    · obtain ⟨m, rfl⟩ : ∃ m, k = m + 1 := ⟨k - 1, by omega⟩
      have c0 := cell_at m HL.out (ex_cell m (by omega))
      have c1 := cell_at (m + 1) HL.out (ex_cell (m + 1) hlt)
      have C := hide (fun W => CompareT_any PA (ofL (exs.getD m [])) (ofL (exs.getD (m + 1) [])) W)
      have HM := hide (exs_less m (by omega))
      go_wp2_with fail
      refine wp_region_still_tail 9 (by kernel_rfl) (by kernel_rfl) ?_
      change wpStill _ _ (World.drew _) _ _ _
      simp only [List.take_succ_cons, List.take_zero, List.drop_succ_cons, List.drop_zero]
      have hmm : ((m : Int) < 8) := by omega
      have hm0 : ((0 : Int) ≤ (m : Int)) := by omega
      have hm1 : ((0 : Int) ≤ (m : Int) + 1) := by omega
      have hwr : IntKind.i64.wrap (m : Int) = (m : Int) := by rw [IntKind.wrap_i64]; omega
      have hmm1 : ((m : Int) + 1 < 8) := by omega
      still_step
      still_step
      still_step
      still_step
      still_step
      still_step
      still_step
      still_step
      still_step
      refine wpStill_nil ?_
      go_wp2_with fail
      refine (C.out _).mono ?_
      rintro e w' ⟨rfl, b1⟩
      rw [ofL_data, ofL_data, HM.out]
      go_wp2_with fail
      go_roundw
      case rel => exact ⟨m + 1 + 1, by omega, by omega, by go_num, (b1.block _ (Array.getElem?_eq_some_iff.1 HL.out).1).trans HL.out, hb.drew.trans (b1.mono hb.size)⟩
      case measure => simp [intOf]; omega
    · have P1 := hide (fun W => Parse_sem PA ⟨#[48, 49, 46, 50, 46, 51]⟩ W)
      have P2 := hide (fun W => Parse_sem PA ⟨#[49, 46, 50, 46, 51, 45, 48, 49, 46, 120]⟩ W)
      have P3 := hide (fun W => Parse_sem PA ⟨#[49, 46, 50]⟩ W)
      have P4 := hide (fun W => Canon_any PA ⟨#[49, 46, 50, 46, 51, 43, 120]⟩ W)
      go_wp2_with fail
      refine (P1.out _).mono ?_
      rintro e w1 ⟨b1, h1⟩
      unfold PRes at h1
      rw [show parseR (ByteArray.mk #[48, 49, 46, 50, 46, 51]).data.toList = .error (14, 1) from ex1] at h1
      subst h1
      unfold semZ
      go_wp2_with fail
      refine (P2.out _).mono ?_
      rintro e w2 ⟨b2, h2⟩
      unfold PRes at h2
      rw [show parseR (ByteArray.mk #[49, 46, 50, 46, 51, 45, 48, 49, 46, 120]).data.toList = .error (14, 8) from ex2] at h2
      subst h2
      unfold semZ
      go_wp2_with fail
      refine (P3.out _).mono ?_
      rintro e w3 ⟨b3, h3⟩
      unfold PRes at h3
      rw [show parseR (ByteArray.mk #[49, 46, 50]).data.toList = .error (11, 3) from ex3] at h3
      subst h3
      unfold semZ
      simp only [World.size_alloc] at b2 b3
      have f1 : w2.heap[w1.heap.size + 1]? = some (.cells #[.int .i64 14, .int .i64 1] 27) := (b2.block _ (by omega)).trans (by have := World.alloc_heap_new (w1.alloc (.cells #[.string ⟨#[]⟩, .string ⟨#[]⟩, .string ⟨#[]⟩, .slice none 0 0, .slice none 0 0] 24)) (.cells #[.int .i64 14, .int .i64 1] 27); simpa using this)
      have l1 := (Array.getElem?_eq_some_iff.1 f1).1
      have f1' : w3.heap[w1.heap.size + 1]? = some (.cells #[.int .i64 14, .int .i64 1] 27) := (b3.block _ (by omega)).trans ((Below.heap_alloc _ _ _ (by simp; omega)).trans ((Below.heap_alloc _ _ _ l1).trans f1))
      have f2 : w3.heap[w2.heap.size + 1]? = some (.cells #[.int .i64 14, .int .i64 8] 27) := (b3.block _ (by omega)).trans (by have := World.alloc_heap_new (w2.alloc (.cells #[.string ⟨#[]⟩, .string ⟨#[]⟩, .string ⟨#[]⟩, .slice none 0 0, .slice none 0 0] 24)) (.cells #[.int .i64 14, .int .i64 8] 27); simpa using this)
      have m1 := (Array.getElem?_eq_some_iff.1 f1').1
      have m2 := (Array.getElem?_eq_some_iff.1 f2).1
      have d0 := cell_at 0 f1' rfl
      have d1 := cell_at 1 f1' rfl
      have d2 := cell_at 0 f2 rfl
      have d3 := cell_at 1 f2 rfl
      have q1 : w1.heap.size + 1 < w3.heap.size + 1 := by omega
      have q2 : w2.heap.size + 1 < w3.heap.size + 1 := by omega
      go_wp2_with fail
      refine (P4.out _).mono ?_
      rintro e w4 ⟨rfl, b4⟩
      rw [show canonL (ByteArray.mk #[49, 46, 50, 46, 51, 43, 120]).data.toList = [49, 46, 50, 46, 51] from ex4]
      have hq : ((ofL [49, 46, 50, 46, 51]).toList == [49, 46, 50, 46, 51]) = true := by rw [toL, ofL_data]; rfl
      have s1 := hb.size
      have s2 := b1.size
      have s3 := b2.size
      have s4 := b3.size
      have t1 : Below w.heap.size w w1 := hb.trans (b1.mono s1)
      have t2 := ((t1.alloc (by omega) (.cells #[.string ⟨#[]⟩, .string ⟨#[]⟩, .string ⟨#[]⟩, .slice none 0 0, .slice none 0 0] 24)).alloc (by simp; omega) (.cells #[.int .i64 14, .int .i64 1] 27)).trans (b2.mono (by omega))
      have t3 := ((t2.alloc (by omega) (.cells #[.string ⟨#[]⟩, .string ⟨#[]⟩, .string ⟨#[]⟩, .slice none 0 0, .slice none 0 0] 24)).alloc (by simp; omega) (.cells #[.int .i64 14, .int .i64 8] 27)).trans (b3.mono (by omega))
      have t4 := ((t3.alloc (by omega) (.cells #[.string ⟨#[]⟩, .string ⟨#[]⟩, .string ⟨#[]⟩, .slice none 0 0, .slice none 0 0] 24)).alloc (by simp; omega) (.cells #[.int .i64 11, .int .i64 3] 27)).trans (b4.mono (by simp; omega))
      have T4 := hide t4
      clear t1 t2 t3 t4 s1 s2 s3 s4
      go_wp2_with fail
      go_ret
      exact ⟨rfl, T4.out⟩

end Go.Proofs.Ytkngmgdcnplkgaa
