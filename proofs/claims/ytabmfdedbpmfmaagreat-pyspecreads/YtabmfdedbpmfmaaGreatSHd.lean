/-
  Walks: the document: blanks, stars, versions with an epoch and a release alone.
-/
import Derived.Test.YtabmfdedbpmfmaaGreatSGb
import Derived.Test.YtabmfdedbpmfmaaGreatSGl
import Derived.Test.YtabmfdedbpmfmaaGreatSGj
namespace Go.Proofs.YtabmfdedbpmfmaaGreat
open Go.RowKit Go.Shelf
set_option linter.unusedVariables false

theorem blk_is (c : Int) : isC c 6 = (c == 32 || c == 9) := by
  unfold isC
  rw [if_neg (by decide), if_neg (by decide), if_neg (by decide), if_neg (by decide), if_neg (by decide), if_pos rfl]
  by_cases h1 : c = 32
  · subst h1; rfl
  · by_cases h2 : c = 9
    · subst h2; rfl
    · rw [decide_eq_false h1, decide_eq_false h2, beq_eq_false_iff_ne.2 h1, beq_eq_false_iff_ne.2 h2]
set_option maxRecDepth 100000 in
set_option maxHeartbeats 1000000 in
theorem Rblank_any (c : Int) (w : World) : Calls Tryz.prog 64 #[.int .u8 c] w fun e w' => e = .returned (.bool (isC c 6)) ∧ w' = w := by
  rw [blk_is]
  cases h1 : (c == 32)
  · go_enter Tryz.func64, Tryz.ntmps64
    go_wp2_with fail
    go_ret
    exact ⟨rfl, rfl⟩
  · go_enter Tryz.func64, Tryz.ntmps64
    go_wp2_with fail
    go_ret
    exact ⟨rfl, rfl⟩
set_option maxRecDepth 100000 in
set_option maxHeartbeats 2000000 in
theorem Rskip_any (s : ByteArray) (a : Nat) (w : World) (hs : s.size ≤ 256) (ha : a ≤ s.size) : Calls Tryz.prog 62 #[.string s, .int .i64 (a : Int)] w fun e w' => e = .returned (.int .i64 (skL s.data.toList a : Int)) ∧ w' = w := by
  have hk : skL s.data.toList a = a + runL 6 (s.data.toList.drop a) := rfl
  generalize skL s.data.toList a = z at *
  have HK := hide hk
  clear hk
  go_enter Tryz.func62, Tryz.ntmps62
  go_wp2_with fail
  go_loopw [1] (fun y wr => ∃ i : Nat, i ≤ s.size ∧ y = .int .i64 i ∧ Hid (z = i + runL 6 (s.data.toList.drop i)) ∧ wr = w) (fun y _ => s.size - (intOf y).toNat)
  case atStart => exact ⟨a, ha, rfl, HK, rfl⟩
  case round =>
    obtain ⟨i, hi, rfl, HZ, rfl⟩ := hrel
    by_cases hlt : i < s.size
    · have hlt' : (i : Int) < (s.size : Int) := by omega
      have B0 := fun W => Rblank_any (s[i].toNat : Int) W
      cases hc : isC (s[i].toNat : Int) 6
      · rw [hc] at B0
        have B0 := hide B0
        have HZ2 : Hid (z = i) := hide (by rw [HZ.out, runL_miss 6 s i hlt hc, Nat.add_zero])
        clear hc
        go_wp2_with (go_at_call 64; refine (B0.out _).mono ?_; rintro e w9 ⟨rfl, rfl⟩)
        go_ret
        exact ⟨by rw [HZ2.out]; rfl, rfl⟩
      · rw [hc] at B0
        have B0 := hide B0
        have HZ2 : Hid (z = i + 1 + runL 6 (s.data.toList.drop (i + 1))) := hide (by rw [HZ.out, runL_hit 6 s i hlt hc]; omega)
        clear hc
        go_wp2_with (go_at_call 64; refine (B0.out _).mono ?_; rintro e w9 ⟨rfl, rfl⟩)
        go_roundw
        case rel => exact ⟨i + 1, by omega, by go_num, HZ2, by trivial⟩
        case measure => simp [intOf]; omega
    · have hlt' : ¬ (i : Int) < (s.size : Int) := by omega
      have HZ2 : Hid (z = i) := hide (by rw [HZ.out, runL_end 6 s i (by omega), Nat.add_zero])
      go_wp2_with fail
      go_ret
      exact ⟨by rw [HZ2.out]; rfl, rfl⟩
set_option maxRecDepth 100000 in
set_option maxHeartbeats 2000000 in
theorem Rstar_any (s : ByteArray) (w : World) (hs : s.size ≤ 140737488351232) :
    Calls Tryz.prog 90 #[.string s] w fun e w' => e = .returned (.tuple #[.string (if endsW s.data.toList = true then s.extract 0 (s.size - 2) else s), .bool (endsW s.data.toList)]) ∧ w' = w := by
  generalize hT : (if endsW s.data.toList = true then s.extract 0 (s.size - 2) else s) = T
  have HT := hide hT
  clear hT
  by_cases h2 : 2 ≤ s.size
  · have hE := ends_any s h2
    have h3 : (2 : Int) ≤ (s.size : Int) := by omega
    have hsub : ((s.size : Int) - 2) = ((s.size - 2 : Nat) : Int) := by omega
    cases hB : endsW s.data.toList
    · rw [hB] at hE
      have HT2 : Hid (T = s) := hide (by rw [← HT.out, hB]; rfl)
      clear hB
      go_enter Tryz.func90, Tryz.ntmps90
      go_wp2_with fail
      go_ret2
      exact ⟨by rw [HT2.out]; rfl, rfl⟩
    · rw [hB] at hE
      have HT2 : Hid (T = s.extract 0 (s.size - 2)) := hide (by rw [← HT.out, hB]; rfl)
      clear hB
      go_enter Tryz.func90, Tryz.ntmps90
      go_wp2_with fail
      go_ret2
      exact ⟨by rw [HT2.out]; rfl, rfl⟩
  · have h3 : ¬ (2 : Int) ≤ (s.size : Int) := by omega
    have hB : endsW s.data.toList = false := by unfold endsW; rw [len_data, decide_eq_false h2]; rfl
    have HT2 : Hid (T = s) := hide (by rw [← HT.out, hB]; rfl)
    rw [hB]
    clear hB
    go_enter Tryz.func90, Tryz.ntmps90
    go_wp2_with fail
    go_ret2
    exact ⟨by rw [HT2.out]; rfl, rfl⟩
set_option maxRecDepth 100000 in
set_option maxHeartbeats 2000000 in
theorem Rbare_any (x : PepL) (r1 q1 : Option Addr) (c1 d1 : Nat) (w : World) :
    Calls Tryz.prog 91 #[.agg #[.string (ofL x.ep), .slice r1 x.rel.length c1, .int .u8 x.c, .string (ofL x.n), .bool x.b, .string (ofL x.m), .bool x.d, .string (ofL x.k), .slice q1 x.loc.length d1]] w fun e w' => e = .returned (.bool (bareB x)) ∧ Below w.heap.size w w' := by
  have h0 := isEmpty_len x.loc
  have hBB : bareB x = ((x.c == 0) && !x.b && !x.d && x.loc.isEmpty) := by
    unfold bareB pubB
    cases x.loc.isEmpty <;> cases (x.c == 0) <;> cases x.b <;> cases x.d <;> rfl
  rw [hBB]
  clear hBB
  generalize x.loc.isEmpty = le at *
  have n0 := World.alloc_heap_new w (.cells #[.string (ofL x.ep), .slice r1 x.rel.length c1, .int .u8 x.c, .string (ofL x.n), .bool x.b, .string (ofL x.m), .bool x.d, .string (ofL x.k), .slice q1 x.loc.length d1] 44)
  have hb : Below w.heap.size w (w.alloc (.cells #[.string (ofL x.ep), .slice r1 x.rel.length c1, .int .u8 x.c, .string (ofL x.n), .bool x.b, .string (ofL x.m), .bool x.d, .string (ofL x.k), .slice q1 x.loc.length d1] 44)) := (Below.refl _ w).alloc (Nat.le_refl _) _
  obtain ⟨V, hV⟩ : ∃ V, w.alloc (.cells #[.string (ofL x.ep), .slice r1 x.rel.length c1, .int .u8 x.c, .string (ofL x.n), .bool x.b, .string (ofL x.m), .bool x.d, .string (ofL x.k), .slice q1 x.loc.length d1] 44) = V := ⟨_, rfl⟩
  rw [hV] at n0 hb
  obtain ⟨s0, s1, s2, s3, s4, s5, s6, s7, s8, _⟩ := seen9v n0
  clear n0
  generalize h1 : x.b = xb at *
  generalize h2 : x.d = xd at *
  cases hc : (x.c == 0)
  · go_enter Tryz.func91, Tryz.ntmps91
    go_wp2_with fail
    go_ret
    exact ⟨rfl, hb⟩
  · cases xb
    · cases xd
      · go_enter Tryz.func91, Tryz.ntmps91
        go_wp2_with fail
        go_ret
        exact ⟨rfl, hb⟩
      · go_enter Tryz.func91, Tryz.ntmps91
        go_wp2_with fail
        go_ret
        exact ⟨rfl, hb⟩
    · go_enter Tryz.func91, Tryz.ntmps91
      go_wp2_with fail
      go_ret
      exact ⟨rfl, hb⟩

end Go.Proofs.YtabmfdedbpmfmaaGreat
