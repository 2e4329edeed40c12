/-
  Walks: the stable sort of a row of structs, piece by piece.
-/
import Derived.Test.YthojcidbhojlhaaSj
namespace Go.Proofs.Ythojcidbhojlhaa
open Go.RowKit Go.Shelf
set_option linter.unusedVariables false

theorem take_add' {α : Type} (l : List α) (i j : Nat) : l.take (i + j) = l.take i ++ (l.drop i).take j := by
  rw [List.take_add]
set_option maxRecDepth 100000 in
set_option maxHeartbeats 4000000 in
theorem stable_any {α : Type} (E : Cel α) (f : α → α → Int) (hf : Cmp3 f) (cb : Value) (w0 : World) (B : Nat) (HC : CmpG E f cb w0 B) (xs : List α) (n : Nat) (hN : xs.length = n) (w : World) (hd : DW E w0 B xs w) (hl : n ≤ 1152921504606846976) :
    Calls Try.prog 70 #[.slice (some ⟨B, 0, none⟩) n n, .int .i64 (n : Int), .func (.func 64) #[] #[cb]] w fun e w' => e = .returned (.tuple #[]) ∧ DW E w0 B (srt f xs) w' := by
  have HC := hide HC
  have HN := hide hN
  clear hN
  go_enter Try.func70, Try.ntmps70
  go_wp2_with fail
  go_loopw [7, 8] (fun u v wr => ∃ (a b : Nat) (D rest : List α), u = .int .i64 a ∧ v = .int .i64 b ∧ a + 20 = b ∧ Hid (D.length = a) ∧ a + rest.length = n ∧ DW E w0 B (D ++ rest) wr ∧ Hid (blks f 20 xs = D ++ blks f 20 rest)) (fun u _ _ => n + 1 - (intOf u).toNat)
  case atStart => exact ⟨0, 20, [], xs, rfl, rfl, rfl, rfl, by have := HN.out; omega, hd, rfl⟩
  case round =>
    clear hd
    obtain ⟨a, b, D, rest, rfl, rfl, hab, HD, hlen, hD, HB⟩ := hrel
    by_cases hlt : b ≤ n
    · have hlt' : (b : Int) ≤ (n : Int) := by omega
      have h20 : (rest.take 20).length = 20 := by rw [List.length_take]; omega
      have h20' : (rest.drop 20).length = rest.length - 20 := List.length_drop
      have hTD : rest = rest.take 20 ++ rest.drop 20 := (List.take_append_drop 20 rest).symm
      have HS := hide (blks_step f 20 (by omega) rest)
      generalize rest.take 20 = T1 at *
      generalize rest.drop 20 = T2 at *
      subst hTD
      have INS := hide (fun w => insertion_any E f hf cb w0 B HC.out D T1 T2 n a b (by rw [List.length_append, HD.out]; omega) HD.out (by omega) w)
      have HD2 : Hid ((D ++ srt f T1).length = b) := by show _ = _; rw [List.length_append, srt_length, HD.out]; omega
      have HB2 : Hid (blks f 20 xs = (D ++ srt f T1) ++ blks f 20 T2) := by show _ = _; rw [HB.out, HS.out]; simp
      have hl2 : b + T2.length = n := by rw [List.length_append] at hlen; omega
      clear h20 h20' hlen
      go_wp2_with fail
      refine (INS.out _ hD (by omega)).mono ?_
      rintro e w1 ⟨rfl, d1⟩
      have d1 : DW E w0 B ((D ++ srt f T1) ++ T2) w1 := by simpa using d1
      go_wp2_with fail
      go_roundw
      case rel => exact ⟨b, b + 20, D ++ srt f T1, T2, rfl, by go_num, rfl, HD2, hl2, d1, HB2⟩
      case measure => simp [intOf]; omega
    · have hlt' : ¬ (b : Int) ≤ (n : Int) := by omega
      have INS := hide (fun w => insertion_any E f hf cb w0 B HC.out D rest [] n a n (by rw [List.length_append, HD.out, List.append_nil]; omega) HD.out (by omega) w)
      have HF : Hid (D ++ (srt f rest ++ []) = blks f 20 xs) := by show _ = _; rw [List.append_nil, HB.out, blks_one f 20 (by omega) rest (by omega)]
      have hD0 : DW E w0 B (D ++ (rest ++ [])) wr := by simpa using hD
      clear hD
      go_wp2_with fail
      refine (INS.out _ hD0 (by omega)).mono ?_
      rintro e w1 ⟨rfl, d1⟩
      rw [HF.out] at d1
      clear hD0 HF INS HB HD
      go_wp2_with fail
      go_loopw [6] (fun u wr2 => ∃ (bs : Nat), u = .int .i64 bs ∧ 20 ≤ bs ∧ bs ≤ 4611686018427387904 ∧ DW E w0 B (blks f bs xs) wr2) (fun u _ => n - (intOf u).toNat)
      case atStart => exact ⟨20, rfl, Nat.le_refl _, by omega, d1⟩
      case round =>
        clear d1
        obtain ⟨bs, rfl, hbs, hbs2, hD⟩ := hrel
        by_cases hlb : bs < n
        · have hlb' : (bs : Int) < (n : Int) := by omega
          go_wp2_with fail
          go_loopw [7, 8] (fun u v wr3 => ∃ (a b : Nat) (D rest : List α), u = .int .i64 a ∧ v = .int .i64 b ∧ a + 2 * bs = b ∧ Hid (D.length = a) ∧ a + rest.length = n ∧ DW E w0 B (D ++ blks f bs rest) wr3 ∧ Hid (blks f (2 * bs) xs = D ++ blks f (2 * bs) rest)) (fun u _ _ => n + 1 - (intOf u).toNat)
          case atStart => exact ⟨0, 2 * bs, [], xs, rfl, by first | rfl | go_num | (congr 1; omega), by omega, rfl, by have := HN.out; omega, hD, rfl⟩
          case round =>
            clear hD
            obtain ⟨a, b, D, rest, rfl, rfl, hab, HD, hlen, hD, HB⟩ := hrel
            by_cases hlt : b ≤ n
            · have hlt' : (b : Int) ≤ (n : Int) := by omega
              have q1 : (rest.take bs).length = bs := by rw [List.length_take]; omega
              have q2 : ((rest.drop bs).take bs).length = bs := by rw [List.length_take, List.length_drop]; omega
              have q3 : (rest.drop (bs + bs)).length = rest.length - (bs + bs) := List.length_drop
              have HS1 : Hid (blks f bs rest = srt f (rest.take bs) ++ (srt f ((rest.drop bs).take bs) ++ blks f bs (rest.drop (bs + bs)))) := by
                show _ = _
                rw [blks_step f bs (by omega) rest, blks_step f bs (by omega) (rest.drop bs), List.drop_drop]
              have HS2 : Hid (blks f (2 * bs) rest = mrg f (srt f (rest.take bs)) (srt f ((rest.drop bs).take bs)) ++ blks f (2 * bs) (rest.drop (bs + bs))) := by
                show _ = _
                rw [blks_step f (2 * bs) (by omega) rest, ← srt_app hf, ← take_add', show 2 * bs = bs + bs by omega]
              have q4 : (blks f bs (rest.drop (bs + bs))).length = rest.length - (bs + bs) := by rw [blks_len f bs (by omega) _ _ (Nat.le_refl _), q3]
              generalize rest.take bs = T1 at *
              generalize (rest.drop bs).take bs = T2 at *
              generalize rest.drop (bs + bs) = T3 at *
              obtain ⟨mm, hmm⟩ : ∃ mm, mm = a + bs := ⟨_, rfl⟩
              have SY := hide (fun w => symMerge_any E f hf cb w0 B HC.out D (srt f T1) (srt f T2) (blks f bs T3) (srt_srt hf T1) (srt_srt hf T2) (by rw [srt_length]; omega) (by rw [srt_length]; omega) n a mm b (by simp only [List.length_append, srt_length]; rw [HD.out, q4]; omega) HD.out (by rw [srt_length]; omega) (by rw [srt_length]; omega) w)
              have HD2 : Hid ((D ++ mrg f (srt f T1) (srt f T2)).length = b) := by show _ = _; rw [List.length_append, mrg_length, srt_length, srt_length, HD.out]; omega
              have HB2 : Hid (blks f (2 * bs) xs = (D ++ mrg f (srt f T1) (srt f T2)) ++ blks f (2 * bs) T3) := by show _ = _; rw [HB.out, HS2.out]; simp
              have hl2 : b + T3.length = n := by omega
              have hD0 : DW E w0 B (D ++ (srt f T1 ++ (srt f T2 ++ blks f bs T3))) wr := by rw [← HS1.out]; exact hD
              have eab : (a : Int) + (bs : Int) = (mm : Int) := by omega
              clear hmm
              clear hD HS1 HS2 HB q1 q2 q3 q4 hlen
              go_wp2_with fail
              refine (SY.out _ hD0 (by omega)).mono ?_
              rintro e w1 ⟨rfl, d1⟩
              have d1 : DW E w0 B ((D ++ mrg f (srt f T1) (srt f T2)) ++ blks f bs T3) w1 := by simpa using d1
              go_wp2_with fail
              go_roundw
              case rel => exact ⟨b, b + 2 * bs, D ++ mrg f (srt f T1) (srt f T2), T3, rfl, by first | rfl | go_num | (congr 1; omega), rfl, HD2, hl2, d1, HB2⟩
              case measure => simp [intOf]; omega
            · have hlt' : ¬ (b : Int) ≤ (n : Int) := by omega
              by_cases hmn : a + bs < n
              · have hmn' : (a : Int) + (bs : Int) < (n : Int) := by omega
                have q1 : (rest.take bs).length = bs := by rw [List.length_take]; omega
                have q2 : (rest.drop bs).length = rest.length - bs := List.length_drop
                have HS1 : Hid (blks f bs rest = srt f (rest.take bs) ++ (srt f (rest.drop bs) ++ [])) := by
                  show _ = _
                  rw [blks_step f bs (by omega) rest, blks_one f bs (by omega) (rest.drop bs) (by omega), List.append_nil]
                have HS2 : Hid (blks f (2 * bs) rest = mrg f (srt f (rest.take bs)) (srt f (rest.drop bs)) ++ []) := by
                  show _ = _
                  rw [blks_one f (2 * bs) (by omega) rest (by omega), ← srt_app hf, List.take_append_drop, List.append_nil]
                generalize rest.take bs = T1 at *
                generalize rest.drop bs = T2 at *
                obtain ⟨mm, hmm⟩ : ∃ mm, mm = a + bs := ⟨_, rfl⟩
                have SY := hide (fun w => symMerge_any E f hf cb w0 B HC.out D (srt f T1) (srt f T2) [] (srt_srt hf T1) (srt_srt hf T2) (by rw [srt_length]; omega) (by rw [srt_length]; omega) n a mm n (by simp only [List.length_append, srt_length, List.length_nil]; rw [HD.out]; omega) HD.out (by rw [srt_length]; omega) (by rw [srt_length]; omega) w)
                have hD0 : DW E w0 B (D ++ (srt f T1 ++ (srt f T2 ++ []))) wr := by rw [← HS1.out]; exact hD
                have HF : Hid (D ++ (mrg f (srt f T1) (srt f T2) ++ []) = blks f (2 * bs) xs) := by show _ = _; rw [HB.out, HS2.out]
                have eab : (a : Int) + (bs : Int) = (mm : Int) := by omega
                have eab' : (mm : Int) < (n : Int) := by omega
                clear hmm hmn hmn'
                have hbs3 : bs * 2 = 2 * bs := by omega
                clear hD HS1 HS2 HB q1 q2 hlen
                go_wp2_with fail
                refine (SY.out _ hD0 (by omega)).mono ?_
                rintro e w1 ⟨rfl, d1⟩
                rw [HF.out] at d1
                clear hbs3
                go_wp2_with fail
                go_roundw
                case rel => exact ⟨2 * bs, by first | rfl | go_num | (congr 1; omega), by omega, by omega, d1⟩
                case measure => simp [intOf]; omega
              · have hmn' : ¬ (a : Int) + (bs : Int) < (n : Int) := by omega
                have HF : Hid (D ++ blks f bs rest = blks f (2 * bs) xs) := by show _ = _; rw [HB.out, blks_one f bs (by omega) rest (by omega), blks_one f (2 * bs) (by omega) rest (by omega)]
                rw [HF.out] at hD
                clear HB HF
                go_wp2_with fail
                go_roundw
                case rel => exact ⟨2 * bs, by first | rfl | go_num | (congr 1; omega), by omega, by omega, hD⟩
                case measure => simp [intOf]; omega
        · have hlb' : ¬ (bs : Int) < (n : Int) := by omega
          have HF := hide (blks_one f bs (by omega) xs (by have := HN.out; omega))
          go_wp2_with fail
          go_end0
          exact ⟨rfl, by rw [← HF.out]; exact hD⟩

set_option maxHeartbeats 1000000 in
theorem sortStable_any {α : Type} (E : Cel α) (f : α → α → Int) (hf : Cmp3 f) (cb : Value) (w0 : World) (B : Nat) (HC : CmpG E f cb w0 B) (xs : List α) (n : Nat) (hN : xs.length = n) (w : World) (hd : DW E w0 B xs w) (hl : n ≤ 1152921504606846976) :
    Calls Try.prog 63 #[.slice (some ⟨B, 0, none⟩) n n, .func (.func 64) #[] #[cb]] w fun e w' => e = .returned (.tuple #[]) ∧ DW E w0 B (srt f xs) w' := by
  have ST := hide (fun w hd => stable_any E f hf cb w0 B HC xs n hN w hd hl)
  clear hN
  go_enter Try.func63, Try.ntmps63
  go_wp2_with fail
  refine (ST.out _ hd).mono ?_
  rintro e w1 ⟨rfl, d1⟩
  go_wp2_with fail
  go_end0
  exact ⟨rfl, d1⟩

end Go.Proofs.Ythojcidbhojlhaa
