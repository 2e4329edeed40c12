/-
  Walks: the document's parse.
-/
import Derived.Test.YthojcidbhojlhaaDr
namespace Go.Proofs.Ythojcidbhojlhaa
open Go.RowKit Go.Shelf
set_option linter.unusedVariables false

theorem fin32 {R : Ending → World → Prop} (tmps : Array Value) (W : World) (B : Nat) (a b c : ByteArray) (x y : Int)
    (h2 : tmps.getD 2 undef = .pointer (some ⟨B, 0, none⟩)) (h3 : tmps.getD 3 undef = .int .i64 x) (h4 : tmps.getD 4 undef = .int .i64 y)
    (e1 : W.heap[B]? = some (.cells #[.string a, .string b, .string c] 23 (0, 0)))
    (hR : R (.returned (.tuple #[.agg #[.string a, .string b, .string c], .int .i64 x, .int .i64 y])) W) :
    bodyPost Try.prog Try.f32 R .ret { tmps := tmps, defers := [] } W := by
  have r0 := cell_at 0 e1 rfl
  have r1 := cell_at 1 e1 rfl
  have r2 := cell_at 2 e1 rfl
  rw [Array.getD_eq_getD_getElem?] at h2 h3 h4
  refine ⟨rfl, _, ?_, hR⟩
  simp [results, Try.results32, go_sem, h2, h3, h4, r0, r1, r2]
  try rfl

/-- What the document's parse hands back. -/
def DResV (x : Except (Int × Nat) DebL) : Value :=
  match x with
  | .error x => .tuple #[.agg #[.string ⟨#[]⟩, .string ⟨#[]⟩, .string ⟨#[]⟩], .int .i64 x.1, .int .i64 (x.2 : Int)]
  | .ok v => .tuple #[.agg #[.string (ofL v.ep), .string (ofL v.up), .string (ofL v.rev)], .int .i64 0, .int .i64 0]

theorem docR_at (l : List UInt8) (s : ByteArray) (j : Nat) (hj : j < s.size) (b : Nat) (e : Bool) (d : Int) (o : Bool) :
    docR l (s.data.toList.drop j) j b e d o = if j = b ∧ isC (s[j].toNat : Int) 1 = false then .error (10, j)
    else if s[j] = 58 ∧ e = false ∧ d < 0 ∧ digB (l.take j) = true then docR l (s.data.toList.drop (j + 1)) (j + 1) (j + 1) true d o
    else if s[j] = 58 ∧ e = true then docR l (s.data.toList.drop (j + 1)) (j + 1) b e d true
    else if s[j] = 45 then docR l (s.data.toList.drop (j + 1)) (j + 1) b e (j : Int) false
    else if partB s[j] = false then .error (10, j)
    else docR l (s.data.toList.drop (j + 1)) (j + 1) b e d o := by
  rw [drop_at s j hj, docR]

theorem newA (w : World) (cs : Array Value) (o : Obj) : ((w.alloc (.cells cs 23)).alloc o).heap[w.heap.size]? = some (.cells cs 23 (0, 0)) := by
  rw [Below.heap_alloc _ _ _ (by simp)]
  exact World.alloc_heap_new w _
theorem newZ (w : World) : (w.alloc (.cells #[.string ⟨#[]⟩, .string ⟨#[]⟩, .string ⟨#[]⟩] 23)).heap[w.heap.size]? = some (.cells #[.string ⟨#[]⟩, .string ⟨#[]⟩, .string ⟨#[]⟩] 23 (0, 0)) := World.alloc_heap_new w _

set_option maxRecDepth 100000 in
set_option maxHeartbeats 4000000 in
theorem Rparse_any (s : ByteArray) (w : World) :
    Calls Try.prog 32 #[.string s] w fun e w' => e = .returned (DResV (docP s.data.toList)) ∧ Below w.heap.size w w' := by
  by_cases hl : 64 < s.size
  · have HP : Hid (docP s.data.toList = .error (12, 64)) := by
      show _ = _
      unfold docP
      rw [if_pos (by rw [len_data]; exact hl)]
    have hl' : (64 : Int) < (s.size : Int) := by omega
    go_enter Try.func32, Try.ntmps32
    go_wp2_with fail
    refine fin32 _ _ w.heap.size ⟨#[]⟩ ⟨#[]⟩ ⟨#[]⟩ 12 64 rfl rfl rfl (newZ w) ?_
    exact ⟨by rw [HP.out]; rfl, (Below.refl _ w).alloc (Nat.le_refl _) _⟩
  · have hl' : ¬ (64 : Int) < (s.size : Int) := by omega
    have HP : Hid (docP s.data.toList = match docR s.data.toList s.data.toList 0 0 false (-1) false with | .error x => (.error x : Except (Int × Nat) DebL) | .ok (b, e, d, o) => docE s.data.toList b e d o) := by
      show _ = _
      unfold docP
      rw [if_neg (by rw [len_data]; exact hl)]
      rfl
    generalize docP s.data.toList = DP at *
    go_enter Try.func32, Try.ntmps32
    go_wp2_with fail
    go_loop [5, 6, 7, 8, 9] (fun v5 v6 v7 v8 v9 => ∃ (b j : Nat) (e o : Bool) (d : Int), b ≤ j ∧ j ≤ s.size ∧ -1 ≤ d ∧ d < (j : Int) ∧ Hid (0 ≤ d → (b : Int) ≤ d) ∧ Hid (e = true → 1 ≤ b) ∧ v5 = .int .i64 (b : Int) ∧ v6 = .bool e ∧ v7 = .int .i64 d ∧ v8 = .bool o ∧ v9 = .int .i64 (j : Int) ∧
        Hid (docR s.data.toList s.data.toList 0 0 false (-1) false = docR s.data.toList (s.data.toList.drop j) j b e d o)) (fun _ _ _ _ v9 => s.size - (intOf v9).toNat)
    case atStart => exact ⟨0, 0, false, false, -1, by omega, by omega, by omega, by omega, (fun h => by omega), (fun h => by cases h), rfl, rfl, rfl, rfl, rfl, rfl⟩
    case round =>
      obtain ⟨b, j, e, o, d, hbj, hj, hd1, hdj, HBD, HEB, rfl, rfl, rfl, rfl, rfl, HR⟩ := hrel
      by_cases hlt : j < s.size
      · have hlt' : (j : Int) < (s.size : Int) := by omega
        have hX := docR_at s.data.toList s j hlt b e d o
        have D := hide (fun w => Rdigit_any (s[j].toNat : Int) w)
        have PT := hide (fun w => Rpart_any s[j] w)
        have b58 : ((s[j].toNat : Int) == 58) = decide (s[j] = 58) := by
          rw [Bool.eq_iff_iff]; simp only [beq_iff_eq, decide_eq_true_eq]
          exact ⟨fun h => UInt8.toNat_inj.1 (by show _ = 58; omega), fun h => by rw [h]; rfl⟩
        have b45 : ((s[j].toNat : Int) == 45) = decide (s[j] = 45) := by
          rw [Bool.eq_iff_iff]; simp only [beq_iff_eq, decide_eq_true_eq]
          exact ⟨fun h => UInt8.toNat_inj.1 (by show _ = 45; omega), fun h => by rw [h]; rfl⟩
        by_cases hjb : j = b
        · have hjb' : ((j : Int) == (b : Int)) = true := by simp; omega
          cases hc : isC (s[j].toNat : Int) 1
          · rw [hc] at D
            rw [if_pos ⟨hjb, hc⟩] at hX
            have HX := hide hX
            clear hX hc hjb b58 b45
            go_wp2_with fail
            refine (D.out _).mono ?_
            rintro e' w' ⟨rfl, hw'⟩
            rw [hw']
            clear hw' w'
            go_wp2_with fail
            refine fin32 _ _ w.heap.size ⟨#[]⟩ ⟨#[]⟩ ⟨#[]⟩ 10 (j : Int) rfl rfl rfl (newZ w) ?_
            exact ⟨by rw [HP.out, HR.out, HX.out]; rfl, (Below.refl _ w).alloc (Nat.le_refl _) _⟩
          · rw [hc] at D
            have n58 : ¬ s[j] = 58 := fun h => by rw [h] at hc; exact absurd hc (by decide)
            have n45 : ¬ s[j] = 45 := fun h => by rw [h] at hc; exact absurd hc (by decide)
            have hp : partB s[j] = true := by unfold partB; rw [hc]; rfl
            rw [if_neg (by rw [hc]; simp), if_neg (fun h => n58 h.1), if_neg (fun h => n58 h.1), if_neg n45, if_neg (by rw [hp]; simp)] at hX
            rw [decide_eq_false n58] at b58
            rw [decide_eq_false n45] at b45
            rw [hp] at PT
            have HX := hide hX
            clear hX hc n58 n45 hp hjb
            go_wp2_with fail
            refine (D.out _).mono ?_
            rintro e' w' ⟨rfl, hw'⟩
            rw [hw']
            clear hw' w'
            go_wp2_with fail
            refine (PT.out _).mono ?_
            rintro e' w' ⟨rfl, hw'⟩
            rw [hw']
            clear hw' w'
            go_wp2_with fail
            go_round
            case rel => exact ⟨b, j + 1, e, o, d, by omega, by omega, by omega, by omega, HBD.out, HEB.out, by first | rfl | go_num, rfl, rfl, rfl, by go_num, by show _ = _; rw [HR.out, HX.out]⟩
            case measure => simp [intOf]; omega
        · have hjb' : ((j : Int) == (b : Int)) = false := by simp; omega
          rw [if_neg (fun h => hjb h.1)] at hX
          by_cases h58 : s[j] = 58
          · have n45 : ¬ s[j] = 45 := by rw [h58]; decide
            have hp : partB s[j] = false := by rw [h58]; decide
            rw [decide_eq_true h58] at b58
            rw [decide_eq_false n45] at b45
            rw [hp] at PT
            cases e with
            | true =>
              rw [if_neg (by rintro ⟨_, h, _⟩; cases h), if_pos ⟨h58, rfl⟩] at hX
              have HX := hide hX
              clear hX h58 n45 hp hjb
              go_wp2_with fail
              go_round
              case rel => exact ⟨b, j + 1, true, true, d, by omega, by omega, by omega, by omega, HBD.out, HEB.out, by first | rfl | go_num, rfl, rfl, rfl, by go_num, by show _ = _; rw [HR.out, HX.out]⟩
              case measure => simp [intOf]; omega
            | false =>
              rw [if_neg (c := s[j] = 58 ∧ false = true) (by rintro ⟨_, h⟩; cases h), if_neg n45, if_pos hp] at hX
              by_cases hd0 : d < 0
              · have AD := fun w => Ralldigits_any (s.extract 0 j) w (by rw [ByteArray.size_extract]; omega)
                have hxt : (s.extract 0 j).data.toList = s.data.toList.take j := by rw [extract_ofL, ofL_data]; simp
                rw [hxt] at AD
                have hj0 : (0 : Int) ≤ (j : Int) := by omega
                cases hdg : digB (s.data.toList.take j)
                · rw [hdg] at AD
                  rw [if_neg (by rintro ⟨_, _, _, h⟩; rw [hdg] at h; cases h)] at hX
                  have HX := hide hX
                  have AD := hide AD
                  clear hX h58 n45 hp hjb hdg hxt
                  go_wp2_with fail
                  refine (AD.out _).mono ?_
                  rintro e' w' ⟨rfl, hw'⟩
                  rw [hw']
                  clear hw' w'
                  go_wp2_with fail
                  refine (PT.out _).mono ?_
                  rintro e' w' ⟨rfl, hw'⟩
                  rw [hw']
                  clear hw' w'
                  go_wp2_with fail
                  refine fin32 _ _ w.heap.size ⟨#[]⟩ ⟨#[]⟩ ⟨#[]⟩ 10 (j : Int) rfl rfl rfl (newZ w) ?_
                  exact ⟨by rw [HP.out, HR.out, HX.out]; rfl, (Below.refl _ w).alloc (Nat.le_refl _) _⟩
                · rw [hdg] at AD
                  rw [if_pos ⟨h58, rfl, hd0, hdg⟩] at hX
                  have HX := hide hX
                  have AD := hide AD
                  clear hX h58 n45 hp hjb hdg hxt
                  go_wp2_with fail
                  refine (AD.out _).mono ?_
                  rintro e' w' ⟨rfl, hw'⟩
                  rw [hw']
                  clear hw' w'
                  go_wp2_with fail
                  go_round
                  case rel => exact ⟨(j + 1), j + 1, true, o, d, by omega, by omega, by omega, by omega, (fun h => by omega), (fun _ => by omega), by first | rfl | go_num, rfl, rfl, rfl, by go_num, by show _ = _; rw [HR.out, HX.out]⟩
                  case measure => simp [intOf]; omega
              · rw [if_neg (by rintro ⟨_, _, h, _⟩; exact hd0 h)] at hX
                have HX := hide hX
                clear hX h58 n45 hp hjb
                go_wp2_with fail
                refine (PT.out _).mono ?_
                rintro e' w' ⟨rfl, hw'⟩
                rw [hw']
                clear hw' w'
                go_wp2_with fail
                refine fin32 _ _ w.heap.size ⟨#[]⟩ ⟨#[]⟩ ⟨#[]⟩ 10 (j : Int) rfl rfl rfl (newZ w) ?_
                exact ⟨by rw [HP.out, HR.out, HX.out]; rfl, (Below.refl _ w).alloc (Nat.le_refl _) _⟩
          · rw [if_neg (fun h => h58 h.1), if_neg (fun h => h58 h.1)] at hX
            rw [decide_eq_false h58] at b58
            by_cases h45 : s[j] = 45
            · rw [if_pos h45] at hX
              rw [decide_eq_true h45] at b45
              have HX := hide hX
              clear hX h58 h45 hjb
              go_wp2_with fail
              go_round
              case rel => exact ⟨b, j + 1, e, false, (j : Int), by omega, by omega, by omega, by omega, (fun h => by omega), HEB.out, by first | rfl | go_num, rfl, rfl, rfl, by go_num, by show _ = _; rw [HR.out, HX.out]⟩
              case measure => simp [intOf]; omega
            · rw [if_neg h45] at hX
              rw [decide_eq_false h45] at b45
              cases hp : partB s[j]
              · rw [hp] at PT
                rw [if_pos hp] at hX
                have HX := hide hX
                clear hX h58 h45 hp hjb
                go_wp2_with fail
                refine (PT.out _).mono ?_
                rintro e' w' ⟨rfl, hw'⟩
                rw [hw']
                clear hw' w'
                go_wp2_with fail
                refine fin32 _ _ w.heap.size ⟨#[]⟩ ⟨#[]⟩ ⟨#[]⟩ 10 (j : Int) rfl rfl rfl (newZ w) ?_
                exact ⟨by rw [HP.out, HR.out, HX.out]; rfl, (Below.refl _ w).alloc (Nat.le_refl _) _⟩
              · rw [hp] at PT
                rw [if_neg (by rw [hp]; simp)] at hX
                have HX := hide hX
                clear hX h58 h45 hp hjb
                go_wp2_with fail
                refine (PT.out _).mono ?_
                rintro e' w' ⟨rfl, hw'⟩
                rw [hw']
                clear hw' w'
                go_wp2_with fail
                go_round
                case rel => exact ⟨b, j + 1, e, o, d, by omega, by omega, by omega, by omega, HBD.out, HEB.out, by first | rfl | go_num, rfl, rfl, rfl, by go_num, by show _ = _; rw [HR.out, HX.out]⟩
                case measure => simp [intOf]; omega
      · have hlt' : ¬ (j : Int) < (s.size : Int) := by omega
        have hY : DP = docE s.data.toList b e d o := by rw [HP.out, HR.out, drop_end s j (by omega)]; rfl
        unfold docE at hY
        rw [len_data] at hY
        clear HP HR
        by_cases hlb : s.size = b
        · have hlb' : ((s.size : Int) == (b : Int)) = true := by simp; omega
          rw [if_pos (.inl (.inl hlb))] at hY
          have HY := hide hY
          clear hY hlb
          go_wp2_with fail
          refine fin32 _ _ w.heap.size ⟨#[]⟩ ⟨#[]⟩ ⟨#[]⟩ 11 (s.size : Int) rfl rfl rfl (newZ w) ?_
          exact ⟨by rw [HY.out]; rfl, (Below.refl _ w).alloc (Nat.le_refl _) _⟩
        · have hlb' : ((s.size : Int) == (b : Int)) = false := by simp; omega
          by_cases hds : d = (s.size : Int) - 1
          · have hds' : (d == (s.size : Int) - 1) = true := by simpa using hds
            rw [if_pos (.inl (.inr hds))] at hY
            have HY := hide hY
            clear hY hlb hds
            go_wp2_with fail
            refine fin32 _ _ w.heap.size ⟨#[]⟩ ⟨#[]⟩ ⟨#[]⟩ 11 (s.size : Int) rfl rfl rfl (newZ w) ?_
            exact ⟨by rw [HY.out]; rfl, (Below.refl _ w).alloc (Nat.le_refl _) _⟩
          · have hds' : (d == (s.size : Int) - 1) = false := by simpa using hds
            by_cases hd0 : 0 ≤ d
            · cases o
              · rw [if_neg (by rintro ((h | h) | ⟨_, h⟩); exact hlb h; exact hds h; cases h), if_pos hd0, if_pos hd0] at hY
                obtain ⟨k, rfl⟩ := Int.eq_ofNat_of_zero_le hd0
                have hbk : (b : Int) ≤ (k : Int) := HBD.out hd0
                have hks : (k : Int) < (s.size : Int) - 1 := by omega
                have hk0 : (0 : Int) ≤ (k : Int) := by omega
                have hb0 : (0 : Int) ≤ (b : Int) := by omega
                rw [Int.toNat_natCast] at hY
                cases e
                · have HY := hide hY
                  clear hY hlb hds
                  go_wp2_with fail
                  refine fin32 _ _ w.heap.size ⟨#[48]⟩ (s.extract b k) (s.extract (k + 1) s.size) 0 0 rfl rfl rfl (newA w _ _) ?_
                  exact ⟨by rw [HY.out, extract_seg, extract_end]; rfl, ((Below.refl _ w).alloc (Nat.le_refl _) _).alloc (by simp) _⟩
                · obtain ⟨m, rfl⟩ : ∃ m, b = m + 1 := ⟨b - 1, by have := HEB.out rfl; omega⟩
                  rw [Nat.add_sub_cancel] at hY
                  have HY := hide hY
                  have TR := hide (fun w => RTrim_any (s.extract 0 m) w (by rw [ByteArray.size_extract]; unfold maxLen; omega))
                  have hm0 : (0 : Int) ≤ (m : Int) := by omega
                  have hms : (m : Int) ≤ (s.size : Int) := by omega
                  clear hY hlb hds
                  go_wp2_with fail
                  refine (TR.out _).mono ?_
                  rintro e' w' ⟨rfl, hw'⟩
                  rw [hw']
                  clear hw' w'
                  go_wp2_with fail
                  refine fin32 _ _ w.heap.size (ofL (trimL (s.data.toList.take m))) (s.extract (m + 1) k) (s.extract (k + 1) s.size) 0 0 rfl rfl rfl (newA w _ _) ?_
                  exact ⟨by rw [HY.out, extract_seg, extract_end]; rfl, ((Below.refl _ w).alloc (Nat.le_refl _) _).alloc (by simp) _⟩
              · rw [if_pos (.inr ⟨hd0, rfl⟩)] at hY
                have HY := hide hY
                clear hY hlb hds
                go_wp2_with fail
                refine fin32 _ _ w.heap.size ⟨#[]⟩ ⟨#[]⟩ ⟨#[]⟩ 11 (s.size : Int) rfl rfl rfl (newZ w) ?_
                exact ⟨by rw [HY.out]; rfl, (Below.refl _ w).alloc (Nat.le_refl _) _⟩
            · rw [if_neg (by rintro ((h | h) | ⟨h, _⟩); exact hlb h; exact hds h; exact hd0 h), if_neg hd0, if_neg hd0] at hY
              have hb0 : (0 : Int) ≤ (b : Int) := by omega
              have hbs : (b : Int) ≤ (s.size : Int) := by omega
              have hd0' : d < 0 := by omega
              cases e
              · have HY := hide hY
                clear hY hlb hds
                go_wp2_with fail
                refine fin32 _ _ w.heap.size ⟨#[48]⟩ (s.extract b s.size) ⟨#[]⟩ 0 0 rfl rfl rfl (newA w _ _) ?_
                exact ⟨by rw [HY.out, extract_end]; rfl, ((Below.refl _ w).alloc (Nat.le_refl _) _).alloc (by simp) _⟩
              · obtain ⟨m, rfl⟩ : ∃ m, b = m + 1 := ⟨b - 1, by have := HEB.out rfl; omega⟩
                rw [Nat.add_sub_cancel] at hY
                have hlb2 : ((s.size : Int) == (m : Int) + 1) = false := by simp; omega
                have HY := hide hY
                have TR := hide (fun w => RTrim_any (s.extract 0 m) w (by rw [ByteArray.size_extract]; unfold maxLen; omega))
                have hm0 : (0 : Int) ≤ (m : Int) := by omega
                have hms : (m : Int) ≤ (s.size : Int) := by omega
                clear hY hlb hds
                go_wp2_with fail
                refine (TR.out _).mono ?_
                rintro e' w' ⟨rfl, hw'⟩
                rw [hw']
                clear hw' w'
                go_wp2_with fail
                refine fin32 _ _ w.heap.size (ofL (trimL (s.data.toList.take m))) (s.extract (m + 1) s.size) ⟨#[]⟩ 0 0 rfl rfl rfl (newA w _ _) ?_
                exact ⟨by rw [HY.out, extract_end]; rfl, ((Below.refl _ w).alloc (Nat.le_refl _) _).alloc (by simp) _⟩

end Go.Proofs.Ythojcidbhojlhaa
