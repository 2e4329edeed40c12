/-
  Walks: the law on nulls and great letters.
-/
import Derived.Test.YtobcoppbphfcaaaDoorDr
import Derived.Test.YtobcoppbphfcaaaDoorDs
import Derived.Test.YtobcoppbphfcaaaDoorLn
namespace Go.Proofs.YtobcoppbphfcaaaDoor
open Go.RowKit Go.Shelf
set_option linter.unusedVariables false

def tailsL : List (List UInt8) := [[46, 48], [45, 48], [46, 102, 105, 110, 97, 108], [45, 103, 97], [46, 82, 69, 76, 69, 65, 83, 69], [45, 70, 105, 110, 97, 108], [46, 48, 48, 46, 48], [45, 48, 45, 48]]
def tailCells : Array Value := #[.string ⟨#[46, 48]⟩, .string ⟨#[45, 48]⟩, .string ⟨#[46, 102, 105, 110, 97, 108]⟩, .string ⟨#[45, 103, 97]⟩, .string ⟨#[46, 82, 69, 76, 69, 65, 83, 69]⟩, .string ⟨#[45, 70, 105, 110, 97, 108]⟩, .string ⟨#[46, 48, 48, 46, 48]⟩, .string ⟨#[45, 48, 45, 48]⟩]
theorem tail_cell (m : Nat) (h : m < 8) : tailCells[m]? = some (.string (ofL (tailsL.getD m []))) := by
  match m, h with
  | 0, _ => rfl
  | 1, _ => rfl
  | 2, _ => rfl
  | 3, _ => rfl
  | 4, _ => rfl
  | 5, _ => rfl
  | 6, _ => rfl
  | 7, _ => rfl
theorem tail_null (m : Nat) (h : m < 8) : NullTail (tailsL.getD m []) := by
  match m, h with
  | 0, _ => exact ⟨by kernel_rfl, by kernel_rfl, by kernel_rfl⟩
  | 1, _ => exact ⟨by kernel_rfl, by kernel_rfl, by kernel_rfl⟩
  | 2, _ => exact ⟨by kernel_rfl, by kernel_rfl, by kernel_rfl⟩
  | 3, _ => exact ⟨by kernel_rfl, by kernel_rfl, by kernel_rfl⟩
  | 4, _ => exact ⟨by kernel_rfl, by kernel_rfl, by kernel_rfl⟩
  | 5, _ => exact ⟨by kernel_rfl, by kernel_rfl, by kernel_rfl⟩
  | 6, _ => exact ⟨by kernel_rfl, by kernel_rfl, by kernel_rfl⟩
  | 7, _ => exact ⟨by kernel_rfl, by kernel_rfl, by kernel_rfl⟩
theorem tail_len (m : Nat) (h : m < 8) : (tailsL.getD m []).length ≤ 8 := by
  match m, h with
  | 0, _ => decide
  | 1, _ => decide
  | 2, _ => decide
  | 3, _ => decide
  | 4, _ => decide
  | 5, _ => decide
  | 6, _ => decide
  | 7, _ => decide

theorem Bys.below {W W' : World} {b : Nat} {l : List UInt8} (h : Bys W b l) (hb : b < W.heap.size) (hB : Below W.heap.size W W') : Bys W' b l := by
  have e := hB.block b hb
  exact ⟨fun i hi => by rw [← h.cell i hi]; simp only [World.cell?]; rw [e], fun i hi => by rw [← h.free i hi]; simp only [World.frozen?]; rw [e]⟩
/-- A number below another, out of any. -/
theorem rem_nat (k : Int) (n : Nat) (h : 0 < n) (hn : n ≤ 1000000) : ∃ m : Nat, m < n ∧ wrap64 ((IntKind.u64.wrap k).tmod (n : Int)) = (m : Int) := by
  have h0 : 0 ≤ IntKind.u64.wrap k := by rw [IntKind.wrap_u64]; omega
  have h1 := Int.emod_nonneg (IntKind.u64.wrap k) (b := (n : Int)) (by omega)
  have h2 := Int.emod_lt_of_pos (IntKind.u64.wrap k) (b := (n : Int)) (by omega)
  rw [Int.tmod_eq_emod_of_nonneg h0]
  generalize IntKind.u64.wrap k % (n : Int) = r at *
  refine ⟨r.toNat, by omega, ?_⟩
  have := IntKind.wrap_i64 r
  unfold wrap64
  omega

set_option maxRecDepth 100000 in
set_option maxHeartbeats 4000000 in
theorem Nulls_walk (s : ByteArray) (k n : Int) (w : World) (hk : Kn w) (hs : s.size ≤ 140737488351232) :
    Calls Tryd.prog 7 #[.string s, .int .i64 k, .int .i64 n] w fun e w' => e = .returned (.bool true) ∧ Below w.heap.size w w' := by
  obtain ⟨m, hm8, hmk⟩ := rem_nat k 8 (by omega) (by omega)
  have hmk : wrap64 ((IntKind.u64.wrap k).tmod 8) = (m : Int) := hmk
  have hm8' : (m : Int) < 8 := by omega
  have HKN := hide hk
  have hml := tail_len m hm8
  have hT : ∀ h : m < [Value.string ⟨#[46, 48]⟩, Value.string ⟨#[45, 48]⟩, Value.string ⟨#[46, 102, 105, 110, 97, 108]⟩, Value.string ⟨#[45, 103, 97]⟩, Value.string ⟨#[46, 82, 69, 76, 69, 65, 83, 69]⟩, Value.string ⟨#[45, 70, 105, 110, 97, 108]⟩, Value.string ⟨#[46, 48, 48, 46, 48]⟩, Value.string ⟨#[45, 48, 45, 48]⟩].length, [Value.string ⟨#[46, 48]⟩, Value.string ⟨#[45, 48]⟩, Value.string ⟨#[46, 102, 105, 110, 97, 108]⟩, Value.string ⟨#[45, 103, 97]⟩, Value.string ⟨#[46, 82, 69, 76, 69, 65, 83, 69]⟩, Value.string ⟨#[45, 70, 105, 110, 97, 108]⟩, Value.string ⟨#[46, 48, 48, 46, 48]⟩, Value.string ⟨#[45, 48, 45, 48]⟩][m]'h = .string (ofL (tailsL.getD m [])) := fun h => by
    have := tail_cell m hm8
    have e : tailCells[m]? = some ([Value.string ⟨#[46, 48]⟩, Value.string ⟨#[45, 48]⟩, Value.string ⟨#[46, 102, 105, 110, 97, 108]⟩, Value.string ⟨#[45, 103, 97]⟩, Value.string ⟨#[46, 82, 69, 76, 69, 65, 83, 69]⟩, Value.string ⟨#[45, 70, 105, 110, 97, 108]⟩, Value.string ⟨#[46, 48, 48, 46, 48]⟩, Value.string ⟨#[45, 48, 45, 48]⟩][m]'h) := by unfold tailCells; simp
    rw [e] at this
    exact Option.some.inj this
  have hts := ofL_size (tailsL.getD m [])
  have HNT := hide (tail_null m hm8)
  generalize tailsL.getD m [] = tl at *
  cases hp : toksL s.data.toList with
  | error x =>
    have C := hide (fun w => Tokens_no s x hp w)
    have hx0 : (x.1 != 0) = true := by simpa using toks_errs hp
    go_enter Tryd.func7, Tryd.ntmps7
    go_wp2_with fail
    refine (C.out _).mono ?_
    rintro e w1 ⟨rfl, b1⟩
    have bA : Below w.heap.size w ((w1.alloc (.cells #[.int .i64 x.1, .int .i64 (x.2 : Int)] 25)).alloc (.cells #[.string ⟨#[46, 48]⟩, .string ⟨#[45, 48]⟩, .string ⟨#[46, 102, 105, 110, 97, 108]⟩, .string ⟨#[45, 103, 97]⟩, .string ⟨#[46, 82, 69, 76, 69, 65, 83, 69]⟩, .string ⟨#[45, 70, 105, 110, 97, 108]⟩, .string ⟨#[46, 48, 48, 46, 48]⟩, .string ⟨#[45, 48, 45, 48]⟩] 9)) := (b1.alloc b1.size _).alloc (by have := b1.size; simp; omega) _
    have KA := hide (HKN.out.below HKN.out.pos bA)
    go_wp2_with fail
    refine (awake_any _ KA.out).mono ?_
    rintro e w8 ⟨rfl, b8⟩
    go_wp2_with fail
    go_ret
    exact ⟨rfl, bA.trans (b8.mono bA.size)⟩
  | ok ts =>
    have C := hide (fun w h => Tokens_ok s ts hp w h)
    have hsh := (toks_short hp).1
    have hne := (toks_all hp).1
    have hs64 := (toks_all hp).2.2.2
    rw [len_data] at hs64
    have hs0 : 0 < s.size := by
      rcases Nat.eq_zero_or_pos s.size with h0 | h0
      · exact absurd (List.length_eq_zero_iff.1 ((len_data s).trans h0)) hne
      · exact h0
    have hcat : (s ++ ofL tl).data.toList = s.data.toList ++ tl := by rw [ByteArray.data_append, Array.toList_append, ofL_data]
    have hcs : (s ++ ofL tl).size = s.size + tl.length := by rw [← len_data, hcat, List.length_append, len_data]
    by_cases hl : 64 < s.size + tl.length
    · have hl' : (64 : Int) < ((s.size + tl.length : Nat) : Int) := by omega
      have hl2 : (64 : Int) < (s.size : Int) + (tl.length : Int) := by omega
      go_enter Tryd.func7, Tryd.ntmps7
      go_wp2_with fail
      refine (C.out _ HKN.out.pos).mono ?_
      rintro e w1 ⟨v1, rfl, ht1, b1⟩
      obtain ⟨g1, cap1, sp1, rfl, _⟩ := ht1
      have bA : Below w.heap.size w ((w1.alloc (.cells #[.int .i64 0, .int .i64 0] 25)).alloc (.cells #[.string ⟨#[46, 48]⟩, .string ⟨#[45, 48]⟩, .string ⟨#[46, 102, 105, 110, 97, 108]⟩, .string ⟨#[45, 103, 97]⟩, .string ⟨#[46, 82, 69, 76, 69, 65, 83, 69]⟩, .string ⟨#[45, 70, 105, 110, 97, 108]⟩, .string ⟨#[46, 48, 48, 46, 48]⟩, .string ⟨#[45, 48, 45, 48]⟩] 9)) := (b1.alloc b1.size _).alloc (by have := b1.size; simp; omega) _
      have KA := hide (HKN.out.below HKN.out.pos bA)
      go_wp2_with fail
      refine (awake_any _ KA.out).mono ?_
      rintro e w8 ⟨rfl, b8⟩
      go_wp2_with fail
      go_ret
      exact ⟨rfl, bA.trans (b8.mono bA.size)⟩
    · have hl' : ¬ (64 : Int) < ((s.size + tl.length : Nat) : Int) := by omega
      have hl2 : ¬ (64 : Int) < (s.size : Int) + (tl.length : Int) := by omega
      have hp2 : toksL (s ++ ofL tl).data.toList = .ok ts := by rw [hcat]; exact null_toks hp HNT.out (by rw [List.length_append, len_data]; omega)
      have C2 := hide (fun w h => Tokens_ok (s ++ ofL tl) ts hp2 w h)
      have HC2 := hide (cmp_alike hp hp2)
      obtain ⟨at', hat, hatk⟩ := rem_nat n s.size hs0 (by omega)
      have hat' : (at' : Int) < (s.size : Int) := by omega
      have huw : IntKind.u64.wrap (s.size : Int) = (s.size : Int) := by rw [IntKind.wrap_u64]; omega
      have hconv := fun (w : World) => Lib.run_convert_string_bytes (P := Tryd.prog) w 9 42 5 s Tryd.underlying9 Tryd.underlying42 Tryd.underlying5
      have hnz : ((s.size : Int) == 0) = false := by rw [beq_eq_false_iff_ne]; omega
      clear hcat hne
      go_enter Tryd.func7, Tryd.ntmps7
      go_wp2_with fail
      refine (C.out _ HKN.out.pos).mono ?_
      rintro e w1 ⟨v1, rfl, ht1, b1⟩
      have HT1 := hide ht1
      obtain ⟨g1, cap1, sp1, rfl, _⟩ := ht1
      have bA : Below w.heap.size w ((w1.alloc (.cells #[.int .i64 0, .int .i64 0] 25)).alloc (.cells #[.string ⟨#[46, 48]⟩, .string ⟨#[45, 48]⟩, .string ⟨#[46, 102, 105, 110, 97, 108]⟩, .string ⟨#[45, 103, 97]⟩, .string ⟨#[46, 82, 69, 76, 69, 65, 83, 69]⟩, .string ⟨#[45, 70, 105, 110, 97, 108]⟩, .string ⟨#[46, 48, 48, 46, 48]⟩, .string ⟨#[45, 48, 45, 48]⟩] 9)) := (b1.alloc b1.size _).alloc (by have := b1.size; simp; omega) _
      have KA := hide (HKN.out.below HKN.out.pos bA)
      have HTA := hide (HT1.out.toks.below (((Below.refl _ w1).alloc (Nat.le_refl _) (.cells #[.int .i64 0, .int .i64 0] 25)).alloc (by simp) (.cells #[.string ⟨#[46, 48]⟩, .string ⟨#[45, 48]⟩, .string ⟨#[46, 102, 105, 110, 97, 108]⟩, .string ⟨#[45, 103, 97]⟩, .string ⟨#[46, 82, 69, 76, 69, 65, 83, 69]⟩, .string ⟨#[45, 70, 105, 110, 97, 108]⟩, .string ⟨#[46, 48, 48, 46, 48]⟩, .string ⟨#[45, 48, 45, 48]⟩] 9)))
      go_wp2_with fail
      refine (C2.out _ KA.out.pos).mono ?_
      rintro e w2 ⟨v2, rfl, ht2, b2⟩
      have HT2 := hide ht2
      obtain ⟨g2, cap2, sp2, rfl, _⟩ := ht2
      have HB2 := hide (bA.trans (b2.mono bA.size))
      have eF := World.alloc_heap_new w2 (.cells #[.int .i64 0, .int .i64 0] 25)
      obtain ⟨W3, hW3⟩ : ∃ W3, Lib.bytesWorld (w2.alloc (.cells #[.int .i64 0, .int .i64 0] 25)) 5 s = W3 := ⟨_, rfl⟩
      have hb3 := below_conv (w2.alloc (.cells #[.int .i64 0, .int .i64 0] 25)) 5 s
      have hy3 := Bys.conv (w2.alloc (.cells #[.int .i64 0, .int .i64 0] 25)) 5 s
      rw [hW3] at hb3 hy3
      have hz3 : (w2.alloc (.cells #[.int .i64 0, .int .i64 0] 25)).heap.size = w2.heap.size + 1 := by simp
      rw [hz3] at hy3
      have eF3 := (hb3.block w2.heap.size (by rw [hz3]; omega)).trans eF
      have bF := ((Below.refl _ w2).alloc (Nat.le_refl _) (.cells #[.int .i64 0, .int .i64 0] 25)).trans (hb3.mono (by rw [hz3]; omega))
      have hcell := hy3.cell at' (by rw [len_data]; exact hat)
      have hfree := hy3.free at' (by rw [len_data]; exact hat)
      have f0 := cell_at 0 eF3 rfl
      have hset := set_low s.data.toList at'
      generalize s.data.toList.getD at' 0 = c at *
      have HBF := hide (HB2.out.trans (bF.mono HB2.out.size))
      have HT1F := HTA.out.below (b2.trans (bF.mono b2.size))
      have HT2F := HT2.out.toks.below bF
      have hBl3 : w2.heap.size + 1 < W3.heap.size := by rw [← hW3, Lib.bytesWorld_size]; simp
      by_cases hc1 : 97 ≤ c.toNat
      · have hc1' : (97 : Int) ≤ (c.toNat : Int) := by omega
        by_cases hc2 : c.toNat ≤ 122
        · have hc2' : (c.toNat : Int) ≤ 122 := by omega
          have hy4 := hy3.set at' (by rw [len_data]; exact hat) ((c.toNat : Int) - 32) (c - 32) (by
            have := UInt8.toNat_sub_of_le c 32 (by rw [UInt8.le_iff_toNat_le]; show 32 ≤ c.toNat; omega)
            rw [this]; show (c.toNat : Int) - 32 = ((c.toNat - 32 : Nat) : Int); omega)
          have hl4 : toksL (s.data.toList.set at' (c - 32)) = .ok ts := by rw [← toks_low, hset _ (low_great c hc1 hc2), toks_low]; exact hp
          have HC1 := hide (cmp_alike hl4 hp)
          have hlb : (s.data.toList.set at' (c - 32)).length = s.size := by rw [List.length_set, len_data]
          have bS : Below W3.heap.size W3 W3 := Below.refl _ _
          have hb4 : Below (w2.heap.size + 1) W3 (W3.setCell ⟨w2.heap.size + 1, at', none⟩ (.int .u8 ((c.toNat : Int) - 32))) := (Below.refl _ _).setCell (p := ⟨w2.heap.size + 1, at', none⟩) (Nat.le_refl _) _
          have hT1 := HTA.out.below (b2.trans ((bF.trans (hb4.mono (by omega))).mono b2.size))
          have hT2 := HT2.out.toks.below (bF.trans (hb4.mono (by omega)))
          have hBF := HB2.out.trans ((bF.trans (hb4.mono (by omega))).mono HB2.out.size)
          have KF := hide (HKN.out.below HKN.out.pos hBF)
          have f04 : (W3.setCell ⟨w2.heap.size + 1, at', none⟩ (.int .u8 ((c.toNat : Int) - 32))).cell? ⟨w2.heap.size, 0, none⟩ = some (.int .i64 0) := cell_at 0 ((hb4.block _ (by omega)).trans eF3) rfl
          have hBl : w2.heap.size + 1 < (W3.setCell ⟨w2.heap.size + 1, at', none⟩ (.int .u8 ((c.toNat : Int) - 32))).heap.size := Nat.lt_of_lt_of_le hBl3 hb4.size
          have hyF := hy4
          go_wp2_with fail
          clear hcell hfree f0 hy3 hy4 hconv
          generalize s.data.toList.set at' (c - 32) = lb at *
          generalize W3.setCell ⟨w2.heap.size + 1, at', none⟩ (.int .u8 ((c.toNat : Int) - 32)) = WF at *
          have SM := hide (RSame_true _ _ ts WF hT1 hT2 (by omega))
          have CS := hide (fun W h => CompareT_any s (s ++ ofL tl) W h)
          have CB := hide (fun W h => CompareT_any (ofL lb) s W h)
          rw [ofL_data, HC1.out] at CB
          rw [HC2.out] at CS
          have hback := fun W (h : Bys W (w2.heap.size + 1) lb) cap => h.back (P := Tryd.prog) 42 9 5 cap Tryd.underlying42 Tryd.underlying5 Tryd.underlying9
          rw [hlb] at hback
          refine SM.out.mono ?_
          rintro e w5 ⟨rfl, b5⟩
          have K5 := hide (KF.out.below KF.out.pos b5)
          go_wp2_with fail
          refine (CS.out _ K5.out).mono ?_
          rintro e w6 ⟨rfl, b6⟩
          have K6 := hide (K5.out.below K5.out.pos b6)
          have hy6 := hback w6 ((hyF.below hBl b5).below (Nat.lt_of_lt_of_le hBl b5.size) b6)
          go_wp2_with fail
          refine (CB.out _ K6.out).mono ?_
          rintro e w7 ⟨rfl, b7⟩
          have K7 := hide (K6.out.below K6.out.pos b7)
          go_wp2_with fail
          refine (awake_any _ K7.out).mono ?_
          rintro e w8 ⟨rfl, b8⟩
          go_wp2_with fail
          go_ret
          have B5 := hBF.trans (b5.mono hBF.size)
          have B6 := B5.trans (b6.mono B5.size)
          have B7 := B6.trans (b7.mono B6.size)
          exact ⟨rfl, B7.trans (b8.mono B7.size)⟩
        · have hc2' : ¬ (c.toNat : Int) ≤ 122 := by omega
          have hT1 := HT1F
          have hT2 := HT2F
          have KF := hide (HKN.out.below HKN.out.pos HBF.out)
          have hBF := HBF.out
          have hyF := hy3
          have HC1 := hide (cmp_alike hp hp)
          have hlb := len_data s
          have hBl := hBl3
          have hlbs := ofL_self s
          go_wp2_with fail
          clear hcell hfree f0 hy3 hconv
          generalize W3 = WF at *
          have SM := hide (RSame_true _ _ ts WF hT1 hT2 (by omega))
          have CS := hide (fun W h => CompareT_any s (s ++ ofL tl) W h)
          have CB := hide (fun W h => CompareT_any (ofL s.data.toList) s W h)
          rw [ofL_data, HC1.out] at CB
          rw [HC2.out] at CS
          have hback := fun W (h : Bys W (w2.heap.size + 1) s.data.toList) cap => h.back (P := Tryd.prog) 42 9 5 cap Tryd.underlying42 Tryd.underlying5 Tryd.underlying9
          rw [hlb] at hback
          refine SM.out.mono ?_
          rintro e w5 ⟨rfl, b5⟩
          have K5 := hide (KF.out.below KF.out.pos b5)
          go_wp2_with fail
          refine (CS.out _ K5.out).mono ?_
          rintro e w6 ⟨rfl, b6⟩
          have K6 := hide (K5.out.below K5.out.pos b6)
          have hy6 := hback w6 ((hyF.below hBl b5).below (Nat.lt_of_lt_of_le hBl b5.size) b6)
          go_wp2_with fail
          refine (CB.out _ K6.out).mono ?_
          rintro e w7 ⟨rfl, b7⟩
          have K7 := hide (K6.out.below K6.out.pos b7)
          go_wp2_with fail
          refine (awake_any _ K7.out).mono ?_
          rintro e w8 ⟨rfl, b8⟩
          go_wp2_with fail
          go_ret
          have B5 := hBF.trans (b5.mono hBF.size)
          have B6 := B5.trans (b6.mono B5.size)
          have B7 := B6.trans (b7.mono B6.size)
          exact ⟨rfl, B7.trans (b8.mono B7.size)⟩
      · have hc1' : ¬ (97 : Int) ≤ (c.toNat : Int) := by omega
        have hT1 := HT1F
        have hT2 := HT2F
        have KF := hide (HKN.out.below HKN.out.pos HBF.out)
        have hBF := HBF.out
        have hyF := hy3
        have HC1 := hide (cmp_alike hp hp)
        have hlb := len_data s
        have hBl := hBl3
        go_wp2_with fail
        clear hcell hfree f0 hy3 hconv
        generalize W3 = WF at *
        have SM := hide (RSame_true _ _ ts WF hT1 hT2 (by omega))
        have CS := hide (fun W h => CompareT_any s (s ++ ofL tl) W h)
        have CB := hide (fun W h => CompareT_any (ofL s.data.toList) s W h)
        rw [ofL_data, HC1.out] at CB
        rw [HC2.out] at CS
        have hback := fun W (h : Bys W (w2.heap.size + 1) s.data.toList) cap => h.back (P := Tryd.prog) 42 9 5 cap Tryd.underlying42 Tryd.underlying5 Tryd.underlying9
        rw [hlb] at hback
        refine SM.out.mono ?_
        rintro e w5 ⟨rfl, b5⟩
        have K5 := hide (KF.out.below KF.out.pos b5)
        go_wp2_with fail
        refine (CS.out _ K5.out).mono ?_
        rintro e w6 ⟨rfl, b6⟩
        have K6 := hide (K5.out.below K5.out.pos b6)
        have hy6 := hback w6 ((hyF.below hBl b5).below (Nat.lt_of_lt_of_le hBl b5.size) b6)
        go_wp2_with fail
        refine (CB.out _ K6.out).mono ?_
        rintro e w7 ⟨rfl, b7⟩
        have K7 := hide (K6.out.below K6.out.pos b7)
        go_wp2_with fail
        refine (awake_any _ K7.out).mono ?_
        rintro e w8 ⟨rfl, b8⟩
        go_wp2_with fail
        go_ret
        have B5 := hBF.trans (b5.mono hBF.size)
        have B6 := B5.trans (b6.mono B5.size)
        have B7 := B6.trans (b7.mono B6.size)
        exact ⟨rfl, B7.trans (b8.mono B7.size)⟩

end Go.Proofs.YtobcoppbphfcaaaDoor
