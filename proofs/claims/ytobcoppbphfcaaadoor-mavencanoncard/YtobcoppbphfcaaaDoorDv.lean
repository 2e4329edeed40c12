/-
  Walks: the law on the canonical text.
-/
import Derived.Test.YtobcoppbphfcaaaDoorDr
import Derived.Test.YtobcoppbphfcaaaDoorDu
namespace Go.Proofs.YtobcoppbphfcaaaDoor
open Go.RowKit Go.Shelf
set_option linter.unusedVariables false

theorem toks_id {l : List UInt8} {ts : List Tok} (h : toksL l = .ok ts) : trimT ts = ts := by rw [(toks_all h).2.2.1, trimT_idem]

set_option maxRecDepth 100000 in
set_option maxHeartbeats 4000000 in
theorem Canon_walk (s : ByteArray) (w : World) (hk : Kn w) :
    Calls Tryd.prog 6 #[.string s] w fun e w' => e = .returned (.bool true) ∧ Below w.heap.size w w' := by
  have HKN := hide hk
  cases hp : toksL s.data.toList with
  | error x =>
    have C := hide (fun w => Tokens_no s x hp w)
    have hx0 : (x.1 != 0) = true := by simpa using toks_errs hp
    have CC := fun w h => Canon_any s w h
    rw [show canonL s.data.toList = [] by unfold canonL; rw [hp]] at CC
    have CC := hide CC
    have hem : (ofL []).toList.isEmpty = true := by rw [toL, ofL_data]; rfl
    go_enter Tryd.func6, Tryd.ntmps6
    go_wp2_with fail
    refine (C.out _).mono ?_
    rintro e w1 ⟨rfl, b1⟩
    have bA : Below w.heap.size w (w1.alloc (.cells #[.int .i64 x.1, .int .i64 (x.2 : Int)] 25)) := b1.alloc b1.size _
    have KA := hide (HKN.out.below HKN.out.pos bA)
    have eF := World.alloc_heap_new w1 (.cells #[.int .i64 x.1, .int .i64 (x.2 : Int)] 25)
    go_wp2_with fail
    refine (CC.out _ KA.out).mono ?_
    rintro e w2 ⟨rfl, b2⟩
    have K2 := hide (KA.out.below KA.out.pos b2)
    have eF2 := (b2.block w1.heap.size (by simp)).trans eF
    have f0 := cell_at 0 eF2 rfl
    go_wp2_with fail
    refine (awake_any _ K2.out).mono ?_
    rintro e w3 ⟨rfl, b3⟩
    go_wp2_with fail
    go_ret
    have B2 := bA.trans (b2.mono bA.size)
    exact ⟨rfl, B2.trans (b3.mono B2.size)⟩
  | ok ts =>
    have C := hide (fun w h => Tokens_ok s ts hp w h)
    have hsh := (toks_short hp).1
    have CC := fun w h => Canon_any s w h
    rw [show canonL s.data.toList = canonT ts by unfold canonL; rw [hp]] at CC
    have CC := hide CC
    have FT := hide (fun v w h0 hT => Fit_true v ts w h0 hT (by omega) (toks_fit hp) (toks_id hp))
    have hcs := ofL_size (canonT ts)
    by_cases hl : 64 < (canonT ts).length
    · have hl' : (64 : Int) < ((canonT ts).length : Int) := by omega
      go_enter Tryd.func6, Tryd.ntmps6
      go_wp2_with fail
      refine (C.out _ HKN.out.pos).mono ?_
      rintro e w1 ⟨v1, rfl, ht1, b1⟩
      have HT1 := hide ht1.toks
      obtain ⟨g1, cap1, sp1, rfl, _⟩ := ht1
      have bA : Below w.heap.size w (w1.alloc (.cells #[.int .i64 0, .int .i64 0] 25)) := b1.alloc b1.size _
      have KA := hide (HKN.out.below HKN.out.pos bA)
      have eF := World.alloc_heap_new w1 (.cells #[.int .i64 0, .int .i64 0] 25)
      have HTA := hide (HT1.out.below ((Below.refl _ w1).alloc (Nat.le_refl _) (.cells #[.int .i64 0, .int .i64 0] 25)))
      go_wp2_with fail
      refine (CC.out _ KA.out).mono ?_
      rintro e w2 ⟨rfl, b2⟩
      have K2 := hide (KA.out.below KA.out.pos b2)
      have eF2 := (b2.block w1.heap.size (by simp)).trans eF
      have f0 := cell_at 0 eF2 rfl
      have HT2 := hide (HTA.out.below b2)
      generalize canonT ts = cn at *
      go_wp2_with fail
      refine (FT.out _ _ K2.out.pos HT2.out).mono ?_
      rintro e w3 ⟨rfl, b3⟩
      have K3 := hide (K2.out.below K2.out.pos b3)
      go_wp2_with fail
      refine (awake_any _ K3.out).mono ?_
      rintro e w4 ⟨rfl, b4⟩
      go_wp2_with fail
      go_ret
      have B2 := bA.trans (b2.mono bA.size)
      have B3 := B2.trans (b3.mono B2.size)
      exact ⟨rfl, B3.trans (b4.mono B3.size)⟩
    · have hl' : ¬ (64 : Int) < ((canonT ts).length : Int) := by omega
      have hp2 := canon_toks hp (by omega)
      have C2 := hide (fun w h => Tokens_ok (ofL (canonT ts)) ts (by rw [ofL_data]; exact hp2) w h)
      have CN := fun w h => Canon_any (ofL (canonT ts)) w h
      rw [ofL_data, show canonL (canonT ts) = canonT ts by unfold canonL; rw [hp2]] at CN
      have CN := hide CN
      have CM := fun w h => CompareT_any s (ofL (canonT ts)) w h
      rw [ofL_data, cmp_alike hp hp2] at CM
      have CM := hide CM
      have SM := hide (fun va vb w hA hB => RSame_true va vb ts w hA hB (by omega))
      go_enter Tryd.func6, Tryd.ntmps6
      go_wp2_with fail
      refine (C.out _ HKN.out.pos).mono ?_
      rintro e w1 ⟨v1, rfl, ht1, b1⟩
      have HT1 := hide ht1.toks
      obtain ⟨g1, cap1, sp1, rfl, _⟩ := ht1
      have bA : Below w.heap.size w (w1.alloc (.cells #[.int .i64 0, .int .i64 0] 25)) := b1.alloc b1.size _
      have KA := hide (HKN.out.below HKN.out.pos bA)
      have eF := World.alloc_heap_new w1 (.cells #[.int .i64 0, .int .i64 0] 25)
      have HTA := hide (HT1.out.below ((Below.refl _ w1).alloc (Nat.le_refl _) (.cells #[.int .i64 0, .int .i64 0] 25)))
      go_wp2_with fail
      refine (CC.out _ KA.out).mono ?_
      rintro e w2 ⟨rfl, b2⟩
      have K2 := hide (KA.out.below KA.out.pos b2)
      have eF2 := (b2.block w1.heap.size (by simp)).trans eF
      have f0 := cell_at 0 eF2 rfl
      have HT2 := hide (HTA.out.below b2)
      have B2 := hide (bA.trans (b2.mono bA.size))
      have hcn : ((ofL (canonT ts)).toList == (ofL (canonT ts)).toList) = true := by simp
      generalize canonT ts = cn at *
      go_wp2_with fail
      refine (C2.out _ K2.out.pos).mono ?_
      rintro e w3 ⟨v3, rfl, ht3, b3⟩
      have HT3 := hide ht3.toks
      obtain ⟨g3, cap3, sp3, rfl, _⟩ := ht3
      have bG : Below w2.heap.size w2 (w3.alloc (.cells #[.int .i64 0, .int .i64 0] 25)) := b3.alloc b3.size _
      have KG := hide (K2.out.below K2.out.pos bG)
      have eG := World.alloc_heap_new w3 (.cells #[.int .i64 0, .int .i64 0] 25)
      have HT1G := hide (HT2.out.below bG)
      have HT3G := hide (HT3.out.below ((Below.refl _ w3).alloc (Nat.le_refl _) (.cells #[.int .i64 0, .int .i64 0] 25)))
      have BG := hide (B2.out.trans (bG.mono B2.out.size))
      go_wp2_with fail
      refine (FT.out _ _ KG.out.pos HT1G.out).mono ?_
      rintro e w4 ⟨rfl, b4⟩
      have K4 := hide (KG.out.below KG.out.pos b4)
      have eG4 := (b4.block w3.heap.size (by simp)).trans eG
      have q0 := cell_at 0 eG4 rfl
      have q1 := cell_at 1 eG4 rfl
      have SM4 := hide (SM.out _ _ w4 (HT1G.out.below b4) (HT3G.out.below b4))
      have B4 := hide (BG.out.trans (b4.mono BG.out.size))
      go_wp2_with fail
      refine SM4.out.mono ?_
      rintro e w5 ⟨rfl, b5⟩
      have K5 := hide (K4.out.below K4.out.pos b5)
      have B5 := hide (B4.out.trans (b5.mono B4.out.size))
      go_wp2_with fail
      refine (CN.out _ K5.out).mono ?_
      rintro e w6 ⟨rfl, b6⟩
      have K6 := hide (K5.out.below K5.out.pos b6)
      have B6 := hide (B5.out.trans (b6.mono B5.out.size))
      go_wp2_with fail
      refine (CM.out _ K6.out).mono ?_
      rintro e w7 ⟨rfl, b7⟩
      have K7 := hide (K6.out.below K6.out.pos b7)
      have B7 := hide (B6.out.trans (b7.mono B6.out.size))
      go_wp2_with fail
      refine (awake_any _ K7.out).mono ?_
      rintro e w8 ⟨rfl, b8⟩
      go_wp2_with fail
      go_ret
      exact ⟨rfl, B7.out.trans (b8.mono B7.out.size)⟩

end Go.Proofs.YtobcoppbphfcaaaDoor
