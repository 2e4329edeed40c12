/-
  Walks: snapshots; a token's mark and its text.
-/
import Derived.Test.YtobcoppbphfcaaaDoorDn
namespace Go.Proofs.YtobcoppbphfcaaaDoor
open Go.RowKit Go.Shelf
set_option linter.unusedVariables false

set_option maxHeartbeats 400000 in
theorem mark_any (t : Tok) (w : World) :
    Calls Tryd.prog 32 #[tokV t] w fun e w' => e = .returned (.int .u8 ((markT t).toNat : Int)) ∧ Below w.heap.size w w' := by
  obtain ⟨d, n, x⟩ := t
  unfold tokV
  dsimp only
  cases d
  · go_enter Tryd.func32, Tryd.ntmps32
    go_wp2_with fail
    go_ret
    exact ⟨rfl, (Below.refl _ w).alloc (Nat.le_refl _) _⟩
  · go_enter Tryd.func32, Tryd.ntmps32
    go_wp2_with fail
    go_ret
    exact ⟨rfl, (Below.refl _ w).alloc (Nat.le_refl _) _⟩

set_option maxHeartbeats 400000 in
theorem write_any (t : Tok) (w : World) :
    Calls Tryd.prog 34 #[tokV t] w fun e w' => e = .returned (.string (ofL (writeT t))) ∧ Below w.heap.size w w' := by
  obtain ⟨d, n, x⟩ := t
  unfold tokV
  dsimp only
  by_cases hx : x = []
  · have HW : Hid (writeT ⟨d, n, x⟩ = [102, 105, 110, 97, 108]) := by show _ = _; unfold writeT; rw [if_pos hx]
    have hb : (ofL x).toList.isEmpty = true := by rw [toL, ofL_data, hx]; rfl
    clear hx
    generalize writeT ⟨d, n, x⟩ = R at *
    go_enter Tryd.func34, Tryd.ntmps34
    go_wp2_with fail
    go_ret
    exact ⟨ret_s (by rw [HW.out]; rfl), (Below.refl _ w).alloc (Nat.le_refl _) _⟩
  · have HW : Hid (writeT ⟨d, n, x⟩ = x) := by show _ = _; unfold writeT; rw [if_neg hx]
    have hb : (ofL x).toList.isEmpty = false := by rw [toL, ofL_data]; cases x; exact absurd rfl hx; rfl
    clear hx
    generalize writeT ⟨d, n, x⟩ = R at *
    go_enter Tryd.func34, Tryd.ntmps34
    go_wp2_with fail
    go_ret
    exact ⟨ret_s (by rw [HW.out]), (Below.refl _ w).alloc (Nat.le_refl _) _⟩

theorem toks_pos {l : List UInt8} {ts : List Tok} (h : toksL l = .ok ts) : 0 < ts.length := by
  obtain rfl := toks_eq h
  unfold trimT
  cases trimR (splitL l) <;> simp [headL]

set_option maxRecDepth 100000 in
set_option maxHeartbeats 1000000 in
theorem Snapshot_any (s : ByteArray) (w : World) (hk : Kn w) :
    Calls Tryd.prog 13 #[.string s] w fun e w' => e = .returned (.bool (snapL s.data.toList)) ∧ Below w.heap.size w w' := by
  cases hp : toksL s.data.toList with
  | error x =>
    have C := hide (fun w => Tokens_no s x hp w)
    have HX : Hid (snapL s.data.toList = false) := by show _ = _; unfold snapL; rw [hp]
    generalize snapL s.data.toList = R at *
    go_enter Tryd.func13, Tryd.ntmps13
    go_wp2_with fail
    refine (C.out _).mono ?_
    rintro e' w1 ⟨rfl, b1⟩
    go_wp2_with fail
    go_ret
    exact ⟨by rw [HX.out]; rfl, b1.alloc b1.size _⟩
  | ok ts =>
    have hp0 := toks_pos hp
    have C := hide (fun w h => Tokens_ok s ts hp w h)
    have HX : Hid (snapL s.data.toList = ((ofL (ts.getLastD nilT).text).toList == [115, 110, 97, 112, 115, 104, 111, 116])) := by show _ = _; unfold snapL; rw [hp, toL, ofL_data]
    have hsh := (toks_short hp).1
    obtain ⟨m, hm⟩ : ∃ m, ts.length = m + 1 := ⟨ts.length - 1, by omega⟩
    have hml : m < ts.length := by omega
    have HG : Hid (ts.getLastD nilT = ts[m]) := by
      show _ = _
      rw [List.getLastD_eq_getLast?, List.getLast?_eq_getElem?, hm, Nat.add_sub_cancel, List.getElem?_eq_getElem hml]; rfl
    have hk0 := hk.pos
    generalize snapL s.data.toList = R at *
    go_enter Tryd.func13, Tryd.ntmps13
    go_wp2_with fail
    refine (C.out _ hk0).mono ?_
    rintro e' w1 ⟨v, rfl, ht, b1⟩
    obtain ⟨b, cap, sp, rfl, hb, hh⟩ := ht
    have hW : KW w1 b sp ts (w1.alloc (.cells #[.int .i64 0, .int .i64 0] 25)) := ⟨Turn.ofBelow ((Below.refl _ w1).alloc (Nat.le_refl _) _), (Below.heap_alloc _ _ _ (Array.getElem?_eq_some_iff.1 hh).1).trans hh⟩
    obtain ⟨c0, c1, c2⟩ := hW.seen m ts[m] (List.getElem?_eq_getElem hml)
    rw [HG.out] at HX
    clear hW HG
    generalize ts[m] = t at *
    clear hml
    have HM := hide hm
    rw [hm]
    have hmI : ((m + 1 : Nat) : Int) - 1 = (m : Int) := by omega
    have hm64 : m ≤ 100 := by omega
    clear hm hp0 hsh
    go_wp2_with fail
    go_ret
    exact ⟨by rw [HX.out]; rfl, b1.alloc b1.size _⟩

end Go.Proofs.YtobcoppbphfcaaaDoor
