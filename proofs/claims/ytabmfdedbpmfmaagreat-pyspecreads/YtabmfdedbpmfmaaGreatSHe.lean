/-
  Walks: the document's word. · Plain: the document takes the operator that the program takes. · Walks: the document: the operator at a place.
-/
import Derived.Test.YtabmfdedbpmfmaaGreatSHl
import Derived.Test.YtabmfdedbpmfmaaGreatSHm
import Derived.Test.YtabmfdedbpmfmaaGreatSGb
namespace Go.Proofs.YtabmfdedbpmfmaaGreat
open Go.RowKit Go.Shelf
set_option linter.unusedVariables false

theorem RPyWord_any (k : Nat) (hk : k < 8) (s : ByteArray) (a : Nat) (w : World) (hs : s.size ≤ 256) (ha : a ≤ 256) :
    Calls Tryz.prog 65 #[.string (ofL (sgn k)), .string s, .int .i64 (a : Int)] w fun e w' => e = .returned (wdT k a (wdR k s.data.toList)) ∧ Below w.heap.size w w' := by
  have hx : (s.extract 0 (s.size - 2)).data.toList = s.data.toList.take (s.data.toList.length - 2) := by rw [extract_ofL, List.drop_zero, len_data]; simp [ofL]
  match k, hk with
  | 0, _ =>
    show Calls Tryz.prog 65 #[.string ⟨#[126, 61]⟩, .string s, .int .i64 (a : Int)] w fun e w' => e = .returned (wdT 0 a (onlyW (fun x => pubB x && decide (1 < x.rel.length)) s.data.toList)) ∧ Below w.heap.size w w'
    unfold onlyW
    cases h : okP s.data.toList
    · rw [if_neg (by simp)]
      exact RWord_0_no s a w hs ha h
    · rw [if_pos rfl]
      by_cases hr : 1 < (pepOf (lowL s.data.toList)).rel.length
      · cases hl : (pepOf (lowL s.data.toList)).loc.isEmpty
        · rw [if_neg (by simp [pubB, hl])]
          exact RWord_0_bad s a w hs ha h hr hl
        · rw [if_pos (by simp [pubB, hl, hr])]
          exact RWord_0_ok s a w hs ha h hr hl
      · rw [if_neg (by simp [hr])]
        exact RWord_0_one s a w hs ha h hr
  | 1, _ =>
    show Calls Tryz.prog 65 #[.string ⟨#[61, 61]⟩, .string s, .int .i64 (a : Int)] w fun e w' => e = .returned (wdT 1 a (if endsW s.data.toList then starW (onlyW bareB (s.data.toList.take (s.data.toList.length - 2))) else onlyW (fun _ => true) s.data.toList)) ∧ Below w.heap.size w w'
    cases hE : endsW s.data.toList
    · rw [if_neg (by simp)]
      unfold onlyW
      cases h : okP s.data.toList
      · rw [if_neg (by simp)]
        exact RWord_1_no s a w hs ha hE h
      · rw [if_pos rfl, if_pos rfl]
        exact RWord_1_ok s a w hs ha hE h
    · rw [if_pos rfl, ← hx]
      unfold onlyW
      cases h : okP (s.extract 0 (s.size - 2)).data.toList
      · rw [if_neg (by simp)]
        exact RWord_1s_no s a w hs ha hE h
      · rw [if_pos rfl]
        cases hb : bareB (pepOf (lowL (s.extract 0 (s.size - 2)).data.toList))
        · rw [if_neg (by simp)]
          exact RWord_1s_bad s a w hs ha hE h hb
        · rw [if_pos rfl]
          exact RWord_1s_ok s a w hs ha hE h hb
  | 2, _ =>
    show Calls Tryz.prog 65 #[.string ⟨#[33, 61]⟩, .string s, .int .i64 (a : Int)] w fun e w' => e = .returned (wdT 2 a (if endsW s.data.toList then starW (onlyW bareB (s.data.toList.take (s.data.toList.length - 2))) else onlyW (fun _ => true) s.data.toList)) ∧ Below w.heap.size w w'
    cases hE : endsW s.data.toList
    · rw [if_neg (by simp)]
      unfold onlyW
      cases h : okP s.data.toList
      · rw [if_neg (by simp)]
        exact RWord_2_no s a w hs ha hE h
      · rw [if_pos rfl, if_pos rfl]
        exact RWord_2_ok s a w hs ha hE h
    · rw [if_pos rfl, ← hx]
      unfold onlyW
      cases h : okP (s.extract 0 (s.size - 2)).data.toList
      · rw [if_neg (by simp)]
        exact RWord_2s_no s a w hs ha hE h
      · rw [if_pos rfl]
        cases hb : bareB (pepOf (lowL (s.extract 0 (s.size - 2)).data.toList))
        · rw [if_neg (by simp)]
          exact RWord_2s_bad s a w hs ha hE h hb
        · rw [if_pos rfl]
          exact RWord_2s_ok s a w hs ha hE h hb
  | 3, _ =>
    show Calls Tryz.prog 65 #[.string ⟨#[60, 61]⟩, .string s, .int .i64 (a : Int)] w fun e w' => e = .returned (wdT 3 a (onlyW (pubB) s.data.toList)) ∧ Below w.heap.size w w'
    unfold onlyW
    cases h : okP s.data.toList
    · rw [if_neg (by simp)]
      exact RWord_3_no s a w hs ha h
    · rw [if_pos rfl]
      cases hl : (pepOf (lowL s.data.toList)).loc.isEmpty
      · rw [if_neg (by unfold pubB; rw [hl]; simp)]
        exact RWord_3_bad s a w hs ha h hl
      · rw [if_pos (by unfold pubB; exact hl)]
        exact RWord_3_ok s a w hs ha h hl
  | 4, _ =>
    show Calls Tryz.prog 65 #[.string ⟨#[62, 61]⟩, .string s, .int .i64 (a : Int)] w fun e w' => e = .returned (wdT 4 a (onlyW (pubB) s.data.toList)) ∧ Below w.heap.size w w'
    unfold onlyW
    cases h : okP s.data.toList
    · rw [if_neg (by simp)]
      exact RWord_4_no s a w hs ha h
    · rw [if_pos rfl]
      cases hl : (pepOf (lowL s.data.toList)).loc.isEmpty
      · rw [if_neg (by unfold pubB; rw [hl]; simp)]
        exact RWord_4_bad s a w hs ha h hl
      · rw [if_pos (by unfold pubB; exact hl)]
        exact RWord_4_ok s a w hs ha h hl
  | 5, _ =>
    show Calls Tryz.prog 65 #[.string ⟨#[60]⟩, .string s, .int .i64 (a : Int)] w fun e w' => e = .returned (wdT 5 a (onlyW (pubB) s.data.toList)) ∧ Below w.heap.size w w'
    unfold onlyW
    cases h : okP s.data.toList
    · rw [if_neg (by simp)]
      exact RWord_5_no s a w hs ha h
    · rw [if_pos rfl]
      cases hl : (pepOf (lowL s.data.toList)).loc.isEmpty
      · rw [if_neg (by unfold pubB; rw [hl]; simp)]
        exact RWord_5_bad s a w hs ha h hl
      · rw [if_pos (by unfold pubB; exact hl)]
        exact RWord_5_ok s a w hs ha h hl
  | 6, _ =>
    show Calls Tryz.prog 65 #[.string ⟨#[62]⟩, .string s, .int .i64 (a : Int)] w fun e w' => e = .returned (wdT 6 a (onlyW (pubB) s.data.toList)) ∧ Below w.heap.size w w'
    unfold onlyW
    cases h : okP s.data.toList
    · rw [if_neg (by simp)]
      exact RWord_6_no s a w hs ha h
    · rw [if_pos rfl]
      cases hl : (pepOf (lowL s.data.toList)).loc.isEmpty
      · rw [if_neg (by unfold pubB; rw [hl]; simp)]
        exact RWord_6_bad s a w hs ha h hl
      · rw [if_pos (by unfold pubB; exact hl)]
        exact RWord_6_ok s a w hs ha h hl
  | 7, _ =>
    exact RWord_text s a w hs ha

end Go.Proofs.YtabmfdedbpmfmaaGreat

namespace Go.Proofs.YtabmfdedbpmfmaaGreat
open Go.RowKit Go.Shelf
set_option linter.unusedVariables false

def hitB (l p : List UInt8) : Bool := decide (p.length ≤ l.length) && (l.take p.length == p)
def dix : List Nat := [7, 1, 2, 0, 3, 4, 5, 6]
def dopL (l : List UInt8) : Nat := (dix.find? fun k => hitB l (sgn k)).getD 8
def dhalf (l : List UInt8) : Nat := if l.head? = some 126 ∨ l.head? = some 33 ∨ l.head? = some 61 then 1 else 0
theorem dop_op (l : List UInt8) : dopL l = (opGo l 8).1 ∧ (dopL l = 8 → (opGo l 8).2 = dhalf l) := by
  cases l with
  | nil => exact ⟨rfl, fun _ => rfl⟩
  | cons c r =>
    by_cases h1 : c = 61
    · subst h1
      cases r with
      | nil => exact ⟨rfl, fun _ => rfl⟩
      | cons d r =>
        by_cases h2 : d = 61
        · subst h2
          cases r with
          | nil => exact ⟨rfl, fun h => by cases h⟩
          | cons e r =>
            by_cases h3 : e = 61
            · subst h3
              simp [dopL, dix, hitB, sgn, opGo, opStep, comL]
            · simp [dopL, dix, hitB, sgn, opGo, opStep, comL, h3]
        · simp [dopL, dix, hitB, sgn, opGo, opStep, comL, h2, dhalf]
    · by_cases h4 : c = 33
      · subst h4
        cases r with
        | nil => exact ⟨rfl, fun _ => rfl⟩
        | cons d r =>
          by_cases h2 : d = 61
          · subst h2; simp [dopL, dix, hitB, sgn, opGo, opStep, comL]
          · simp [dopL, dix, hitB, sgn, opGo, opStep, comL, h2, dhalf]
      · by_cases h5 : c = 126
        · subst h5
          cases r with
          | nil => exact ⟨rfl, fun _ => rfl⟩
          | cons d r =>
            by_cases h2 : d = 61
            · subst h2; simp [dopL, dix, hitB, sgn, opGo, opStep, comL]
            · simp [dopL, dix, hitB, sgn, opGo, opStep, comL, h2, dhalf]
        · by_cases h6 : c = 60
          · subst h6
            cases r with
            | nil => exact ⟨rfl, fun h => by cases h⟩
            | cons d r =>
              by_cases h2 : d = 61
              · subst h2; simp [dopL, dix, hitB, sgn, opGo, opStep, comL]
              · simp [dopL, dix, hitB, sgn, opGo, opStep, comL, h2]
          · by_cases h7 : c = 62
            · subst h7
              cases r with
              | nil => exact ⟨rfl, fun h => by cases h⟩
              | cons d r =>
                by_cases h2 : d = 61
                · subst h2; simp [dopL, dix, hitB, sgn, opGo, opStep, comL]
                · simp [dopL, dix, hitB, sgn, opGo, opStep, comL, h2]
            · simp [dopL, dix, hitB, sgn, opGo, opStep, comL, h1, h4, h5, h6, h7, dhalf]

end Go.Proofs.YtabmfdedbpmfmaaGreat

namespace Go.Proofs.YtabmfdedbpmfmaaGreat
open Go.RowKit Go.Shelf
set_option linter.unusedVariables false

def dCells : Array Value := #[.string ⟨#[61, 61, 61]⟩, .string ⟨#[61, 61]⟩, .string ⟨#[33, 61]⟩, .string ⟨#[126, 61]⟩, .string ⟨#[60, 61]⟩, .string ⟨#[62, 61]⟩, .string ⟨#[60]⟩, .string ⟨#[62]⟩]
theorem Rops_any (w : World) : Calls Tryz.prog 89 #[] w fun e w' => e = .returned (.slice (some ⟨w.heap.size, 0, none⟩) 8 8) ∧ w' = w.alloc (.cells dCells 9) := by
  go_enter Tryz.func89, Tryz.ntmps89
  go_wp2_with fail
  go_ret
  exact ⟨rfl, rfl⟩
theorem d_cell (i : Nat) (h : i < 8) : dCells[i]? = some (.string (ofL (sgn (dix[i]'h)))) ∧ (sgn (dix[i]'h)).length ≤ 3 ∧ dix[i]'h < 8 := by
  match i, h with
  | 0, _ => exact ⟨rfl, Nat.le_of_ble_eq_true rfl, Nat.le_of_ble_eq_true rfl⟩
  | 1, _ => exact ⟨rfl, Nat.le_of_ble_eq_true rfl, Nat.le_of_ble_eq_true rfl⟩
  | 2, _ => exact ⟨rfl, Nat.le_of_ble_eq_true rfl, Nat.le_of_ble_eq_true rfl⟩
  | 3, _ => exact ⟨rfl, Nat.le_of_ble_eq_true rfl, Nat.le_of_ble_eq_true rfl⟩
  | 4, _ => exact ⟨rfl, Nat.le_of_ble_eq_true rfl, Nat.le_of_ble_eq_true rfl⟩
  | 5, _ => exact ⟨rfl, Nat.le_of_ble_eq_true rfl, Nat.le_of_ble_eq_true rfl⟩
  | 6, _ => exact ⟨rfl, Nat.le_of_ble_eq_true rfl, Nat.le_of_ble_eq_true rfl⟩
  | 7, _ => exact ⟨rfl, Nat.le_of_ble_eq_true rfl, Nat.le_of_ble_eq_true rfl⟩
theorem dop_hit {l : List UInt8} {i : Nat} (h : i < 8) (h0 : ∀ k ∈ dix.take i, hitB l (sgn k) = false) (h1 : hitB l (sgn (dix[i]'h)) = true) : dopL l = dix[i]'h := by
  unfold dopL
  have hf : (dix.find? fun k => hitB l (sgn k)) = some (dix[i]'h) := List.find?_eq_some_iff_getElem.2 ⟨h1, i, h, rfl, fun j hj => by
    rw [h0 _ (List.mem_take_iff_getElem.2 ⟨j, by have : dix.length = 8 := rfl; omega, rfl⟩)]
    rfl⟩
  rw [hf]
  rfl
theorem dop_none {l : List UInt8} (h0 : ∀ k ∈ dix.take 8, hitB l (sgn k) = false) : dopL l = 8 := by
  unfold dopL
  rw [List.find?_eq_none.2 (fun k hk => by rw [h0 k hk]; simp)]
  rfl
theorem dhalf_le (l : List UInt8) : dhalf l ≤ l.length ∧ dhalf l ≤ 1 := by
  unfold dhalf
  cases l with
  | nil => simp
  | cons c r => split <;> simp
theorem dhalf_at (s : ByteArray) (a : Nat) (h : a < s.size) : dhalf (s.data.toList.drop a) = if s[a] = 126 ∨ s[a] = 33 ∨ s[a] = 61 then 1 else 0 := by
  unfold dhalf
  rw [drop_at s a h]
  simp
theorem dhalf_end (s : ByteArray) (a : Nat) (h : s.size ≤ a) : dhalf (s.data.toList.drop a) = 0 := by
  rw [drop_end s a h]
  simp [dhalf]
theorem take_seg (l : List UInt8) (a n : Nat) : seg l a (a + n) = (l.drop a).take n := by
  unfold seg
  rw [List.drop_take]
  congr 1
  omega
theorem fin63 {R : Ending → World → Prop} (tmps : Array Value) (W : World) (v4 v5 v6 : Value) (h4 : tmps.getD 4 undef = v4) (h5 : tmps.getD 5 undef = v5) (h6 : tmps.getD 6 undef = v6) (hR : R (.returned (.tuple #[v4, v5, v6])) W) : bodyPost Tryz.prog Tryz.f63 R .ret { tmps := tmps, defers := [] } W := by
  rw [Array.getD_eq_getD_getElem?] at h4 h5 h6
  refine ⟨rfl, _, ?_, hR⟩
  simp [results, Tryz.results63, go_sem, h4, h5, h6]
  try rfl
set_option maxRecDepth 100000 in
set_option maxHeartbeats 4000000 in
theorem Rop_any (s : ByteArray) (a : Nat) (w : World) (hs : s.size ≤ 256) (ha : a ≤ s.size) :
    Calls Tryz.prog 63 #[.string s, .int .i64 (a : Int)] w fun e w' => e = .returned (.tuple #[.string (ofL (sgn (dopL (s.data.toList.drop a)))),
      .int .i64 ((if dopL (s.data.toList.drop a) = 8 then a + dhalf (s.data.toList.drop a) else a + (sgn (dopL (s.data.toList.drop a))).length : Nat) : Int),
      .int .i64 (if dopL (s.data.toList.drop a) = 8 then misL s.size (a + dhalf (s.data.toList.drop a)) else 0)]) ∧ Below w.heap.size w w' := by
  have HH : Hid (∀ n, n ≤ s.size - a → ∀ p : List UInt8, p.length = n → ((s.extract a (a + n)).toList == (ofL p).toList) = hitB (s.data.toList.drop a) p) := hide fun n hn p hp => by
    rw [toL, toL, ofL_data, extract_data, take_seg]
    unfold hitB
    rw [hp, decide_eq_true (by rw [List.length_drop, len_data]; exact hn), Bool.true_and]
  have HL : Hid (∀ p : List UInt8, s.size - a < p.length → hitB (s.data.toList.drop a) p = false) := hide fun p hp => by
    unfold hitB
    rw [decide_eq_false (by rw [List.length_drop, len_data]; omega), Bool.false_and]
  have HD1 := hide (fun h => dhalf_at s a h)
  have HD2 := hide (fun h => dhalf_end s a h)
  generalize hl : s.data.toList.drop a = l at *
  clear hl
  generalize hTV : Value.tuple #[.string (ofL (sgn (dopL l))), _, _] = TV
  have HTV := hide hTV
  clear hTV
  go_enter Tryz.func63, Tryz.ntmps63
  go_wp2_with fail
  refine (Rops_any _).mono ?_
  rintro e w1 ⟨rfl, rfl⟩
  have n0 := World.alloc_heap_new w (.cells dCells 9)
  have b0 : Below w.heap.size w (w.alloc (.cells dCells 9)) := (Below.refl _ w).alloc (Nat.le_refl _) _
  generalize w.alloc (.cells dCells 9) = W1 at *
  have N0 := hide n0
  have B0 := hide b0
  clear n0 b0
  try dsimp only
  go_wp2_with fail
  go_loopw [8] (fun y wr => ∃ i : Nat, i ≤ 8 ∧ y = .int .i64 i ∧ Hid (∀ k ∈ dix.take i, hitB l (sgn k) = false) ∧ Hid (wr.heap[w.heap.size]? = some (.cells dCells 9 (0, 0))) ∧ Below w.heap.size w wr) (fun y _ => 8 - (intOf y).toNat)
  case atStart => exact ⟨0, by omega, rfl, hide (fun k hk => by cases hk), N0, B0.out⟩
  case round =>
    obtain ⟨i, hi, rfl, H0, HR, hb⟩ := hrel
    by_cases hlt : i < 8
    · have hlt' : (i : Int) < 8 := by omega
      obtain ⟨d1, d2, d3⟩ := d_cell i hlt
      have c0 := cell_at i HR.out d1
      have HIT := hide (fun h1 => dop_hit hlt H0.out h1)
      have HNX : Hid (hitB l (sgn (dix[i]'hlt)) = false → ∀ k ∈ dix.take (i + 1), hitB l (sgn k) = false) := hide fun h1 k hk => by
        rw [List.take_succ_eq_append_getElem hlt] at hk
        rcases List.mem_append.1 hk with hk | hk
        · exact H0.out k hk
        · rw [List.mem_singleton.1 hk]; exact h1
      generalize dix[i]'hlt = k at *
      obtain ⟨n, hn⟩ : ∃ n, a + (sgn k).length = n := ⟨_, rfl⟩
      have hN : (a : Int) + ((ofL (sgn k)).size : Int) = (n : Int) := by rw [ofL_size]; omega
      have hn3 : n ≤ 300 := by omega
      have HNN := hide hn
      have HK8 := hide d3
      clear d1 d3 hn
      by_cases hle : n ≤ s.size
      · have hd : decide ((n : Int) ≤ (s.size : Int)) = true := by simp; omega
        have han : (a : Int) ≤ (n : Int) := by have := HNN.out; omega
        have hq := HH.out (sgn k).length (by have := HNN.out; omega) (sgn k) rfl
        rw [HNN.out] at hq
        cases hh : hitB l (sgn k)
        · rw [hh] at hq
          have H1 := hide (HNX.out hh)
          clear hh
          go_wp2_with fail
          go_quiet (fail)
          go_wp2_with fail
          go_roundw
          case rel => exact ⟨i + 1, by omega, by go_num, H1, hide (by rw [heap_drewN]; exact HR.out), hb.trans (below_drewN _ _ _)⟩
          case measure => simp [intOf]; omega
        · rw [hh] at hq
          have HJ := hide (HIT.out hh)
          clear hh
          go_wp2_with fail
          go_quiet (fail)
          go_wp2_with fail
          refine fin63 _ _ _ _ _ rfl rfl rfl ⟨?_, hb.trans (below_drewN _ _ _)⟩
          have hk8 := HK8.out
          rw [← HTV.out, HJ.out, if_neg (by omega), if_neg (by omega), HNN.out]
          rfl
      · have hd : decide ((n : Int) ≤ (s.size : Int)) = false := by simp; omega
        have H1 := hide (HNX.out (HL.out _ (by have := HNN.out; omega)))
        go_wp2_with fail
        go_quiet (fail)
        go_wp2_with fail
        go_roundw
        case rel => exact ⟨i + 1, by omega, by go_num, H1, hide (by rw [heap_drewN]; exact HR.out), hb.trans (below_drewN _ _ _)⟩
        case measure => simp [intOf]; omega
    · obtain rfl : i = 8 := by omega
      have HJ := hide (dop_none H0.out)
      have HT8 : Hid (TV = .tuple #[.string ⟨#[]⟩, .int .i64 ((a + dhalf l : Nat) : Int), .int .i64 (misL s.size (a + dhalf l))]) := hide (by rw [← HTV.out, HJ.out, if_pos rfl, if_pos rfl]; rfl)
      by_cases hin : a < s.size
      · have hin' : (a : Int) < (s.size : Int) := by omega
        have hdh := HD1.out hin
        by_cases half : s[a] = 126 ∨ s[a] = 33 ∨ s[a] = 61
        · rw [if_pos half] at hdh
          rw [hdh] at HT8
          clear hdh
          by_cases he : a + 1 = s.size
          · have HT9 : Hid (TV = .tuple #[.string ⟨#[]⟩, .int .i64 (s.size : Int), .int .i64 11]) := hide (by rw [HT8.out, he]; unfold misL; rw [if_pos rfl])
            have hge : (s.size : Int) ≤ (a : Int) + 1 := by omega
            clear he
            rcases half with h | h | h
            · have qq : (s[a].toNat : Int) = 126 := by rw [h]; rfl
              have q126 : ((s[a].toNat : Int) == 126) = true := by rw [qq]; rfl
              have q33 : ((s[a].toNat : Int) == 33) = false := by rw [qq]; rfl
              have q61 : ((s[a].toNat : Int) == 61) = false := by rw [qq]; rfl
              clear qq h
              go_wp2_with fail
              refine fin63 _ _ _ _ _ rfl rfl rfl ⟨?_, hb⟩
              rw [HT9.out]
              rfl
            · have qq : (s[a].toNat : Int) = 33 := by rw [h]; rfl
              have q126 : ((s[a].toNat : Int) == 126) = false := by rw [qq]; rfl
              have q33 : ((s[a].toNat : Int) == 33) = true := by rw [qq]; rfl
              have q61 : ((s[a].toNat : Int) == 61) = false := by rw [qq]; rfl
              clear qq h
              go_wp2_with fail
              refine fin63 _ _ _ _ _ rfl rfl rfl ⟨?_, hb⟩
              rw [HT9.out]
              rfl
            · have qq : (s[a].toNat : Int) = 61 := by rw [h]; rfl
              have q126 : ((s[a].toNat : Int) == 126) = false := by rw [qq]; rfl
              have q33 : ((s[a].toNat : Int) == 33) = false := by rw [qq]; rfl
              have q61 : ((s[a].toNat : Int) == 61) = true := by rw [qq]; rfl
              clear qq h
              go_wp2_with fail
              refine fin63 _ _ _ _ _ rfl rfl rfl ⟨?_, hb⟩
              rw [HT9.out]
              rfl
          · have HT9 : Hid (TV = .tuple #[.string ⟨#[]⟩, .int .i64 ((a : Int) + 1), .int .i64 10]) := hide (by rw [HT8.out]; unfold misL; rw [if_neg he]; simp)
            have hge : ¬ (s.size : Int) ≤ (a : Int) + 1 := by omega
            clear he
            rcases half with h | h | h
            · have qq : (s[a].toNat : Int) = 126 := by rw [h]; rfl
              have q126 : ((s[a].toNat : Int) == 126) = true := by rw [qq]; rfl
              have q33 : ((s[a].toNat : Int) == 33) = false := by rw [qq]; rfl
              have q61 : ((s[a].toNat : Int) == 61) = false := by rw [qq]; rfl
              clear qq h
              go_wp2_with fail
              refine fin63 _ _ _ _ _ rfl rfl rfl ⟨?_, hb⟩
              rw [HT9.out]
              rfl
            · have qq : (s[a].toNat : Int) = 33 := by rw [h]; rfl
              have q126 : ((s[a].toNat : Int) == 126) = false := by rw [qq]; rfl
              have q33 : ((s[a].toNat : Int) == 33) = true := by rw [qq]; rfl
              have q61 : ((s[a].toNat : Int) == 61) = false := by rw [qq]; rfl
              clear qq h
              go_wp2_with fail
              refine fin63 _ _ _ _ _ rfl rfl rfl ⟨?_, hb⟩
              rw [HT9.out]
              rfl
            · have qq : (s[a].toNat : Int) = 61 := by rw [h]; rfl
              have q126 : ((s[a].toNat : Int) == 126) = false := by rw [qq]; rfl
              have q33 : ((s[a].toNat : Int) == 33) = false := by rw [qq]; rfl
              have q61 : ((s[a].toNat : Int) == 61) = true := by rw [qq]; rfl
              clear qq h
              go_wp2_with fail
              refine fin63 _ _ _ _ _ rfl rfl rfl ⟨?_, hb⟩
              rw [HT9.out]
              rfl
        · rw [if_neg half] at hdh
          rw [hdh] at HT8
          clear hdh
          have HT9 : Hid (TV = .tuple #[.string ⟨#[]⟩, .int .i64 (a : Int), .int .i64 10]) := hide (by rw [HT8.out]; unfold misL; rw [if_neg (by omega)]; simp)
          have hge : ¬ (s.size : Int) ≤ (a : Int) := by omega
          have N126 : s[a] ≠ 126 := fun e => half (.inl e)
          have N33 : s[a] ≠ 33 := fun e => half (.inr (.inl e))
          have N61 : s[a] ≠ 61 := fun e => half (.inr (.inr e))
          have q126 : ((s[a].toNat : Int) == 126) = false := by
            simp only [beq_eq_false_iff_ne, ne_eq]
            intro e
            exact N126 (UInt8.toNat_inj.1 (by show _ = 126; omega))
          have q33 : ((s[a].toNat : Int) == 33) = false := by
            simp only [beq_eq_false_iff_ne, ne_eq]
            intro e
            exact N33 (UInt8.toNat_inj.1 (by show _ = 33; omega))
          have q61 : ((s[a].toNat : Int) == 61) = false := by
            simp only [beq_eq_false_iff_ne, ne_eq]
            intro e
            exact N61 (UInt8.toNat_inj.1 (by show _ = 61; omega))
          clear half N126 N33 N61
          go_wp2_with fail
          refine fin63 _ _ _ _ _ rfl rfl rfl ⟨?_, hb⟩
          rw [HT9.out]
          rfl
      · have hin' : ¬ (a : Int) < (s.size : Int) := by omega
        have hdh := HD2.out (by omega)
        rw [hdh] at HT8
        have HT9 : Hid (TV = .tuple #[.string ⟨#[]⟩, .int .i64 (s.size : Int), .int .i64 11]) := hide (by rw [HT8.out, show a + 0 = s.size by omega]; unfold misL; rw [if_pos rfl])
        have hge : (s.size : Int) ≤ (a : Int) := by omega
        clear hdh
        go_wp2_with fail
        refine fin63 _ _ _ _ _ rfl rfl rfl ⟨?_, hb⟩
        rw [HT9.out]
        rfl

end Go.Proofs.YtabmfdedbpmfmaaGreat
