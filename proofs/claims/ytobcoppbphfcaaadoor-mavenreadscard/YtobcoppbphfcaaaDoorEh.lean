/-
  Walks: the document's Canon.
-/
import Derived.Test.YtobcoppbphfcaaaDoorEg
namespace Go.Proofs.YtobcoppbphfcaaaDoor
open Go.RowKit Go.Shelf
set_option linter.unusedVariables false

theorem catL (a b : List UInt8) : ofL a ++ ofL b = ofL (a ++ b) := by
  apply ba_ext
  rw [ofL_data, ByteArray.data_append, Array.toList_append, ofL_data, ofL_data]

set_option maxRecDepth 100000 in
set_option maxHeartbeats 4000000 in
theorem RCanon_any (s : ByteArray) (w : World) :
    Calls Tryd.prog 12 #[.string s] w fun e w' => e = .returned (.string (ofL (canonL s.data.toList))) ∧ Below w.heap.size w w' := by
  have C := hide (fun w => Rtokens_any s w)
  have HS : Hid (∀ x, toksL s.data.toList = .error x → x.1 ≠ 0 ∧ canonL s.data.toList = []) := fun x h => ⟨toks_errs h, by unfold canonL; rw [h]⟩
  have HK : Hid (∀ ts, toksL s.data.toList = .ok ts → 0 < ts.length ∧ ts.length ≤ 66 ∧ (∀ t ∈ ts, t.text.length ≤ 73) ∧ canonL s.data.toList = canonT ts) := fun ts h => ⟨toks_pos h, (toks_short h).1, (toks_short h).2, by unfold canonL; rw [h]⟩
  generalize canonL s.data.toList = R at *
  go_enter Tryd.func12, Tryd.ntmps12
  go_wp2_with fail
  refine (C.out _).mono ?_
  rintro e w1 (⟨x, hx, rfl, b1⟩ | ⟨ts, ao, cv, hx, rfl, hT, b1⟩)
  · obtain ⟨h1, h2⟩ := HS.out x hx
    have hx0 : (x.1 != 0) = true := by simpa using h1
    have HR := hide h2
    clear hx HS HK h1 h2
    go_wp2_with fail
    go_ret
    exact ⟨ret_s (by rw [HR.out]; rfl), b1⟩
  · obtain ⟨hp, hl66, hst, hR⟩ := HK.out ts hx
    obtain ⟨a', cap', hv, h0 | ⟨b, off, ha, hlt, hc⟩⟩ := hT
    · rw [h0] at hp; simp at hp
    · cases hv
      subst ha
      have HR := hide hR
      have HC := hide hc
      have HST := hide hst
      have B1 := hide b1
      have HCL : Hid (∀ k, (canonT (ts.take k)).length ≤ 5000) := by
        intro k
        have h1 := canonT_len (ts.take k) (fun t ht => hst t (List.mem_of_mem_take ht))
        have h2 : (ts.take k).length ≤ ts.length := by rw [List.length_take]; omega
        omega
      have HF := hide (canon_first ts hp)
      have HNX := hide (canon_next ts)
      clear hx HS HK hc hR hst b1
      go_wp2_with fail
      go_loop [6, 7] (fun t i => ∃ k : Nat, k ≤ ts.length ∧ i = .int .i64 k ∧ t = .string (ofL (canonT (ts.take k)))) (fun _ i => ts.length - (intOf i).toNat)
      case atStart => exact ⟨0, by omega, rfl, rfl⟩
      case round =>
        obtain ⟨k, hk, rfl, rfl⟩ := hrel
        by_cases hlk : k < ts.length
        · have hlk' : (k : Int) < (ts.length : Int) := by omega
          obtain ⟨c0, c1, c2⟩ := HC.out k hlk
          have hcl := HCL.out k
          have htl := HST.out _ (List.getElem_mem hlk)
          have hg : ts.getD k nilT = ts[k] := by rw [List.getD_eq_getElem?_getD, List.getElem?_eq_getElem hlk]; rfl
          have HS0 : Hid (k = 0 → canonT (ts.take (k + 1)) = canonT (ts.take k) ++ writeT ts[k]) := by
            intro e; subst e
            rw [← hg]; exact HF.out
          have HS1 : Hid (0 < k → canonT (ts.take (k + 1)) = canonT (ts.take k) ++ [markT ts[k]] ++ writeT ts[k]) := by
            intro e
            rw [← hg]; exact HNX.out k hlk e
          have HCN : Hid (∃ cn, canonT (ts.take (k + 1)) = cn) := ⟨_, rfl⟩
          clear hg
          obtain ⟨td, tn, tx, hts⟩ : ∃ td tn tx, ts[k] = ⟨td, tn, tx⟩ := ⟨_, _, _, rfl⟩
          rw [hts] at c0 c1 c2 htl HS0 HS1
          dsimp only at c0 c1 c2 htl
          clear hts
          have sx := ofL_size tx
          have sA := ofL_size (canonT (ts.take k))
          generalize hA : canonT (ts.take k) = A at *
          by_cases h0 : 0 < k
          · have h0' : (0 : Int) < (k : Int) := by omega
            cases hd : td
            · rw [hd] at c0
              by_cases hx : tx = []
              · have hb : (ofL tx).toList.isEmpty = true := by rw [toL, ofL_data, hx]; rfl
                have HW : Hid (writeT ⟨td, tn, tx⟩ = [102, 105, 110, 97, 108]) := by show _ = _; unfold writeT; rw [if_pos hx]
                have HXN := hide hx
                have HQ := hide (HS1.out h0)
                have HMK : Hid (markT ⟨td, tn, tx⟩ = 46) := by show _ = _; unfold markT; rw [hd]; rfl
                have s1 : (ofL A ++ ⟨#[46]⟩ : ByteArray).size = A.length + 1 := by rw [ByteArray.size_append, sA]; rfl
                have s2 : ((ofL A ++ ⟨#[46]⟩) ++ ⟨#[102, 105, 110, 97, 108]⟩ : ByteArray).size = A.length + 6 := by rw [ByteArray.size_append, s1]; rfl
                clear HS0 HS1 hx
                go_wp2_with fail
                go_round
                case rel => exact ⟨k + 1, by omega, by go_num, congrArg Value.string (by rw [show (⟨#[46]⟩ : ByteArray) = ofL [46] from rfl, catL, show (⟨#[102, 105, 110, 97, 108]⟩ : ByteArray) = ofL [102, 105, 110, 97, 108] from rfl, catL, catL, HQ.out, HW.out, HMK.out]; simp [HXN.out])⟩
                case measure => simp [intOf]; omega
              · have hb : (ofL tx).toList.isEmpty = false := by rw [toL, ofL_data]; cases tx; exact absurd rfl hx; rfl
                have HW : Hid (writeT ⟨td, tn, tx⟩ = tx) := by show _ = _; unfold writeT; rw [if_neg hx]
                have HQ := hide (HS1.out h0)
                have HMK : Hid (markT ⟨td, tn, tx⟩ = 46) := by show _ = _; unfold markT; rw [hd]; rfl
                have s1 : (ofL A ++ ⟨#[46]⟩ : ByteArray).size = A.length + 1 := by rw [ByteArray.size_append, sA]; rfl
                clear HS0 HS1 hx
                go_wp2_with fail
                go_round
                case rel => exact ⟨k + 1, by omega, by go_num, congrArg Value.string (by rw [show (⟨#[46]⟩ : ByteArray) = ofL [46] from rfl, catL, catL, HQ.out, HW.out, HMK.out])⟩
                case measure => simp [intOf]; omega
            · rw [hd] at c0
              by_cases hx : tx = []
              · have hb : (ofL tx).toList.isEmpty = true := by rw [toL, ofL_data, hx]; rfl
                have HW : Hid (writeT ⟨td, tn, tx⟩ = [102, 105, 110, 97, 108]) := by show _ = _; unfold writeT; rw [if_pos hx]
                have HXN := hide hx
                have HQ := hide (HS1.out h0)
                have HMK : Hid (markT ⟨td, tn, tx⟩ = 45) := by show _ = _; unfold markT; rw [hd]; rfl
                have s1 : (ofL A ++ ⟨#[45]⟩ : ByteArray).size = A.length + 1 := by rw [ByteArray.size_append, sA]; rfl
                have s2 : ((ofL A ++ ⟨#[45]⟩) ++ ⟨#[102, 105, 110, 97, 108]⟩ : ByteArray).size = A.length + 6 := by rw [ByteArray.size_append, s1]; rfl
                clear HS0 HS1 hx
                go_wp2_with fail
                go_round
                case rel => exact ⟨k + 1, by omega, by go_num, congrArg Value.string (by rw [show (⟨#[45]⟩ : ByteArray) = ofL [45] from rfl, catL, show (⟨#[102, 105, 110, 97, 108]⟩ : ByteArray) = ofL [102, 105, 110, 97, 108] from rfl, catL, catL, HQ.out, HW.out, HMK.out]; simp [HXN.out])⟩
                case measure => simp [intOf]; omega
              · have hb : (ofL tx).toList.isEmpty = false := by rw [toL, ofL_data]; cases tx; exact absurd rfl hx; rfl
                have HW : Hid (writeT ⟨td, tn, tx⟩ = tx) := by show _ = _; unfold writeT; rw [if_neg hx]
                have HQ := hide (HS1.out h0)
                have HMK : Hid (markT ⟨td, tn, tx⟩ = 45) := by show _ = _; unfold markT; rw [hd]; rfl
                have s1 : (ofL A ++ ⟨#[45]⟩ : ByteArray).size = A.length + 1 := by rw [ByteArray.size_append, sA]; rfl
                clear HS0 HS1 hx
                go_wp2_with fail
                go_round
                case rel => exact ⟨k + 1, by omega, by go_num, congrArg Value.string (by rw [show (⟨#[45]⟩ : ByteArray) = ofL [45] from rfl, catL, catL, HQ.out, HW.out, HMK.out])⟩
                case measure => simp [intOf]; omega
          · have h0' : ¬ (0 : Int) < (k : Int) := by omega
            have h0 : k = 0 := by omega
            by_cases hx : tx = []
            · have hb : (ofL tx).toList.isEmpty = true := by rw [toL, ofL_data, hx]; rfl
              have HW : Hid (writeT ⟨td, tn, tx⟩ = [102, 105, 110, 97, 108]) := by show _ = _; unfold writeT; rw [if_pos hx]
              have HXN := hide hx
              have HQ := hide (HS0.out h0)
              have s2 : (ofL A ++ ⟨#[102, 105, 110, 97, 108]⟩ : ByteArray).size = A.length + 5 := by rw [ByteArray.size_append, sA]; rfl
              clear HS0 HS1 hx
              clear h0
              go_wp2_with fail
              go_round
              case rel => exact ⟨k + 1, by omega, by go_num, congrArg Value.string (by rw [show (⟨#[102, 105, 110, 97, 108]⟩ : ByteArray) = ofL [102, 105, 110, 97, 108] from rfl, catL, catL, HQ.out, HW.out]; simp [HXN.out])⟩
              case measure => simp [intOf]; omega
            · have hb : (ofL tx).toList.isEmpty = false := by rw [toL, ofL_data]; cases tx; exact absurd rfl hx; rfl
              have HW : Hid (writeT ⟨td, tn, tx⟩ = tx) := by show _ = _; unfold writeT; rw [if_neg hx]
              have HQ := hide (HS0.out h0)
              clear HS0 HS1 hx
              clear h0
              go_wp2_with fail
              go_round
              case rel => exact ⟨k + 1, by omega, by go_num, congrArg Value.string (by rw [catL, HQ.out, HW.out])⟩
              case measure => simp [intOf]; omega
        · have hlk' : ¬ (k : Int) < (ts.length : Int) := by omega
          obtain rfl : k = ts.length := by omega
          go_wp2_with fail
          go_ret
          exact ⟨ret_s (by rw [HR.out]), B1.out⟩

end Go.Proofs.YtobcoppbphfcaaaDoor
