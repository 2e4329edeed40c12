/-
  Walks: the next number, in the program and in the document's answer.
-/
import Derived.Test.YtaflflelcdcanaaGreatZWc
import Derived.Test.YtaflflelcdcanaaGreatZPlainB
namespace Go.Proofs.YtaflflelcdcanaaGreat
open Go.RowKit

theorem cons_text (c : UInt8) (l : List UInt8) : (⟨#[c]⟩ : ByteArray) ++ ofL l = ofL (c :: l) := by
  apply ba_ext
  rw [ofL_data, ByteArray.data_append]
  simp [ofL]
theorem inc1 (c : UInt8) (h : (c.toNat : Int) < 57) : ((c.toNat : Int) + 1) = ((c + 1).toNat : Int) := by
  have : (c + 1).toNat = (c.toNat + 1) % 256 := UInt8.toNat_add c 1
  omega

set_option maxHeartbeats 400000 in
theorem Next_any (s : ByteArray) (w : World) (hs : s.size ≤ 9223372036854775805) :
    Calls Tryz.prog 159 #[.string s] w fun e w' => e = .returned (.string (ofL (nextL s.data.toList))) ∧ Below w.heap.size w w' := by
  have hrun : runI s.data.toList 0 1 = (runL 1 s.data.toList : Int) := by have := runI_in s 0 1 (Nat.zero_le _); simpa using this
  by_cases hr : runL 1 s.data.toList = s.data.toList.length
  · have hn : ((runL 1 s.data.toList : Int) != (s.size : Int)) = false := by rw [hr, len_data]; simp
    have hD := trimL_allD _ (allD_of_run _ hr)
    have HN : Hid (nextL s.data.toList = incL (trimL s.data.toList)) := by simp [Hid, nextL, hr]
    have la := trimL_le s.data.toList
    have lp := trimL_pos s.data.toList
    rw [len_data] at la
    clear hr
    have hconv := fun (w : World) => Lib.run_convert_string_bytes (P := Tryz.prog) w 9 91 5 (ofL (trimL s.data.toList)) Tryz.underlying9 Tryz.underlying91 Tryz.underlying5
    have hb0 := fun (w : World) => below_conv w 5 (ofL (trimL s.data.toList))
    have hy0 := fun (w : World) => Bys.conv w 5 (ofL (trimL s.data.toList))
    rw [ofL_data] at hy0
    have ea := ofL_size (trimL s.data.toList)
    go_enter Tryz.func159, Tryz.ntmps159
    go_wp2_with fail
    refine (Run_any _ _ _ _ (by unfold maxLen; omega)).mono ?_
    rintro e w' ⟨rfl, rfl⟩
    go_wp2_with fail
    refine (Trim_any _ _ (by unfold maxLen; omega)).mono ?_
    rintro e w' ⟨rfl, rfl⟩
    generalize trimL s.data.toList = l at *
    go_wp2_with fail
    obtain ⟨B, hB⟩ : ∃ B, w'.heap.size = B := ⟨_, rfl⟩
    have hb1 := hb0 w'
    have hy1 := hy0 w'
    rw [hB] at hb1 hy1
    clear hb0 hy0 hconv
    rw [hB]
    go_loopw [4] (fun i wr => ∃ k : Nat, k ≤ l.length ∧ i = .int .i64 ((k : Int) - 1) ∧ Bys wr B (tail0 l k) ∧ Hid (Mid l k) ∧ Below B w' wr) (fun i _ => (intOf i + 1).toNat)
    case atStart => exact ⟨l.length, Nat.le_refl _, rfl, by rw [tail0_all]; exact hy1, mid_all l, hb1⟩
    case round =>
      obtain ⟨k, hk, rfl, hy, HM, hbel⟩ := hrel
      cases k with
      | zero =>
        have hback := fun cap => hy.back (P := Tryz.prog) 91 9 5 cap Tryz.underlying91 Tryz.underlying5 Tryz.underlying9
        rw [tail0_len l 0 hk] at hback
        have el := ofL_size (tail0 l 0)
        rw [tail0_len l 0 hk] at el
        go_wp2_with fail
        go_ret
        exact ⟨ret_s (by rw [HN.out, mid_end l HM.out]; exact cons_text 49 _), by rw [hB]; exact hbel⟩
      | succ m =>
        have hm : m < l.length := by omega
        have hi : (((m + 1 : Nat) : Int) - 1) = (m : Int) := by omega
        rw [hi]
        clear hi
        have hcell := hy.cell m (by rw [tail0_len l _ hk]; exact hm)
        have hfree := hy.free m (by rw [tail0_len l _ hk]; exact hm)
        rw [tail0_at l m hm] at hcell
        have H9 : Hid (∀ h9 : l[m] = 57, Mid l m) := fun h9 => mid_nine l m hm h9 HM.out
        have HS : Hid (∀ h9 : l[m] ≠ 57, (tail0 l (m + 1)).set m (l[m] + 1) = incL l) := fun h9 => mid_stop l m hm h9 HM.out
        have hdb := hD l[m] (List.getElem_mem hm)
        generalize l[m] = c at *
        by_cases h9 : c = 57
        · have hc9 : ((c.toNat : Int) != 57) = false := by rw [h9]; decide
          have HX : Hid (Mid l m) := H9.out h9
          clear h9 hdb
          go_wp2_with fail
          go_roundw
          case rel => exact ⟨m, by omega, rfl, by rw [← tail0_nine l m hm]; exact hy.set m (by rw [tail0_len l _ hk]; exact hm) _ _ rfl, HX, hbel.setCell (Nat.le_refl _) _⟩
          case measure => simp [intOf]
        · have hc9 : ((c.toNat : Int) != 57) = true := by
            have : c.toNat ≠ 57 := fun e => h9 (UInt8.toNat_inj.1 e)
            simp; omega
          have HX : Hid ((tail0 l (m + 1)).set m (c + 1) = incL l) := HS.out h9
          have hlt : (c.toNat : Int) < 57 := by simp at hc9; omega
          have hyS := hy.set m (by rw [tail0_len l _ hk]; exact hm) ((c.toNat : Int) + 1) (c + 1) (inc1 c hlt)
          have hback := fun cap => hyS.back (P := Tryz.prog) 91 9 5 cap Tryz.underlying91 Tryz.underlying5 Tryz.underlying9
          rw [List.length_set, tail0_len l _ hk] at hback
          clear h9 hdb
          go_wp2_with fail
          go_ret
          exact ⟨ret_s (by rw [HN.out, HX.out]), by rw [hB]; exact hbel.setCell (Nat.le_refl _) _⟩
  · have hn : ((runL 1 s.data.toList : Int) != (s.size : Int)) = true := by rw [len_data] at hr; simp; omega
    have HN : Hid (nextL s.data.toList = [49]) := by unfold nextL; rw [if_neg hr]; rfl
    clear hr
    go_enter Tryz.func159, Tryz.ntmps159
    go_wp2_with fail
    refine (Run_any _ _ _ _ (by unfold maxLen; omega)).mono ?_
    rintro e w' ⟨rfl, rfl⟩
    go_wp2_with fail
    go_ret
    exact ⟨ret_s (by rw [HN.out]; rfl), Below.refl _ _⟩

set_option maxHeartbeats 400000 in
theorem RNext_any (s : ByteArray) (w : World) (hs : s.size ≤ 9223372036854775805) :
    Calls Tryz.prog 155 #[.string s] w fun e w' => e = .returned (.string (ofL (nextL s.data.toList))) ∧ Below w.heap.size w w' := by
  have hrun : runI s.data.toList 0 1 = (runL 1 s.data.toList : Int) := by have := runI_in s 0 1 (Nat.zero_le _); simpa using this
  by_cases hr : runL 1 s.data.toList = s.data.toList.length
  · have hn : ((runL 1 s.data.toList : Int) != (s.size : Int)) = false := by rw [hr, len_data]; simp
    have HN : Hid (nextL s.data.toList = trimL (incL (48 :: s.data.toList))) := by
      show _ = _
      rw [next_ref _ (allD_of_run _ hr), nextL, if_pos hr]
    have hD : AllD (48 :: s.data.toList) := fun c hc => by
      rcases List.mem_cons.1 hc with rfl | hc
      · decide
      · exact allD_of_run _ hr c hc
    clear hr
    have hcat : (⟨#[48]⟩ : ByteArray) ++ s = ofL (48 :: s.data.toList) := by have := cons_text 48 s.data.toList; rwa [ofL_self] at this
    have hz : (⟨#[48]⟩ : ByteArray).size = 1 := rfl
    have hl0 : (48 :: s.data.toList).length = s.size + 1 := by rw [List.length_cons, len_data]
    have hz0 : ∀ h : 0 < (48 :: s.data.toList).length, (48 :: s.data.toList)[0] = 48 := fun _ => rfl
    have ea := ofL_size (48 :: s.data.toList)
    generalize 48 :: s.data.toList = l at *
    have HL : Hid (l.length = s.size + 1) := hl0
    have hl1 : l.length ≤ s.size + 1 := by omega
    have hl2 : s.size + 1 ≤ l.length := by omega
    have HZ : Hid _ := hz0
    clear hl0 hz0
    have hconv := fun (w : World) => Lib.run_convert_string_bytes (P := Tryz.prog) w 9 91 5 (ofL l) Tryz.underlying9 Tryz.underlying91 Tryz.underlying5
    have hb0 := fun (w : World) => below_conv w 5 (ofL l)
    have hy0 := fun (w : World) => Bys.conv w 5 (ofL l)
    rw [ofL_data] at hy0
    go_enter Tryz.func155, Tryz.ntmps155
    go_wp2_with fail
    refine (RRun_any _ _ _ _ (by unfold maxLen; omega)).mono ?_
    rintro e w' ⟨rfl, rfl⟩
    go_wp2_with fail
    obtain ⟨B, hB⟩ : ∃ B, w'.heap.size = B := ⟨_, rfl⟩
    have hb1 := hb0 w'
    have hy1 := hy0 w'
    rw [hB] at hb1 hy1
    clear hb0 hy0 hconv
    rw [hB]
    go_loopw [4] (fun i wr => ∃ k : Nat, k < l.length ∧ i = .int .i64 (k : Int) ∧ Bys wr B (tail0 l (k + 1)) ∧ Hid (Mid l (k + 1)) ∧ Below B w' wr) (fun i _ => (intOf i).toNat)
    case atStart => exact ⟨s.size, by omega, by go_num, by rw [← HL.out, tail0_all]; exact hy1, by rw [← HL.out]; exact mid_all l, hb1⟩
    case round =>
      obtain ⟨m, hm, rfl, hy, HM, hbel⟩ := hrel
      have hk : m + 1 ≤ l.length := hm
      have hcell := hy.cell m (by rw [tail0_len l _ hk]; exact hm)
      have hfree := hy.free m (by rw [tail0_len l _ hk]; exact hm)
      rw [tail0_at l m hm] at hcell
      have H9 : Hid (∀ h9 : l[m] = 57, Mid l m) := fun h9 => mid_nine l m hm h9 HM.out
      have HS : Hid (∀ h9 : l[m] ≠ 57, (tail0 l (m + 1)).set m (l[m] + 1) = incL l) := fun h9 => mid_stop l m hm h9 HM.out
      have hdb := hD l[m] (List.getElem_mem hm)
      have HP : Hid (l[m] = 57 → 0 < m) := fun e => by
        rcases Nat.eq_zero_or_pos m with h0 | h0
        · subst h0; rw [HZ.out hm] at e; exact absurd e (by decide)
        · exact h0
      generalize l[m] = c at *
      by_cases h9 : c = 57
      · have hc9 : ((c.toNat : Int) == 57) = true := by rw [h9]; decide
        have HX : Hid (Mid l m) := H9.out h9
        have hp := HP.out h9
        clear h9 hdb
        go_wp2_with fail
        go_roundw
        case rel =>
          obtain ⟨q, rfl⟩ : ∃ q, m = q + 1 := ⟨m - 1, by omega⟩
          exact ⟨q, by omega, by go_num, by rw [← tail0_nine l (q + 1) hm]; exact hy.set (q + 1) (by rw [tail0_len l _ hk]; exact hm) _ _ rfl, HX, hbel.setCell (Nat.le_refl _) _⟩
        case measure => simp [intOf]; omega
      · have hc9 : ((c.toNat : Int) == 57) = false := by
          have : c.toNat ≠ 57 := fun e => h9 (UInt8.toNat_inj.1 e)
          simp; omega
        have HX : Hid ((tail0 l (m + 1)).set m (c + 1) = incL l) := HS.out h9
        have hlt : (c.toNat : Int) < 57 := by simp at hc9; omega
        have hyS := hy.set m (by rw [tail0_len l _ hk]; exact hm) ((c.toNat : Int) + 1) (c + 1) (inc1 c hlt)
        have hback := fun cap => hyS.back (P := Tryz.prog) 91 9 5 cap Tryz.underlying91 Tryz.underlying5 Tryz.underlying9
        rw [List.length_set, tail0_len l _ hk] at hback
        clear h9 hdb
        go_wp2_with fail
        refine (RTrim_any _ _ (by rw [ofL_size, List.length_set, tail0_len l _ hk]; unfold maxLen; omega)).mono ?_
        rintro e w2 ⟨rfl, rfl⟩
        go_wp2_with fail
        go_ret
        exact ⟨ret_s (by rw [HN.out, ofL_data, HX.out]), by rw [hB]; exact hbel.setCell (Nat.le_refl _) _⟩
  · have hn : ((runL 1 s.data.toList : Int) != (s.size : Int)) = true := by rw [len_data] at hr; simp; omega
    have HN : Hid (nextL s.data.toList = [49]) := by unfold nextL; rw [if_neg hr]; rfl
    clear hr
    go_enter Tryz.func155, Tryz.ntmps155
    go_wp2_with fail
    refine (RRun_any _ _ _ _ (by unfold maxLen; omega)).mono ?_
    rintro e w' ⟨rfl, rfl⟩
    go_wp2_with fail
    go_ret
    exact ⟨ret_s (by rw [HN.out]; rfl), Below.refl _ _⟩

end Go.Proofs.YtaflflelcdcanaaGreat
