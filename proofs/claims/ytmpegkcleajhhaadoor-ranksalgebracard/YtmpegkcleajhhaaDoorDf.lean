/-
  Walks: the places that are true, as spans: the document.
-/
import Derived.Test.YtmpegkcleajhhaaDoorDe
namespace Go.Proofs.YtmpegkcleajhhaaDoor
open Go.RowKit Go.Shelf
set_option linter.unusedVariables false

set_option maxRecDepth 100000 in
set_option maxHeartbeats 4000000 in
theorem RWhere_any (v : Value) (l : List Bool) (w : World) (hA : Bools w v l) (hl : l.length ≤ 1000000000000000) :
    Calls Tryd.prog 13 #[v] w (SetPost (whereL (atP l) (cnt l.length)) w) := by
  obtain ⟨aa, ca, rfl, hcap, hnone, hra⟩ := hA
  have HA := hide hra
  clear hra
  have hK0 : cnt l.length = min l.length 65536 := by unfold cnt; omega
  rw [hK0]
  obtain ⟨K, hK⟩ : ∃ K, min l.length 65536 = K := ⟨_, rfl⟩
  rw [hK]
  clear hK0
  go_enter Tryd.func13, Tryd.ntmps13
  go_wp2_with fail
  go_loopw [3, 4] (fun x y wr => ∃ k : Nat, k ≤ K ∧ y = .int .i64 k ∧ wr.ownsRow w.heap.size 45 2 x (whereL (atP l) k).length (flatS (whereL (atP l) k)) ∧ Below w.heap.size w wr) (fun _ y _ => K - (intOf y).toNat)
  case atStart => exact ⟨0, by omega, rfl, World.ownsRow_nil _ _ _ _, Below.refl _ _⟩
  case round =>
    obtain ⟨k, hk, rfl, hO, hBw⟩ := hrel
    by_cases hlt : k < K
    · have hlt' : (k : Int) < (l.length : Int) := by omega
      have hlt2 : (k : Int) < 65536 := by omega
      have hll : k < l.length := by omega
      obtain ⟨b, off, rfl, hlb, hc⟩ : ∃ b off, aa = some ⟨b, off, none⟩ ∧ b < w.heap.size ∧ ∀ i (h : i < l.length), w.cell? ⟨b, off + i, none⟩ = some (.bool l[i]) := by
        rcases HA.out with h0 | h0
        · rw [h0] at hll; simp at hll
        · exact h0
      have c0 : wr.cell? ⟨b, off + k, none⟩ = some (.bool l[k]) := by rw [← hc k hll]; simp only [World.cell?]; rw [hBw.block b hlb]
      clear hc
      have hf : atP l k = l[k] := by unfold atP; simp [hll]
      have hW := where_len (atP l) k
      cases hx : l[k] with
      | true =>
        rw [hx] at c0 hf
        have HN := hide (where_yes hf)
        clear hx hf
        generalize whereL (atP l) k = S at *
        rcases snoc_or S with rfl | ⟨t, p, rfl⟩
        · obtain ⟨rfl, _⟩ | ⟨g, cap, hv, hg, hgl⟩ := own_block hO
          · have HO := hide hO
            clear hO
            go_wp2_with (at_builtin; refine app_span rfl (.tmp 41) (.tmp 46) rfl w.heap.size _ [] rfl HO.out ((k : Int), (k : Int) + 1) rfl (by simp) hBw.size ?_; intro v' w3 own1 grow1)
            go_roundw
            case rel => exact ⟨k + 1, by omega, by go_num, by rw [HN.out]; exact own1, (hBw.alloc hBw.size _).trans (below_own (HO.out.alloc _) (by simp; have := hBw.size; omega) grow1)⟩
            case measure => simp [intOf]; omega
          · subst hv
            have HO := hide hO
            clear hO
            go_wp2_with (at_builtin; refine app_span rfl (.tmp 41) (.tmp 46) rfl w.heap.size _ [] rfl HO.out ((k : Int), (k : Int) + 1) rfl (by simp) hBw.size ?_; intro v' w3 own1 grow1)
            go_roundw
            case rel => exact ⟨k + 1, by omega, by go_num, by rw [HN.out]; exact own1, (hBw.alloc hBw.size _).trans (below_own (HO.out.alloc _) (by simp; have := hBw.size; omega) grow1)⟩
            case measure => simp [intOf]; omega
        · obtain ⟨rfl, h0⟩ | ⟨g, cap, hv, hg, hgl⟩ := own_block hO
          · simp at h0
          · subst hv
            have HW := hide (withL_snoc t p k)
            obtain ⟨_, hcc⟩ := flatS_at (t ++ [p]) t.length p (by simp)
            obtain ⟨c1, f1⟩ := own_cell hO hcc
            have HO := hide hO
            have HO2 : Hid (wr.ownsRow w.heap.size 45 2 (.slice (some ⟨g, 0, none⟩) (t.length + 1) cap) (t ++ [p]).length (flatS (t ++ [p]))) := by
              have e : (t ++ [p]).length = t.length + 1 := by simp
              show World.ownsRow _ _ _ _ _ _ _
              rw [e] at hO ⊢
              exact hO
            clear hO hcc
            rw [List.length_append, List.length_singleton] at hW ⊢
            have hlt0 : (t.length : Int) < ((t.length + 1 : Nat) : Int) := by omega
            by_cases hp : p.2 = (k : Int)
            · have hq : (p.2 == (k : Int)) = true := by simp [hp]
              have HW2 : Hid (withL (t ++ [p]) k = t ++ [(p.1, (k : Int) + 1)]) := by show _ = _; rw [HW.out, if_pos hp]
              have HF := hide (flatS_set2 t p ((k : Int) + 1) [])
              clear HW hp
              obtain ⟨p0, p1⟩ := p
              dsimp only at *
              go_wp2_with fail
              go_roundw
              case rel =>
                refine ⟨k + 1, by omega, by go_num, ?_, hBw.trans (below_set _ hg)⟩
                have z := own_put HO.out (j := t.length * 2 + 1) (by simp; omega) (.int .i64 ((k : Int) + 1))
                rw [HN.out, HW2.out]
                have e := HF.out
                simp only [List.append_nil] at e
                rw [e] at z
                simpa using z
              case measure => simp [intOf]; omega
            · have hq : (p.2 == (k : Int)) = false := by simp [hp]
              have HW2 : Hid (withL (t ++ [p]) k = (t ++ [p]) ++ [((k : Int), (k : Int) + 1)]) := by show _ = _; rw [HW.out, if_neg hp]
              clear HW hp
              go_wp2_with (at_builtin; refine app_span rfl (.tmp 41) (.tmp 46) rfl w.heap.size _ (t ++ [p]) rfl HO2.out ((k : Int), (k : Int) + 1) rfl (by simp; omega) hBw.size ?_; intro v' w3 own1 grow1)
              go_roundw
              case rel => exact ⟨k + 1, by omega, by go_num, by rw [HN.out, HW2.out]; exact own1, (hBw.alloc hBw.size _).trans (below_own (HO2.out.alloc _) (by simp; have := hBw.size; omega) grow1)⟩
              case measure => simp [intOf]; omega
      | false =>
        rw [hx] at c0 hf
        have HN := hide (where_no hf)
        clear hx hf
        go_wp2_with fail
        go_roundw
        case rel => exact ⟨k + 1, by omega, by go_num, by rw [HN.out]; exact hO, hBw⟩
        case measure => simp [intOf]; omega
    · obtain rfl : k = K := by omega
      by_cases h6 : (k : Int) < (l.length : Int)
      · have h7 : ¬ (k : Int) < 65536 := by omega
        go_wp2_with fail
        go_ret
        exact ⟨_, rfl, own_spans hO, hBw⟩
      · go_wp2_with fail
        go_ret
        exact ⟨_, rfl, own_spans hO, hBw⟩

end Go.Proofs.YtmpegkcleajhhaaDoor
