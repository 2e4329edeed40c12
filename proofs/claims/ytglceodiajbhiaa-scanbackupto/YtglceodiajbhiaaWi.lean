/-
  Walks: the iterator over pieces, for every loop body that keeps the two boxes that it reads.
-/
import Derived.Test.YtglceodiajbhiaaWh
import Derived.RangeFuncNested
import Derived.RangeFuncBound
import Derived.RangeFuncCalls
import Derived.RangeFuncLeaves
import Derived.Shelf.Abstract
import Derived.Shelf.RegionOpen
import Derived.OwnWalkIn
import Derived.TacticsInMore
import Derived.LoopNIn
import Derived.LoopIn
import Derived.Sort.QuietIn
namespace Go.Proofs.Ytglceodiajbhiaa
open Go.RowKit Go.Shelf
set_option linter.unusedVariables false

attribute [local go_sem] Oper.semAt_some

/-- What a round that goes on keeps: two blocks. -/
def Two (b c : Nat) (W W' : World) : Prop := W'.heap[b]? = W.heap[b]? ∧ W'.heap[c]? = W.heap[c]?
theorem Two.refl (b c : Nat) (W : World) : Two b c W W := ⟨rfl, rfl⟩
theorem Two.trans {b c : Nat} {A B C : World} (h : Two b c A B) (k : Two b c B C) : Two b c A C := ⟨k.1.trans h.1, k.2.trans h.2⟩

theorem grown_drewN (W : World) (m : Nat) : W.grownBy (W.drewN m) none := ⟨rfl, rfl, rfl, Nat.le_refl _, fun _ _ _ => rfl⟩
theorem abides_drewN {β : Type} {B : Nat} {J : β → World → Prop} (h : AbidesFrom B J) {s : β} {W : World} (hs : J s W) (m : Nat) : J s (W.drewN m) := h s W (W.drewN m) none hs (grown_drewN W m) (fun r e => by cases e)
theorem boxed_drewN {W : World} {B : Nat} {t : TypeId} {v : Value} (h : Boxed W B t v) (m : Nat) : Boxed (W.drewN m) B t v := h.kept (grown_drewN W m) (by simp)
theorem Two.boxed {b c : Nat} {W W' : World} (h : Two b c W W') {t u : TypeId} {x y : Value} (hb : Boxed W b t x) (hc : Boxed W c u y) : Boxed W' b t x ∧ Boxed W' c u y := ⟨h.1.trans hb, h.2.trans hc⟩

set_option maxRecDepth 100000 in
set_option maxHeartbeats 2000000 in
theorem pieces1_in (n : Nat) (hn : 1 ≤ n) (l Bs Bp : Nat) (s : ByteArray) (sep : UInt8) (hs : s.size ≤ 4000000000000) (J Jx : List (Nat × Nat) → World → Prop) (B0 : Nat) (hJ : AbidesFrom B0 J)
    (hY : ∀ pre x W, J pre W → pre.length < (cuts sep s.data.toList).length → YieldAt Fence.wide (n - 1) Try.prog l #[.int .i64 (x.1 : Int), .string (s.extract x.1 x.2)] W fun e W' =>
      (e = .returned (.bool true) ∧ J (pre ++ [x]) W' ∧ Two Bs Bp W W') ∨ (e = .returned (.bool false) ∧ Jx (pre ++ [x]) W'))
    (W : World) (hBs : Boxed W Bs 9 (.string s)) (hBp : Boxed W Bp 5 (.int .u8 (sep.toNat : Int))) (h0 : J [] W) :
    CallsIn Fence.wide n Try.prog 43 #[.func (.yield l) #[] #[], .pointer (some ⟨Bs, 0, none⟩), .pointer (some ⟨Bp, 0, none⟩)] W fun e W' => (∃ v, e = .returned v) ∧
      ((∃ ys, ys = cuts sep s.data.toList ∧ J ys W') ∨ (∃ pre, pre <+: cuts sep s.data.toList ∧ Jx pre W')) := by
  have cS0 := hBs.cell
  refine callsIn_of_wp Try.func43 rfl trivial ?_ rfl
  simp only [Try.ntmps43, List.size_toArray, List.length_cons, List.length_nil, Nat.reduceAdd, Nat.reduceSub, Array.replicate_succ, Array.replicate_zero, List.push_toArray, List.append_toArray, List.nil_append, List.cons_append]
  gi_wp2
  gi_loopw [4, 8] (fun y i wr => ∃ (k a : Nat) (pre : List (Nat × Nat)), k ≤ s.size ∧ a ≤ k ∧ i = .int .i64 k ∧ y = .int .i64 a ∧ J pre wr ∧ Boxed wr Bs 9 (.string s) ∧ Boxed wr Bp 5 (.int .u8 (sep.toNat : Int)) ∧
      Hid (cuts sep s.data.toList = pre ++ cutsA sep (s.data.toList.drop k) a k))
    (fun _ i _ => s.size - (intOf i).toNat)
  case atStart => exact ⟨0, 0, [], by omega, by omega, rfl, rfl, h0, hBs, hBp, rfl⟩
  case round =>
    obtain ⟨k, a, pre, hk, hak, rfl, rfl, hJs, bS, bP, HR⟩ := hrel
    have cS := bS.cell
    have cP := bP.cell
    by_cases hlt : k < s.size
    · by_cases hc : s[k] = sep
      · have hb : ((s[k].toNat : Int) != (sep.toNat : Int)) = false := by rw [hc]; simp
        have HX : Hid _ := cutsA_hit sep s a k hlt hc
        clear hc
        have hlt' : (k : Int) < (s.size : Int) := by omega
        gi_wp2
        gi_quiet (fail)
        have hJ2 := abides_drewN hJ hJs nq
        have bS2 := boxed_drewN bS nq
        have bP2 := boxed_drewN bP nq
        clear bS bP cS cP hJs
        generalize wr.drewN nq = W2 at *
        have cS := bS2.cell
        have cP := bP2.cell
        obtain ⟨fn, tmps, assign, body, hy, hR⟩ := hY pre (a, k) W2 hJ2 (by rw [HR.out, HX.out]; simp)
        dsimp only at hy
        gi_wp2
        refine hR.mono ?_
        rintro e W3 (⟨rfl, hJ3, hk3⟩ | ⟨rfl, hJx3⟩)
        · obtain ⟨bS3, bP3⟩ := hk3.boxed bS2 bP2
          clear cS cP
          have cS := bS3.cell
          have cP := bP3.cell
          gi_wp2
          go_roundw
          case rel => exact ⟨k + 1, k + 1, pre ++ [(a, k)], by omega, by omega, by go_num, by go_num, hJ3, bS3, bP3, by rw [HR.out, HX.out]; simp [Hid]⟩
          case measure => simp [intOf]; omega
        · gi_wp2
          refine bodyPost_ret (results_none rfl _ _ _) rfl ?_
          exact ⟨⟨_, rfl⟩, .inr ⟨pre ++ [(a, k)], by rw [HR.out, HX.out]; exact ⟨_, by simp; rfl⟩, hJx3⟩⟩
      · have hb : ((s[k].toNat : Int) != (sep.toNat : Int)) = true := by
          have : s[k].toNat ≠ sep.toNat := fun e => hc (UInt8.toNat_inj.1 e)
          simp; omega
        have HX : Hid _ := cutsA_miss sep s a k hlt hc
        clear hc
        have hlt' : (k : Int) < (s.size : Int) := by omega
        gi_wp2
        gi_quiet (fail)
        gi_wp2
        go_roundw
        case rel => exact ⟨k + 1, a, pre, by omega, by omega, by go_num, rfl, abides_drewN hJ hJs nq, boxed_drewN bS nq, boxed_drewN bP nq, by rw [HR.out, HX.out]; rfl⟩
        case measure => simp [intOf]; omega
    · have HX : Hid _ := cutsA_end sep s a k (by omega)
      have HQ : Hid (k = s.size) := by show _ = _; omega
      have hE : s.extract a s.size = s.extract a k := by rw [HQ.out]
      obtain ⟨fn, tmps, assign, body, hy, hR⟩ := hY pre (a, k) wr hJs (by rw [HR.out, HX.out]; simp)
      dsimp only at hy
      gi_wp2
      refine hR.mono ?_
      rintro e W3 (⟨rfl, hJ3, hk3⟩ | ⟨rfl, hJx3⟩)
      · gi_wp2
        go_end0
        exact ⟨⟨_, rfl⟩, .inl ⟨pre ++ [(a, k)], by rw [HR.out, HX.out], hJ3⟩⟩
      · gi_wp2
        go_end0
        exact ⟨⟨_, rfl⟩, .inr ⟨pre ++ [(a, k)], by rw [HR.out, HX.out]; exact List.prefix_refl _, hJx3⟩⟩

end Go.Proofs.Ytglceodiajbhiaa
