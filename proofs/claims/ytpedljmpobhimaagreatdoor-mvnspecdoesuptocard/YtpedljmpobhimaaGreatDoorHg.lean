/-
  Walks: the iterator over a text's ranges, for every loop body that keeps its boxes.
-/
import Derived.Test.YtpedljmpobhimaaGreatDoorHf
namespace Go.Proofs.YtpedljmpobhimaaGreatDoor
open Go.RowKit Go.Shelf
set_option linter.unusedVariables false

attribute [local go_sem] Oper.semAt_some

/-- An item as a value. -/
def encI (x : It) : Value := .agg #[.bool x.m.hasLo, .string (ofL x.m.lo), .bool x.m.loIn, .bool x.m.hasHi, .string (ofL x.m.hi), .bool x.m.hiIn, .int .i64 (x.at' : Int), .int .i64 x.err]
/-- One block, and the known ones, lie as they lay. -/
structure Kp2 (b : Nat) (W W' : World) : Prop where
  one : W'.heap[b]? = W.heap[b]?
  kno : W'.heap[1]? = W.heap[1]?
  size : W.heap.size ≤ W'.heap.size
theorem Kp2.trans {b : Nat} {A B C : World} (h : Kp2 b A B) (k : Kp2 b B C) : Kp2 b A C := ⟨k.one.trans h.one, k.kno.trans h.kno, Nat.le_trans h.size k.size⟩
theorem kp2_b {b : Nat} {w : World} (hb : b < w.heap.size) (h1 : 1 < w.heap.size) : ∀ (W : World) (l : Nat) (o o' : Obj), w.heap.size ≤ l → W.heap[l]? = some o → o.isCells = false → o.isWalk = false → Kp2 b W (W.putObj l o') :=
  fun W l o o' hl _ _ _ => ⟨World.putObj_heap_other (by omega), World.putObj_heap_other (by omega), by rw [World.putObj_size]; exact Nat.le_refl _⟩
theorem Kp2.boxed {b : Nat} {W W' : World} {t : TypeId} {v : Value} (h : Kp2 b W W') (hb : Boxed W b t v) : Boxed W' b t v := Eq.trans h.one hb
theorem Kp2.kn {b : Nat} {W W' : World} (h : Kp2 b W W') (hk : Kn W) : Kn W' := hk.block h.size h.kno

theorem it_many (c : Nat) (r : List UInt8) : itL 0 c r = [⟨noM, c, 12⟩] := rfl
theorem it_bad {n c : Nat} {l : List UInt8} (h : (rrR (l.drop c)).err ≠ 0) : itL (n + 1) c (l.drop c) = [⟨noM, c + (rrR (l.drop c)).k, (rrR (l.drop c)).err⟩] := by
  unfold itL
  rw [if_pos h]
theorem it_step {n c e q : Nat} {l : List UInt8} (h : (rrR (l.drop c)).err = 0) (he : e = c + (rrR (l.drop c)).k) (hq : q = e + blN (l.drop e)) :
    itL (n + 1) c (l.drop c) = ⟨(rrR (l.drop c)).m, c, 0⟩ :: (if l.drop q = [] then [] else if (coR (l.drop q)).1 ≠ 0 then [⟨noM, q + (coR (l.drop q)).2, (coR (l.drop q)).1⟩] else itL n (q + (coR (l.drop q)).2) (l.drop (q + (coR (l.drop q)).2))) := by
  conv => lhs; unfold itL
  rw [if_neg (by rw [h]; simp)]
  simp only [List.drop_drop]
  rw [← he, ← Nat.add_assoc, ← he, ← Nat.add_assoc, ← hq, ← Nat.add_assoc, ← he, ← hq]
theorem rr_le {l : List UInt8} {c : Nat} (h : (rrR (l.drop c)).err = 0) (hc : c ≤ l.length) : c + (rrR (l.drop c)).k ≤ l.length := by
  have := (rr_facts _ h).2.2
  rw [List.length_drop] at this
  omega

set_option maxRecDepth 100000 in
set_option maxHeartbeats 8000000 in
theorem ranges1_in (n : Nat) (hn : 1 ≤ n) (l Bs Ba : Nat) (s : ByteArray) (a : Nat) (hs : s.size ≤ 256) (ha : a < s.size) (J Jx : List It → World → Prop) (B0 : Nat) (hJ : AbidesFrom B0 J)
    (hY : ∀ pre x W, J pre W → pre.length < (itL 32 a (s.data.toList.drop a)).length → YieldAt Fence.wide (n - 1) Tryz.prog l #[encI x] W fun e W' =>
      (e = .returned (.bool true) ∧ J (pre ++ [x]) W' ∧ Kp2 Bs W W') ∨ (e = .returned (.bool false) ∧ Jx (pre ++ [x]) W'))
    (W : World) (hBs : Boxed W Bs 9 (.string s)) (hBa : Boxed W Ba 3 (.int .i64 (a : Int))) (hkn : Kn W) (h0 : J [] W) :
    CallsIn Fence.wide n Tryz.prog 70 #[.func (.yield l) #[] #[], .pointer (some ⟨Ba, 0, none⟩), .pointer (some ⟨Bs, 0, none⟩)] W fun e W' => (∃ v, e = .returned v) ∧
      ((∃ ys : List It, ys = itL 32 a (s.data.toList.drop a) ∧ J ys W') ∨ (∃ pre : List It, pre <+: itL 32 a (s.data.toList.drop a) ∧ Jx pre W')) := by
  have cA := hBa.cell
  generalize hI : itL 32 a (s.data.toList.drop a) = I at *
  refine callsIn_of_wp Tryz.func70 rfl trivial ?_ rfl
  simp only [Tryz.ntmps70, List.size_toArray, List.length_cons, List.length_nil, Nat.reduceAdd, Nat.reduceSub, Array.replicate_succ, Array.replicate_zero, List.push_toArray, List.append_toArray, List.nil_append, List.cons_append]
  gi_wp2
  gi_quiet (fail)
  have hJ0 : J [] (W.drewN nq) := hJ [] W (W.drewN nq) none h0 (grown_drewN W nq) (fun r e => by cases e)
  have hBs0 : Boxed (W.drewN nq) Bs 9 (.string s) := boxed_drewN hBs nq
  have hk0 : Kn (W.drewN nq) := hkn.drewN nq
  generalize W.drewN nq = V0 at *
  gi_wp2
  gi_loopw [4, 5] (fun x y wr => ∃ (k c : Nat) (pre : List It), k ≤ 32 ∧ c < s.size ∧ x = .int .i64 k ∧ y = .int .i64 c ∧ J pre wr ∧ Boxed wr Bs 9 (.string s) ∧ Kn wr ∧
      Hid (I = pre ++ itL (32 - k) c (s.data.toList.drop c)))
    (fun x _ _ => 33 - (intOf x).toNat)
  case atStart => exact ⟨0, a, [], by omega, ha, rfl, rfl, hJ0, hBs0, hk0, hI.symm⟩
  case round =>
    clear hI hBs0 hk0 hJ0 hkn hBs hBa cA h0
    obtain ⟨k, c, pre, hk, hc, rfl, rfl, hJs, bS, kn, HR⟩ := hrel
    have cS := bS.cell
    by_cases hk32 : k = 32
    · subst hk32
      have HR' : Hid (I = pre ++ [⟨noM, c, 12⟩]) := HR.out
      have HLT : Hid (pre.length < I.length) := by show _ < _; rw [HR'.out]; simp
      have Y0 : YieldAt Fence.wide (n - 1) Tryz.prog l #[.agg #[.bool false, .string ⟨#[]⟩, .bool false, .bool false, .string ⟨#[]⟩, .bool false, .int .i64 (c : Int), .int .i64 12]] wr _ := hY pre ⟨noM, c, 12⟩ wr hJs HLT.out
      obtain ⟨fn, tmps, assign, body, hy, hRd⟩ := Y0
      gi_wp2
      refine hRd.mono ?_
      rintro e' W5 (⟨rfl, hJ5, _⟩ | ⟨rfl, hJx5⟩)
      · gi_wp2
        refine bodyPost_ret (results_none rfl _ _ _) rfl ?_
        exact ⟨⟨_, rfl⟩, .inl ⟨_, HR'.out.symm, hJ5⟩⟩
      · gi_wp2
        refine bodyPost_ret (results_none rfl _ _ _) rfl ?_
        exact ⟨⟨_, rfl⟩, .inr ⟨_, by rw [HR'.out]; exact List.prefix_refl _, hJx5⟩⟩
    · have hkb : ((k : Int) == 32) = false := by simp; omega
      obtain ⟨f, hf⟩ : ∃ f, 32 - k = f + 1 := ⟨31 - k, by omega⟩
      rw [hf] at HR
      have hk31 : k ≤ 31 := by omega
      have HF : Hid (32 - (k + 1) = f) := by show _ = _; omega
      have RQ := hide (fun W hW => readRange_any s c W hs hc hW)
      have hB := fun h => it_bad (n := f) (l := s.data.toList) (c := c) h
      have hle := fun h => rr_le (l := s.data.toList) (c := c) h (by rw [len_data]; omega)
      rw [len_data] at hle
      obtain ⟨e, he⟩ : ∃ e, e = c + (rrR (s.data.toList.drop c)).k := ⟨_, rfl⟩
      obtain ⟨q, hq⟩ : ∃ q, q = e + blN (s.data.toList.drop e) := ⟨_, rfl⟩
      have hS := fun h => it_step (n := f) h he hq
      rw [← he] at hB hle RQ
      generalize rrR (s.data.toList.drop c) = X at *
      have HB := hide hB
      have HS := hide hS
      have HLE := hide hle
      have HQ := hide hq
      clear hB hS hle hq he hf hk32
      gi_wp2
      refine ⟨trivial, (callsIn_wide.2 (RQ.out _ kn)).mono ?_⟩
      rintro e' w1 ⟨rfl, hb1⟩
      unfold mV
      try dsimp only
      have hA1 : Below wr.heap.size wr (w1.alloc (.cells #[.bool X.m.hasLo, .string (ofL X.m.lo), .bool X.m.loIn, .bool X.m.hasHi, .string (ofL X.m.hi), .bool X.m.hiIn] 54)) := hb1.alloc hb1.size _
      have hJ1 := hJ pre wr _ none hJs (below_grown hA1) (fun r e => by cases e)
      have bS1 : Boxed (w1.alloc (.cells #[.bool X.m.hasLo, .string (ofL X.m.lo), .bool X.m.loIn, .bool X.m.hasHi, .string (ofL X.m.hi), .bool X.m.hiIn] 54)) Bs 9 (.string s) := (hA1.block Bs bS.lt).trans bS
      have kn1 := kn.below kn.pos hA1
      have HJ1 := hide hJ1
      clear hJ1 hA1 hb1 cS hJs bS kn
      by_cases hx : X.err = 0
      · have HI1 := hide (HS.out hx)
        have hel := HLE.out hx
        rw [hx]
        clear HB HS HLE
        have R6 := hide (Run6 s e hs hel)
        have hql := bl_le s e hel
        rw [← HQ.out] at R6 hql
        have HLT : Hid (pre.length < I.length) := by show _ < _; rw [HR.out, HI1.out]; simp
        have Y0 := hY pre ⟨X.m, c, 0⟩ _ HJ1.out HLT.out
        unfold encI at Y0
        dsimp only at Y0
        have HP : Hid (pre ++ [⟨X.m, c, 0⟩] <+: I) := by show _ <+: _; rw [HR.out, HI1.out]; exact ⟨_, by simp; rfl⟩
        obtain ⟨fn, tmps, assign, body, hy, hRd⟩ := Y0
        gi_wp2
        refine hRd.mono ?_
        rintro e' W5 (⟨rfl, hJ5, hT⟩ | ⟨rfl, hJx5⟩)
        · have bS5 := hT.boxed bS1
          have kn5 := hT.kn kn1
          have cS5 := bS5.cell
          have CQ := hide (fun W => readComma_any s q W hs hql)
          have hcf := fun h => co_facts (s.data.toList.drop q) h
          rw [List.length_drop, len_data] at hcf
          have hd0 : s.data.toList.drop q = [] ↔ q = s.size := by
            rw [List.drop_eq_nil_iff, len_data]; omega
          generalize hC : coR (s.data.toList.drop q) = C at *
          have HD0 := hide hd0
          have HCF := hide hcf
          clear hd0 hcf hC hy hRd
          gi_wp2
          refine ⟨trivial, (callsIn_wide.2 (R6.out _ rfl _)).mono ?_⟩
          rintro e' w' ⟨rfl, hw'⟩
          rw [hw']; clear hw' w'
          by_cases hqs : q = s.size
          · have hqb : ((q : Int) == (s.size : Int)) = true := by simp; omega
            have HI2 : Hid (I = pre ++ [⟨X.m, c, 0⟩]) := by show _ = _; rw [HR.out, HI1.out, if_pos (HD0.out.2 hqs)]
            clear hqs
            gi_wp2
            refine bodyPost_ret (results_none rfl _ _ _) rfl ?_
            exact ⟨⟨_, rfl⟩, .inl ⟨_, HI2.out.symm, hJ5⟩⟩
          · have hqb : ((q : Int) == (s.size : Int)) = false := by simp; omega
            rw [if_neg (fun h => hqs (HD0.out.1 h))] at HI1
            clear hqs
            gi_wp2
            refine ⟨trivial, (callsIn_wide.2 (CQ.out _)).mono ?_⟩
            rintro e' w' ⟨rfl, hw'⟩
            rw [hw']; clear hw' w'
            by_cases hco : C.1 = 0
            · rw [if_neg (by simpa using hco)] at HI1
              obtain ⟨hc1, hc2⟩ := HCF.out hco
              rw [hco]
              clear hco HCF
              generalize hz : q + C.2 = z at *
              have hzl : z < s.size := by omega
              clear hz hc1 hc2
              gi_wp2
              go_roundw
              case rel => exact ⟨k + 1, z, pre ++ [⟨X.m, c, 0⟩], by omega, hzl, by go_num, rfl, hJ5, bS5, kn5, by show _ = _; rw [HR.out, HI1.out, HF.out]; simp⟩
              case measure => simp [intOf]; omega
            · rw [if_pos hco] at HI1
              have hcb : (C.1 == 0) = false := by simpa using hco
              have HI2 : Hid (I = pre ++ [⟨X.m, c, 0⟩] ++ [⟨noM, q + C.2, C.1⟩]) := by show _ = _; rw [HR.out, HI1.out]; simp
              have HL2 : Hid ((pre ++ [(⟨X.m, c, 0⟩ : It)]).length < I.length) := by show _ < _; rw [HI2.out]; simp
              have Y5 : YieldAt Fence.wide (n - 1) Tryz.prog l #[.agg #[.bool false, .string ⟨#[]⟩, .bool false, .bool false, .string ⟨#[]⟩, .bool false, .int .i64 ((q + C.2 : Nat) : Int), .int .i64 C.1]] W5 _ := hY (pre ++ [⟨X.m, c, 0⟩]) ⟨noM, q + C.2, C.1⟩ W5 hJ5 HL2.out
              generalize q + C.2 = z at *
              obtain ⟨fn, tmps, assign, body, hy, hRd⟩ := Y5
              clear hco HCF
              gi_wp2
              refine hRd.mono ?_
              rintro e' W6 (⟨rfl, hJ6, _⟩ | ⟨rfl, hJx6⟩)
              · gi_wp2
                refine bodyPost_ret (results_none rfl _ _ _) rfl ?_
                exact ⟨⟨_, rfl⟩, .inl ⟨_, HI2.out.symm, hJ6⟩⟩
              · gi_wp2
                refine bodyPost_ret (results_none rfl _ _ _) rfl ?_
                exact ⟨⟨_, rfl⟩, .inr ⟨_, by rw [HI2.out]; exact List.prefix_refl _, hJx6⟩⟩
        · gi_wp2
          refine bodyPost_ret (results_none rfl _ _ _) rfl ?_
          exact ⟨⟨_, rfl⟩, .inr ⟨_, HP.out, hJx5⟩⟩
      · have hxb : (X.err == 0) = false := by simpa using hx
        have HI2 : Hid (I = pre ++ [⟨noM, e, X.err⟩]) := by show _ = _; rw [HR.out, HB.out hx]
        have HLT : Hid (pre.length < I.length) := by show _ < _; rw [HI2.out]; simp
        have Y0 : YieldAt Fence.wide (n - 1) Tryz.prog l #[.agg #[.bool false, .string ⟨#[]⟩, .bool false, .bool false, .string ⟨#[]⟩, .bool false, .int .i64 (e : Int), .int .i64 X.err]] _ _ := hY pre ⟨noM, e, X.err⟩ _ HJ1.out HLT.out
        obtain ⟨fn, tmps, assign, body, hy, hRd⟩ := Y0
        clear hx HB HS HLE
        gi_wp2
        refine hRd.mono ?_
        rintro e' W5 (⟨rfl, hJ5, _⟩ | ⟨rfl, hJx5⟩)
        · gi_wp2
          refine bodyPost_ret (results_none rfl _ _ _) rfl ?_
          exact ⟨⟨_, rfl⟩, .inl ⟨_, HI2.out.symm, hJ5⟩⟩
        · gi_wp2
          refine bodyPost_ret (results_none rfl _ _ _) rfl ?_
          exact ⟨⟨_, rfl⟩, .inr ⟨_, by rw [HI2.out]; exact List.prefix_refl _, hJx5⟩⟩

theorem ranges_stops (n : Nat) (hn : 1 ≤ n) (Bs Ba : Nat) (s : ByteArray) (a : Nat) (hs : s.size ≤ 256) (ha : a < s.size) (w : World) (hBs : Boxed w Bs 9 (.string s)) (hBa : Boxed w Ba 3 (.int .i64 (a : Int))) (hk : Kn w) :
    SeqStopsK Fence.wide n Tryz.prog 70 #[.pointer (some ⟨Ba, 0, none⟩), .pointer (some ⟨Bs, 0, none⟩)] (fun x : It => #[encI x]) (Kp2 Bs) (fun ys => ys = itL 32 a (s.data.toList.drop a)) (fun pre => pre <+: itL 32 a (s.data.toList.drop a)) (itL 32 a (s.data.toList.drop a)).length w := fun l J Jx W hW hJ _ hY h0 =>
  ranges1_in n hn l Bs Ba s a hs ha J Jx W.heap.size hJ hY W ((hW.block Bs hBs.lt).trans hBs) ((hW.block Ba hBa.lt).trans hBa) (hk.below hk.pos hW) h0

theorem ranges_any (s : ByteArray) (a : Nat) (w : World) :
    Calls Tryz.prog 46 #[.string s, .int .i64 (a : Int)] w fun e w' => e = .returned (.func (.func 70) #[] #[.pointer (some ⟨w.heap.size + 1, 0, none⟩), .pointer (some ⟨w.heap.size, 0, none⟩)]) ∧ w' = (w.alloc (.cells #[.string s] 9)).alloc (.cells #[.int .i64 (a : Int)] 3) := by
  go_enter Tryz.func46, Tryz.ntmps46
  go_wp2
  go_ret
  exact ⟨rfl, rfl⟩

end Go.Proofs.YtpedljmpobhimaaGreatDoor
