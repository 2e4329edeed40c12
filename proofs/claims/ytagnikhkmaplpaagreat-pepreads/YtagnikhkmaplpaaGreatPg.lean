/-
  Walks: the iterator over runs of a class with separators between.
-/
import Derived.Test.YtagnikhkmaplpaaGreatPf
namespace Go.Proofs.YtagnikhkmaplpaaGreat
open Go.RowKit Go.Shelf
set_option linter.unusedVariables false

attribute [local go_sem] Oper.semAt_some

/-- Runs of a class from a place on, each with where it begins and ends; between two stands one separator. -/
def runsL (l : List UInt8) (k : Int) (seps : List UInt8) (a : Nat) : List (Nat × Nat) :=
  if runL k (l.drop a) = 0 then [] else
    (a, a + runL k (l.drop a)) :: if h : ∃ c, l[a + runL k (l.drop a)]? = some c ∧ seps.contains c = true then runsL l k seps (a + runL k (l.drop a) + 1) else []
  termination_by l.length - a
  decreasing_by
    obtain ⟨c, hc, _⟩ := h
    have := (List.getElem?_eq_some_iff.1 hc).1
    omega
theorem runs_none (l : List UInt8) (k : Int) (seps : List UInt8) (a : Nat) (h : runL k (l.drop a) = 0) : runsL l k seps a = [] := by
  rw [runsL, if_pos h]
theorem runs_more (l : List UInt8) (k : Int) (seps : List UInt8) (a e : Nat) (he : a + runL k (l.drop a) = e) (hn : e ≠ a) (c : UInt8) (hc : l[e]? = some c) (hs : seps.contains c = true) : runsL l k seps a = (a, e) :: runsL l k seps (e + 1) := by
  subst he
  rw [runsL, if_neg (by omega), dif_pos ⟨c, hc, hs⟩]
theorem runs_last (l : List UInt8) (k : Int) (seps : List UInt8) (a e : Nat) (he : a + runL k (l.drop a) = e) (hn : e ≠ a) (h : ∀ c, l[e]? = some c → seps.contains c = false) : runsL l k seps a = [(a, e)] := by
  subst he
  rw [runsL, if_neg (by omega), dif_neg]
  rintro ⟨c, hc, hs⟩
  rw [h c hc] at hs
  cases hs
theorem runs_len (l : List UInt8) (k : Int) (seps : List UInt8) : ∀ (n a : Nat), l.length - a = n → (runsL l k seps a).length ≤ l.length - a := by
  intro n
  induction n using Nat.strongRecOn with
  | _ n ih =>
    intro a hn
    by_cases h0 : runL k (l.drop a) = 0
    · rw [runs_none l k seps a h0]; simp
    · have hle := runL_le k (l.drop a)
      rw [List.length_drop] at hle
      by_cases h : ∃ c, l[a + runL k (l.drop a)]? = some c ∧ seps.contains c = true
      · obtain ⟨c, hc, hs⟩ := h
        have hlt := (List.getElem?_eq_some_iff.1 hc).1
        rw [runs_more l k seps a _ rfl (by omega) c hc hs]
        have := ih (l.length - (a + runL k (l.drop a) + 1)) (by omega) (a + runL k (l.drop a) + 1) rfl
        simp only [List.length_cons]
        omega
      · rw [runs_last l k seps a _ rfl (by omega) (fun c hc => by
          cases hs : seps.contains c
          · rfl
          · exact absurd ⟨c, hc, hs⟩ h)]
        simp only [List.length_cons, List.length_nil]
        omega

/-- What a round that goes on keeps: three blocks. -/
def Three (b c d : Nat) (W W' : World) : Prop := W'.heap[b]? = W.heap[b]? ∧ W'.heap[c]? = W.heap[c]? ∧ W'.heap[d]? = W.heap[d]?
theorem Three.refl (b c d : Nat) (W : World) : Three b c d W W := ⟨rfl, rfl, rfl⟩
theorem Three.trans {b c d : Nat} {A B C : World} (h : Three b c d A B) (k : Three b c d B C) : Three b c d A C := ⟨k.1.trans h.1, k.2.1.trans h.2.1, k.2.2.trans h.2.2⟩
theorem three_b {b c d : Nat} {w : World} (hb : b < w.heap.size) (hc : c < w.heap.size) (hd : d < w.heap.size) : ∀ (W : World) (l : Nat) (o o' : Obj), w.heap.size ≤ l → W.heap[l]? = some o → o.isCells = false → o.isWalk = false → Three b c d W (W.putObj l o') :=
  fun W l o o' hl _ _ _ => ⟨World.putObj_heap_other (by omega), World.putObj_heap_other (by omega), World.putObj_heap_other (by omega)⟩

theorem index_in : ∀ (seps : List UInt8) (c : UInt8), (0 ≤ Lib.indexByte seps c) ↔ seps.contains c = true
  | [], c => by simp [Lib.indexByte]
  | d :: r, c => by
    have ih := index_in r c
    have hge := Lib.indexByte_ge r c
    unfold Lib.indexByte
    by_cases hd : (d == c) = true
    · rw [if_pos hd]
      obtain rfl : d = c := by simpa using hd
      simp
    · rw [if_neg hd]
      have hd' : (c == d) = false := by rw [beq_eq_false_iff_ne]; rintro rfl; exact hd (by simp)
      rw [List.contains_cons, hd', Bool.false_or, ← ih]
      by_cases hi : (Lib.indexByte r c == -1) = true
      · rw [if_pos hi]
        have : Lib.indexByte r c = -1 := by simpa using hi
        rw [this]
      · rw [if_neg hi]
        have : ¬ Lib.indexByte r c = -1 := by simpa using hi
        omega
theorem at_some (s : ByteArray) (e : Nat) (h : e < s.size) : s.data.toList[e]? = some s[e] := by
  rw [List.getElem?_eq_getElem (by rw [len_data]; exact h)]; rfl
theorem at_none (s : ByteArray) (e : Nat) (h : ¬ e < s.size) : s.data.toList[e]? = none := List.getElem?_eq_none (by rw [len_data]; omega)

theorem grown_drewN (W : World) (m : Nat) : W.grownBy (W.drewN m) none := ⟨rfl, rfl, rfl, Nat.le_refl _, fun _ _ _ => rfl⟩
theorem abides_drewN {β : Type} {B : Nat} {J : β → World → Prop} (h : AbidesFrom B J) {s : β} {W : World} (hs : J s W) (m : Nat) : J s (W.drewN m) := h s W (W.drewN m) none hs (grown_drewN W m) (fun r e => by cases e)
theorem boxed_drewN {W : World} {B : Nat} {t : TypeId} {v : Value} (h : Boxed W B t v) (m : Nat) : Boxed (W.drewN m) B t v := h.kept (grown_drewN W m) (by simp)

set_option maxRecDepth 100000 in
set_option maxHeartbeats 2000000 in
theorem runs1_in (n : Nat) (hn : 1 ≤ n) (l Ba Bs Bc Bp : Nat) (s p : ByteArray) (a : Nat) (kc : Int) (ha : a ≤ s.size) (hs : s.size ≤ 64) (J Jx : List (Nat × Nat) → World → Prop) (B0 : Nat) (hJ : AbidesFrom B0 J)
    (hY : ∀ pre x W, J pre W → pre.length < (runsL s.data.toList kc p.data.toList a).length → YieldAt Fence.wide (n - 1) Tryz.prog l #[.string (s.extract x.1 x.2), .int .i64 (x.2 : Int)] W fun e W' =>
      (e = .returned (.bool true) ∧ J (pre ++ [x]) W' ∧ Three Bs Bc Bp W W') ∨ (e = .returned (.bool false) ∧ Jx (pre ++ [x]) W'))
    (W : World) (hBa : Boxed W Ba 3 (.int .i64 (a : Int))) (hBs : Boxed W Bs 9 (.string s)) (hBc : Boxed W Bc 3 (.int .i64 kc)) (hBp : Boxed W Bp 9 (.string p)) (h0 : J [] W) :
    CallsIn Fence.wide n Tryz.prog 106 #[.func (.yield l) #[] #[], .pointer (some ⟨Ba, 0, none⟩), .pointer (some ⟨Bs, 0, none⟩), .pointer (some ⟨Bc, 0, none⟩), .pointer (some ⟨Bp, 0, none⟩)] W fun e W' => (∃ v, e = .returned v) ∧
      ((∃ ys, ys = runsL s.data.toList kc p.data.toList a ∧ J ys W') ∨ (∃ pre, pre <+: runsL s.data.toList kc p.data.toList a ∧ Jx pre W')) := by
  have cA0 := hBa.cell
  refine callsIn_of_wp Tryz.func106 rfl trivial ?_ rfl
  simp only [Tryz.ntmps106, List.size_toArray, List.length_cons, List.length_nil, Nat.reduceAdd, Nat.reduceSub, Array.replicate_succ, Array.replicate_zero, List.push_toArray, List.append_toArray, List.nil_append, List.cons_append]
  gi_wp2
  gi_loopw [6] (fun i wr => ∃ (k : Nat) (pre : List (Nat × Nat)), k ≤ s.size ∧ i = .int .i64 k ∧ J pre wr ∧ Boxed wr Bs 9 (.string s) ∧ Boxed wr Bc 3 (.int .i64 kc) ∧ Boxed wr Bp 9 (.string p) ∧
      Hid (runsL s.data.toList kc p.data.toList a = pre ++ runsL s.data.toList kc p.data.toList k))
    (fun i _ => s.size - (intOf i).toNat)
  case atStart => exact ⟨a, [], ha, rfl, h0, hBs, hBc, hBp, rfl⟩
  case round =>
    obtain ⟨k, pre, hk, rfl, hJs, bS, bC, bP, HR⟩ := hrel
    have cS := bS.cell
    have cC := bC.cell
    have cP := bP.cell
    have hle := runL_drop_le kc s k hk
    have C := Run_any s (k : Int) kc wr (by unfold maxLen; omega)
    rw [runI_in s k kc hk] at C
    have HN := hide (runs_none s.data.toList kc p.data.toList k)
    have HM := hide (runs_more s.data.toList kc p.data.toList k)
    have HL := hide (runs_last s.data.toList kc p.data.toList k)
    have hke : k ≤ k + runL kc (s.data.toList.drop k) := by omega
    have hcast : (k : Int) + (runL kc (s.data.toList.drop k) : Int) = ((k + runL kc (s.data.toList.drop k) : Nat) : Int) := by omega
    rw [hcast] at C
    clear hcast
    have HE : Hid (∀ e, k + runL kc (s.data.toList.drop k) = e → (e = k ↔ runL kc (s.data.toList.drop k) = 0)) := by intro e he; omega
    generalize he : k + runL kc (s.data.toList.drop k) = e at *
    have HC := hide C
    have HE2 := hide (HE.out e rfl)
    have HHe := hide he
    clear C HE he
    by_cases hek : e = k
    · have HX := hide (HN.out (HE2.out.1 hek))
      have hb : ((e : Int) == (k : Int)) = true := by simp [hek]
      clear hek
      gi_wp2_with (refine ⟨trivial, ?_⟩; gi_at_call 79; refine (callsIn_wide.2 HC.out).mono ?_; rintro e w' ⟨rfl, hw'⟩; rw [hw']; clear hw' w')
      refine ⟨fun _ h => (by cases h), ?_⟩
      gi_wp2
      refine bodyPost_ret (results_none rfl _ _ _) rfl ?_
      exact ⟨⟨_, rfl⟩, .inl ⟨pre, by rw [HR.out, HX.out]; simp, hJs⟩⟩
    · have hb : ((e : Int) == (k : Int)) = false := by rw [beq_eq_false_iff_ne]; omega
      by_cases hlt : e < s.size
      · have hne : ((e : Int) == (s.size : Int)) = false := by rw [beq_eq_false_iff_ne]; omega
        have hc : ((s[e].toNat : Int)).toNat.toUInt8 = s[e] := by simp
        have hI := fun W => IndexByteS_any p (s[e].toNat : Int) W
        rw [hc] at hI
        have hin := index_in p.data.toList s[e]
        have HI := hide hI
        clear hI hc
        generalize Lib.indexByte p.data.toList s[e] = ix at *
        cases hcon : p.data.toList.contains s[e]
        · rw [hcon] at hin
          have hix : ¬ 0 ≤ ix := fun h => by have := hin.1 h; cases this
          have hix' : ix < 0 := by omega
          have HX := hide (HL.out e rfl hek (fun c hc => by rw [at_some s e hlt] at hc; cases hc; exact hcon))
          clear hin hcon hix
          obtain ⟨fn, tmps, assign, body, hy, hR⟩ := hY pre (k, e) wr hJs (by rw [HR.out, HX.out]; simp)
          dsimp only at hy
          gi_wp2_with (refine ⟨trivial, ?_⟩; gi_at_call 79; refine (callsIn_wide.2 HC.out).mono ?_; rintro e w' ⟨rfl, hw'⟩; rw [hw']; clear hw' w')
          refine hR.mono ?_
          rintro e' W3 (⟨rfl, hJ3, hk3⟩ | ⟨rfl, hJx3⟩)
          · have bS3 : Boxed W3 Bs 9 (.string s) := hk3.1.trans bS
            have bC3 : Boxed W3 Bc 3 (.int .i64 kc) := hk3.2.1.trans bC
            have bP3 : Boxed W3 Bp 9 (.string p) := hk3.2.2.trans bP
            clear cS cC cP
            have cS := bS3.cell
            have cC := bC3.cell
            have cP := bP3.cell

            gi_wp2
            refine wpIn_wide.2 ?_
            go_quiet ((go_at_call 107; exact Calls.quiet_of_same (HI.out _)))
            gi_wp2
            refine bodyPost_ret (results_none rfl _ _ _) rfl ?_
            exact ⟨⟨_, rfl⟩, .inl ⟨pre ++ [(k, e)], by rw [HR.out, HX.out], abides_drewN hJ hJ3 _⟩⟩
          · gi_wp2
            refine bodyPost_ret (results_none rfl _ _ _) rfl ?_
            exact ⟨⟨_, rfl⟩, .inr ⟨pre ++ [(k, e)], by rw [HR.out, HX.out]; exact List.prefix_refl _, hJx3⟩⟩

        · rw [hcon] at hin
          have hix : 0 ≤ ix := hin.2 rfl
          have hix' : ¬ ix < 0 := by omega
          have HX := hide (HM.out e rfl hek s[e] (at_some s e hlt) hcon)
          clear hin hcon hix
          obtain ⟨fn, tmps, assign, body, hy, hR⟩ := hY pre (k, e) wr hJs (by rw [HR.out, HX.out]; simp)
          dsimp only at hy
          gi_wp2_with (refine ⟨trivial, ?_⟩; gi_at_call 79; refine (callsIn_wide.2 HC.out).mono ?_; rintro e w' ⟨rfl, hw'⟩; rw [hw']; clear hw' w')
          refine hR.mono ?_
          rintro e' W3 (⟨rfl, hJ3, hk3⟩ | ⟨rfl, hJx3⟩)
          · have bS3 : Boxed W3 Bs 9 (.string s) := hk3.1.trans bS
            have bC3 : Boxed W3 Bc 3 (.int .i64 kc) := hk3.2.1.trans bC
            have bP3 : Boxed W3 Bp 9 (.string p) := hk3.2.2.trans bP
            clear cS cC cP
            have cS := bS3.cell
            have cC := bC3.cell
            have cP := bP3.cell

            gi_wp2
            refine wpIn_wide.2 ?_
            go_quiet ((go_at_call 107; exact Calls.quiet_of_same (HI.out _)))
            gi_wp2
            go_roundw
            case rel => exact ⟨e + 1, pre ++ [(k, e)], by omega, by go_num, abides_drewN hJ hJ3 _, boxed_drewN bS3 _, boxed_drewN bC3 _, boxed_drewN bP3 _, by rw [HR.out, HX.out]; simp [Hid]⟩
            case measure => simp [intOf]; omega
          · gi_wp2
            refine bodyPost_ret (results_none rfl _ _ _) rfl ?_
            exact ⟨⟨_, rfl⟩, .inr ⟨pre ++ [(k, e)], by rw [HR.out, HX.out]; exact ⟨_, by simp; rfl⟩, hJx3⟩⟩

      · have hne : ((e : Int) == (s.size : Int)) = true := by simp; omega
        have HX := hide (HL.out e rfl hek (fun c hc => by rw [at_none s e hlt] at hc; cases hc))
        obtain ⟨fn, tmps, assign, body, hy, hR⟩ := hY pre (k, e) wr hJs (by rw [HR.out, HX.out]; simp)
        dsimp only at hy
        gi_wp2_with (refine ⟨trivial, ?_⟩; gi_at_call 79; refine (callsIn_wide.2 HC.out).mono ?_; rintro e w' ⟨rfl, hw'⟩; rw [hw']; clear hw' w')
        refine hR.mono ?_
        rintro e' W3 (⟨rfl, hJ3, hk3⟩ | ⟨rfl, hJx3⟩)
        · have bS3 : Boxed W3 Bs 9 (.string s) := hk3.1.trans bS
          have bC3 : Boxed W3 Bc 3 (.int .i64 kc) := hk3.2.1.trans bC
          have bP3 : Boxed W3 Bp 9 (.string p) := hk3.2.2.trans bP
          clear cS cC cP
          have cS := bS3.cell
          have cC := bC3.cell
          have cP := bP3.cell

          gi_wp2
          refine wpIn_wide.2 ?_
          go_quiet (fail)
          gi_wp2
          refine bodyPost_ret (results_none rfl _ _ _) rfl ?_
          exact ⟨⟨_, rfl⟩, .inl ⟨pre ++ [(k, e)], by rw [HR.out, HX.out], abides_drewN hJ hJ3 _⟩⟩
        · gi_wp2
          refine bodyPost_ret (results_none rfl _ _ _) rfl ?_
          exact ⟨⟨_, rfl⟩, .inr ⟨pre ++ [(k, e)], by rw [HR.out, HX.out]; exact List.prefix_refl _, hJx3⟩⟩

theorem runs_stops (n : Nat) (hn : 1 ≤ n) (Ba Bs Bc Bp : Nat) (s p : ByteArray) (a : Nat) (kc : Int) (ha : a ≤ s.size) (hs : s.size ≤ 64) (w : World) (hBa : Boxed w Ba 3 (.int .i64 (a : Int))) (hBs : Boxed w Bs 9 (.string s)) (hBc : Boxed w Bc 3 (.int .i64 kc)) (hBp : Boxed w Bp 9 (.string p)) :
    SeqStopsK Fence.wide n Tryz.prog 106 #[.pointer (some ⟨Ba, 0, none⟩), .pointer (some ⟨Bs, 0, none⟩), .pointer (some ⟨Bc, 0, none⟩), .pointer (some ⟨Bp, 0, none⟩)] (fun x : Nat × Nat => #[Value.string (s.extract x.1 x.2), .int .i64 (x.2 : Int)]) (Three Bs Bc Bp) (fun ys => ys = runsL s.data.toList kc p.data.toList a) (fun pre => pre <+: runsL s.data.toList kc p.data.toList a) (runsL s.data.toList kc p.data.toList a).length w := fun l J Jx W hW hJ _ hY h0 =>
  runs1_in n hn l Ba Bs Bc Bp s p a kc ha hs J Jx W.heap.size hJ hY W ((hW.block Ba hBa.lt).trans hBa) ((hW.block Bs hBs.lt).trans hBs) ((hW.block Bc hBc.lt).trans hBc) ((hW.block Bp hBp.lt).trans hBp) h0

theorem runs_any (s p : ByteArray) (a k : Int) (w : World) :
    Calls Tryz.prog 89 #[.string s, .int .i64 a, .int .i64 k, .string p] w fun e w' => e = .returned (.func (.func 106) #[] #[.pointer (some ⟨w.heap.size + 1, 0, none⟩), .pointer (some ⟨w.heap.size, 0, none⟩), .pointer (some ⟨w.heap.size + 1 + 1, 0, none⟩), .pointer (some ⟨w.heap.size + 1 + 1 + 1, 0, none⟩)]) ∧ w' = (((w.alloc (.cells #[.string s] 9)).alloc (.cells #[.int .i64 a] 3)).alloc (.cells #[.int .i64 k] 3)).alloc (.cells #[.string p] 9) := by
  go_enter Tryz.func89, Tryz.ntmps89
  go_wp2
  go_ret
  exact ⟨rfl, rfl⟩

end Go.Proofs.YtagnikhkmaplpaaGreat
