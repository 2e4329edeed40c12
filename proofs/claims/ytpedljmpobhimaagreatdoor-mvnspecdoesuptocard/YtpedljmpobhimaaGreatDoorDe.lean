/-
  Walks: the iterator over a text's tokens, for every loop body that keeps its box.
-/
import Derived.Test.YtpedljmpobhimaaGreatDoorDd
namespace Go.Proofs.YtpedljmpobhimaaGreatDoor
open Go.RowKit Go.Shelf
set_option linter.unusedVariables false

attribute [local go_sem] Oper.semAt_some

/-- What is left behind a place. -/
def restS (l : List UInt8) (d : Bool) (k : Nat) : List Tok := if k ≤ l.length then splitD d (l.drop k) else []
theorem tok_parts (d : Bool) (l : List UInt8) (b : Bool) : ∃ nn tt, tokV (tokL false l b) = .agg #[.bool false, .bool nn, .string (ofL tt)] ∧ tokL d l b = ⟨d, nn, tt⟩ := by
  unfold tokL tokV
  cases numB l
  · exact ⟨false, _, rfl, rfl⟩
  · exact ⟨true, _, rfl, rfl⟩
theorem drop_seg (l : List UInt8) (k : Nat) : (l.drop k).take (tkN (l.drop k)) = seg l k (k + tkN (l.drop k)) := by
  unfold seg
  rw [List.take_drop]
theorem head_drop (l : List UInt8) (e : Nat) (h : l.length ≤ e) : ((l.drop e).head? == some 45) = false := by
  rw [List.drop_eq_nil_of_le h]; rfl
theorem restS_end (l : List UInt8) (d : Bool) (k : Nat) (hk : k ≤ l.length) (he : k + tkN (l.drop k) = l.length) : restS l d k = tokL d (seg l k (k + tkN (l.drop k))) false :: [] := by
  unfold restS
  rw [if_pos hk, splitD_end d (l.drop k) (by rw [List.drop_drop, List.drop_eq_nil_of_le (by omega)]), drop_seg]
theorem restS_mark (l : List UInt8) (hok : ∀ c ∈ l, okM c = true) (d : Bool) (k : Nat) (hk : k ≤ l.length) (he : k + tkN (l.drop k) < l.length) (hm : markB l[k + tkN (l.drop k)] = true) :
    restS l d k = tokL d (seg l k (k + tkN (l.drop k))) false :: restS l (l[k + tkN (l.drop k)] == 45) (k + tkN (l.drop k) + 1) := by
  unfold restS
  rw [if_pos hk, if_pos (by omega), splitD_mark d (l.drop k) (fun c hc => hok c (List.mem_of_mem_drop hc)) l[k + tkN (l.drop k)] (l.drop (k + tkN (l.drop k) + 1)) (by rw [List.drop_drop]; exact List.drop_eq_getElem_cons he) hm, drop_seg]
theorem restS_turn (l : List UInt8) (hok : ∀ c ∈ l, okM c = true) (d : Bool) (k : Nat) (hk : k ≤ l.length) (he : k + tkN (l.drop k) < l.length) (hm : markB l[k + tkN (l.drop k)] = false) :
    0 < tkN (l.drop k) ∧ restS l d k = tokL d (seg l k (k + tkN (l.drop k))) true :: restS l true (k + tkN (l.drop k)) := by
  have := splitD_turn d (l.drop k) (fun c hc => hok c (List.mem_of_mem_drop hc)) l[k + tkN (l.drop k)] (l.drop (k + tkN (l.drop k) + 1)) (by rw [List.drop_drop]; exact List.drop_eq_getElem_cons he) hm
  refine ⟨this.1, ?_⟩
  unfold restS
  rw [if_pos hk, if_pos (by omega), this.2, drop_seg, ← List.drop_eq_getElem_cons he]
theorem tw_all (p : UInt8 → Bool) : ∀ l : List UInt8, l.length ≤ (l.takeWhile p).length → ∀ c ∈ l, p c = true
  | [], _, c, hc => by cases hc
  | x :: r, h, c, hc => by
    rw [List.takeWhile_cons] at h
    split at h
    · rename_i hx
      rcases List.mem_cons.1 hc with rfl | hc
      · exact hx
      · exact tw_all p r (by simpa using h) c hc
    · simp at h
theorem okN_all (l : List UInt8) (h : ¬ okN l < l.length) : ∀ c ∈ l, okM c = true := tw_all okM l (by unfold okN at h; omega)

set_option maxRecDepth 100000 in
set_option maxHeartbeats 4000000 in
theorem split1_in (n : Nat) (hn : 1 ≤ n) (l Bs : Nat) (s : ByteArray) (hs : s.size ≤ 64) (hok : ∀ c ∈ s.data.toList, okM c = true) (J Jx : List Tok → World → Prop) (B0 : Nat) (hJ : AbidesFrom B0 J)
    (hY : ∀ pre x W, J pre W → pre.length < (splitL s.data.toList).length → YieldAt Fence.wide (n - 1) Tryz.prog l #[tokV x] W fun e W' =>
      (e = .returned (.bool true) ∧ J (pre ++ [x]) W' ∧ One Bs W W') ∨ (e = .returned (.bool false) ∧ Jx (pre ++ [x]) W'))
    (W : World) (hBs : Boxed W Bs 9 (.string s)) (h0 : J [] W) :
    CallsIn Fence.wide n Tryz.prog 95 #[.func (.yield l) #[] #[], .pointer (some ⟨Bs, 0, none⟩)] W fun e W' => (∃ v, e = .returned v) ∧
      ((∃ ys : List Tok, ys = splitL s.data.toList ∧ J ys W') ∨ (∃ pre : List Tok, pre <+: splitL s.data.toList ∧ Jx pre W')) := by
  have HK := hide hok
  clear hok
  refine callsIn_of_wp Tryz.func95 rfl trivial ?_ rfl
  simp only [Tryz.ntmps95, List.size_toArray, List.length_cons, List.length_nil, Nat.reduceAdd, Nat.reduceSub, Array.replicate_succ, Array.replicate_zero, List.push_toArray, List.append_toArray, List.nil_append, List.cons_append]
  gi_wp2
  gi_loopw [3, 4] (fun x y wr => ∃ (k : Nat) (d : Bool) (pre : List Tok), k ≤ s.size + 1 ∧ x = .bool d ∧ y = .int .i64 k ∧ J pre wr ∧ Boxed wr Bs 9 (.string s) ∧ Hid (splitL s.data.toList = pre ++ restS s.data.toList d k))
    (fun _ y _ => s.size + 2 - (intOf y).toNat)
  case atStart => exact ⟨0, false, [], by omega, rfl, rfl, h0, hBs, rfl⟩
  case round =>
    obtain ⟨k, d, pre, hk, rfl, rfl, hJs, bS, HR⟩ := hrel
    have cS := bS.cell
    by_cases hks : k ≤ s.size
    · have hks' : (k : Int) ≤ (s.size : Int) := by omega
      have hkl : k ≤ s.data.toList.length := by rw [len_data]; exact hks
      have CE := hide (fun w => tokenEnd_any s k w (by unfold maxLen; omega) hks)
      have HE0 := hide (restS_end s.data.toList d k hkl)
      have HM0 := hide (restS_mark s.data.toList HK.out d k hkl)
      have HT0 := hide (restS_turn s.data.toList HK.out d k hkl)
      have hel : k + tkN (s.data.toList.drop k) ≤ s.size := by have := tkN_le (s.data.toList.drop k); rw [List.length_drop, len_data] at this; omega
      have hke : k ≤ k + tkN (s.data.toList.drop k) := by omega
      have HTP : Hid (0 < tkN (s.data.toList.drop k) → k < k + tkN (s.data.toList.drop k)) := by intro h; omega
      generalize k + tkN (s.data.toList.drop k) = e at *
      have HE0 := hide (HE0.out)
      by_cases hes : e < s.size
      · have hes' : (e : Int) < (s.size : Int) := by omega
        have hel' : e < s.data.toList.length := by rw [len_data]; exact hes
        have hse : s.data.toList[e] = s[e] := rfl
        have CM := hide (fun w => isMark_any s[e] w)
        cases hmk : markB s[e]
        · obtain ⟨hp0, hS0⟩ := HT0.out hel' (by rw [hse]; exact hmk)
          have hkle := HTP.out hp0
          have HS := hide hS0
          clear hS0 hp0 HE0 HM0 HT0
          rw [hmk] at CM
          obtain ⟨nn, tt, hTV, hTD⟩ : ∃ nn tt, tokV (tokL false (seg s.data.toList k e) true) = .agg #[.bool false, .bool nn, .string (ofL tt)] ∧ tokL d (seg s.data.toList k e) true = ⟨d, nn, tt⟩ := tok_parts d _ _
          have CT := fun w => token_any (s.extract k e) true w (by rw [extract_seg, ofL_size, seg_len _ _ _ (by rw [len_data]; omega)]; omega)
          rw [extract_data, hTV] at CT
          have CT := hide CT
          have Y0 := hY pre ⟨d, nn, tt⟩
          unfold tokV at Y0
          dsimp only at Y0
          have Y0 := hide Y0
          have HX := hide hTD
          clear hTV hTD
          have HLT : Hid (pre.length < (splitL s.data.toList).length) := by show _ < _; rw [HR.out, HS.out]; simp
          generalize ofL tt = T at *
          gi_wp2
          refine ⟨trivial, (callsIn_wide.2 (CE.out _)).mono ?_⟩
          rintro e' w' ⟨rfl, hw'⟩
          rw [hw']; clear hw' w'
          gi_wp2
          refine ⟨trivial, (callsIn_wide.2 (CM.out _)).mono ?_⟩
          rintro e' w' ⟨rfl, hw'⟩
          rw [hw']; clear hw' w'
          gi_wp2
          refine ⟨trivial, (callsIn_wide.2 (CT.out _)).mono ?_⟩
          rintro e' w1 ⟨rfl, b1⟩
          have hJ1 : J pre (w1.alloc (.cells #[.bool d, .bool nn, .string T] 91)) := hJ pre wr _ none hJs (below_grown (b1.alloc b1.size _)) (fun r e => by cases e)
          have bS1 : Boxed (w1.alloc (.cells #[.bool d, .bool nn, .string T] 91)) Bs 9 (.string s) := ((b1.alloc b1.size _).block Bs bS.lt).trans bS
          obtain ⟨fn, tmps, assign, body, hy, hR⟩ := Y0.out _ hJ1 HLT.out
          gi_wp2
          refine hR.mono ?_
          rintro e' W5 (⟨rfl, hJ5, hO⟩ | ⟨rfl, hJx5⟩)
          · have bS5 : Boxed W5 Bs 9 (.string s) := Eq.trans hO bS1
            have cS5 := bS5.cell
            gi_wp2
            go_roundw
            case rel => exact ⟨e, true, pre ++ [⟨d, nn, tt⟩], by omega, rfl, rfl, hJ5, bS5, by show _ = _; rw [HR.out, HS.out, HX.out]; simp⟩
            case measure => simp [intOf]; omega
          · gi_wp2
            refine bodyPost_ret (results_none rfl _ _ _) rfl ?_
            exact ⟨⟨_, rfl⟩, .inr ⟨pre ++ [⟨d, nn, tt⟩], by rw [HR.out, HS.out, HX.out]; exact ⟨_, by simp; rfl⟩, hJx5⟩⟩
        · have HS := hide (HM0.out hel' (by rw [hse]; exact hmk))
          clear HE0 HM0 HT0
          rw [hmk] at CM
          have CP := fun w => dash_any (s.data.toList.drop e) w
          have hhd : ((s.data.toList.drop e).head? == some 45) = (s[e] == 45) := by rw [List.drop_eq_getElem_cons hel']; rfl
          rw [hhd, ← extract_end] at CP
          have CP := hide CP
          clear hhd
          have HE : Hid (restS s.data.toList (s.data.toList[e] == 45) (e + 1) = restS s.data.toList (s[e] == 45) (e + 1)) := rfl
          generalize (s[e] == 45) = D1 at *
          obtain ⟨nn, tt, hTV, hTD⟩ : ∃ nn tt, tokV (tokL false (seg s.data.toList k e) false) = .agg #[.bool false, .bool nn, .string (ofL tt)] ∧ tokL d (seg s.data.toList k e) false = ⟨d, nn, tt⟩ := tok_parts d _ _
          have CT := fun w => token_any (s.extract k e) false w (by rw [extract_seg, ofL_size, seg_len _ _ _ (by rw [len_data]; omega)]; omega)
          rw [extract_data, hTV] at CT
          have CT := hide CT
          have Y0 := hY pre ⟨d, nn, tt⟩
          unfold tokV at Y0
          dsimp only at Y0
          have Y0 := hide Y0
          have HX := hide hTD
          clear hTV hTD
          have HLT : Hid (pre.length < (splitL s.data.toList).length) := by show _ < _; rw [HR.out, HS.out]; simp
          generalize ofL tt = T at *
          gi_wp2
          refine ⟨trivial, (callsIn_wide.2 (CE.out _)).mono ?_⟩
          rintro e' w' ⟨rfl, hw'⟩
          rw [hw']; clear hw' w'
          gi_wp2
          refine ⟨trivial, (callsIn_wide.2 (CM.out _)).mono ?_⟩
          rintro e' w' ⟨rfl, hw'⟩
          rw [hw']; clear hw' w'
          gi_wp2
          refine ⟨trivial, (callsIn_wide.2 (CT.out _)).mono ?_⟩
          rintro e' w1 ⟨rfl, b1⟩
          have hJ1 : J pre (w1.alloc (.cells #[.bool d, .bool nn, .string T] 91)) := hJ pre wr _ none hJs (below_grown (b1.alloc b1.size _)) (fun r e => by cases e)
          have bS1 : Boxed (w1.alloc (.cells #[.bool d, .bool nn, .string T] 91)) Bs 9 (.string s) := ((b1.alloc b1.size _).block Bs bS.lt).trans bS
          obtain ⟨fn, tmps, assign, body, hy, hR⟩ := Y0.out _ hJ1 HLT.out
          gi_wp2
          refine hR.mono ?_
          rintro e' W5 (⟨rfl, hJ5, hO⟩ | ⟨rfl, hJx5⟩)
          · have bS5 : Boxed W5 Bs 9 (.string s) := Eq.trans hO bS1
            have cS5 := bS5.cell
            gi_wp2
            refine ⟨trivial, (callsIn_wide.2 (CP.out _)).mono ?_⟩
            rintro e' w' ⟨rfl, hw'⟩
            rw [hw']; clear hw' w'
            gi_wp2
            go_roundw
            case rel => exact ⟨e + 1, D1, pre ++ [⟨d, nn, tt⟩], by omega, rfl, by go_num, hJ5, bS5, by show _ = _; rw [HR.out, HS.out, HX.out, HE.out]; simp⟩
            case measure => simp [intOf]; omega
          · gi_wp2
            refine bodyPost_ret (results_none rfl _ _ _) rfl ?_
            exact ⟨⟨_, rfl⟩, .inr ⟨pre ++ [⟨d, nn, tt⟩], by rw [HR.out, HS.out, HX.out]; exact ⟨_, by simp; rfl⟩, hJx5⟩⟩
      · have hes' : ¬ (e : Int) < (s.size : Int) := by omega
        obtain rfl : e = s.size := by omega
        have HS := hide (HE0.out (len_data s).symm)
        clear HE0 HM0 HT0
        have CP : Hid (∀ w, Calls Tryz.prog 98 #[.string ByteArray.empty, .string ⟨#[45]⟩] w fun e w' => e = .returned (.bool false) ∧ w' = w) := fun w => dash_any [] w
        have HE : Hid (restS s.data.toList false (s.size + 1) = []) := by show _ = _; unfold restS; rw [if_neg (by rw [len_data]; omega)]
        obtain ⟨nn, tt, hTV, hTD⟩ : ∃ nn tt, tokV (tokL false (seg s.data.toList k s.size) false) = .agg #[.bool false, .bool nn, .string (ofL tt)] ∧ tokL d (seg s.data.toList k s.size) false = ⟨d, nn, tt⟩ := tok_parts d _ _
        have CT := fun w => token_any (s.extract k s.size) false w (by rw [extract_seg, ofL_size, seg_len _ _ _ (by rw [len_data]; omega)]; omega)
        rw [extract_data, hTV] at CT
        have CT := hide CT
        have Y0 := hY pre ⟨d, nn, tt⟩
        unfold tokV at Y0
        dsimp only at Y0
        have Y0 := hide Y0
        have HX := hide hTD
        clear hTV hTD
        have HLT : Hid (pre.length < (splitL s.data.toList).length) := by show _ < _; rw [HR.out, HS.out]; simp
        generalize ofL tt = T at *
        gi_wp2
        refine ⟨trivial, (callsIn_wide.2 (CE.out _)).mono ?_⟩
        rintro e' w' ⟨rfl, hw'⟩
        rw [hw']; clear hw' w'
        gi_wp2
        refine ⟨trivial, ?_⟩
        gi_wp2
        refine ⟨trivial, (callsIn_wide.2 (CT.out _)).mono ?_⟩
        rintro e' w1 ⟨rfl, b1⟩
        have hJ1 : J pre (w1.alloc (.cells #[.bool d, .bool nn, .string T] 91)) := hJ pre wr _ none hJs (below_grown (b1.alloc b1.size _)) (fun r e => by cases e)
        have bS1 : Boxed (w1.alloc (.cells #[.bool d, .bool nn, .string T] 91)) Bs 9 (.string s) := ((b1.alloc b1.size _).block Bs bS.lt).trans bS
        obtain ⟨fn, tmps, assign, body, hy, hR⟩ := Y0.out _ hJ1 HLT.out
        gi_wp2
        refine hR.mono ?_
        rintro e' W5 (⟨rfl, hJ5, hO⟩ | ⟨rfl, hJx5⟩)
        · have bS5 : Boxed W5 Bs 9 (.string s) := Eq.trans hO bS1
          have cS5 := bS5.cell
          gi_wp2
          refine ⟨trivial, (callsIn_wide.2 (CP.out _)).mono ?_⟩
          rintro e' w' ⟨rfl, hw'⟩
          rw [hw']; clear hw' w'
          gi_wp2
          go_roundw
          case rel => exact ⟨s.size + 1, false, pre ++ [⟨d, nn, tt⟩], by omega, rfl, by go_num, hJ5, bS5, by show _ = _; rw [HR.out, HS.out, HX.out, HE.out]; simp⟩
          case measure => simp [intOf]; omega
        · gi_wp2
          refine bodyPost_ret (results_none rfl _ _ _) rfl ?_
          exact ⟨⟨_, rfl⟩, .inr ⟨pre ++ [⟨d, nn, tt⟩], by rw [HR.out, HS.out, HX.out]; exact ⟨_, by simp; rfl⟩, hJx5⟩⟩
    · have hks' : ¬ (k : Int) ≤ (s.size : Int) := by omega
      have HX : Hid (restS s.data.toList d k = []) := by show _ = _; unfold restS; rw [if_neg (by rw [len_data]; exact hks)]
      gi_wp2
      go_end0
      exact ⟨⟨_, rfl⟩, .inl (by rw [HR.out, HX.out, List.append_nil]; exact hJs)⟩

theorem split_stops (n : Nat) (hn : 1 ≤ n) (Bs : Nat) (s : ByteArray) (hs : s.size ≤ 64) (hok : ∀ c ∈ s.data.toList, okM c = true) (w : World) (hBs : Boxed w Bs 9 (.string s)) :
    SeqStopsK Fence.wide n Tryz.prog 95 #[.pointer (some ⟨Bs, 0, none⟩)] (fun x : Tok => #[tokV x]) (One Bs) (fun ys => ys = splitL s.data.toList) (fun pre => pre <+: splitL s.data.toList) (splitL s.data.toList).length w := fun l J Jx W hW hJ _ hY h0 =>
  split1_in n hn l Bs s hs hok J Jx W.heap.size hJ hY W ((hW.block Bs hBs.lt).trans hBs) h0

theorem split_any (s : ByteArray) (w : World) :
    Calls Tryz.prog 79 #[.string s] w fun e w' => e = .returned (.func (.func 95) #[] #[.pointer (some ⟨w.heap.size, 0, none⟩)]) ∧ w' = w.alloc (.cells #[.string s] 9) := by
  go_enter Tryz.func79, Tryz.ntmps79
  go_wp2
  go_ret
  exact ⟨rfl, rfl⟩

end Go.Proofs.YtpedljmpobhimaaGreatDoor
