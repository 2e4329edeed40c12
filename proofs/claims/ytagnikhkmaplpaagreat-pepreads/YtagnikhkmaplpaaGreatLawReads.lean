/-
  Walks: versions of one content are the same.
-/
import Derived.Test.YtagnikhkmaplpaaGreatPq
import Derived.Test.YtagnikhkmaplpaaGreatPs
import Derived.Test.YtagnikhkmaplpaaGreatYd
import Derived.Test.YtagnikhkmaplpaaGreatPv
import Derived.ProofKit
import Derived.OpenShut
import Derived.ShutString
import Derived.ChangeOld
import Derived.Below
import Derived.SizedLaws
namespace Go.Proofs.YtagnikhkmaplpaaGreat
open Go.RowKit Go.Shelf
set_option linter.unusedVariables false

theorem eq_self (l : List UInt8) : ((ofL l).toList == (ofL l).toList) = true := by simp
set_option maxRecDepth 100000 in
set_option maxHeartbeats 8000000 in
theorem Same_true (x : PepL) (r1 r2 q1 q2 : Option Addr) (c1 c2 d1 d2 : Nat) (w : World) (ra : Txt w (.slice r1 x.rel.length c1) x.rel) (rb : Txt w (.slice r2 x.rel.length c2) x.rel) (la : Txt w (.slice q1 x.loc.length d1) x.loc) (lb : Txt w (.slice q2 x.loc.length d2) x.loc) (hs : ShortP x) :
    Calls Tryz.prog 7 #[.agg #[.string (ofL x.ep), .slice r1 x.rel.length c1, .int .u8 x.c, .string (ofL x.n), .bool x.b, .string (ofL x.m), .bool x.d, .string (ofL x.k), .slice q1 x.loc.length d1], .agg #[.string (ofL x.ep), .slice r2 x.rel.length c2, .int .u8 x.c, .string (ofL x.n), .bool x.b, .string (ofL x.m), .bool x.d, .string (ofL x.k), .slice q2 x.loc.length d2]] w fun e w' => e = .returned (.bool true) ∧ Below w.heap.size w w' := by
  have S0 : OB w x x r1 r2 q1 q2 c1 c2 d1 d2 _ := OB.start ra rb la lb
  have lr := hs.2.2.2.2.1.1
  have lo := hs.2.2.2.2.2.1
  clear ra rb la lb hs
  obtain ⟨s0, s1, s2, s3, s4, s5, s6, s7, s8, m0, m1, m2, m3, m4, m5, m6, m7, m8⟩ := S0.seen
  have HS := hide S0
  clear S0
  go_enter Tryz.func7, Tryz.ntmps7
  go_wp2_with fail
  generalize (w.alloc (.cells #[.string (ofL x.ep), .slice r1 x.rel.length c1, .int .u8 x.c, .string (ofL x.n), .bool x.b, .string (ofL x.m), .bool x.d, .string (ofL x.k), .slice q1 x.loc.length d1] 24)).alloc (.cells #[.string (ofL x.ep), .slice r2 x.rel.length c2, .int .u8 x.c, .string (ofL x.n), .bool x.b, .string (ofL x.m), .bool x.d, .string (ofL x.k), .slice q2 x.loc.length d2] 24) = W0 at *
  clear s0 s1 s2 s3 s4 s5 s6 s7 s8 m0 m1 m2 m3 m4 m5 m6 m7 m8
  go_loopw [5] (fun i wr => ∃ j : Nat, j ≤ x.rel.length ∧ i = .int .i64 j ∧ Hid (OB w x x r1 r2 q1 q2 c1 c2 d1 d2 wr)) (fun i _ => x.rel.length - (intOf i).toNat)
  case atStart => exact ⟨0, by omega, rfl, HS⟩
  case round =>
    clear HS
    obtain ⟨j, hj, rfl, HO⟩ := hrel
    obtain ⟨s0, s1, s2, s3, s4, s5, s6, s7, s8, m0, m1, m2, m3, m4, m5, m6, m7, m8⟩ := HO.out.seen
    clear s0 s2 s3 s4 s5 s6 s7 m0 m2 m3 m4 m5 m6 m7
    by_cases hlt : j < x.rel.length
    · have hlt' : (j : Int) < (x.rel.length : Int) := by omega
      have hj0 : (0 : Int) ≤ (j : Int) := by omega
      obtain ⟨b1, o1, rfl, hc1⟩ := HO.out.ra.some (by omega)
      obtain ⟨b2, o2, rfl, hc2⟩ := HO.out.rb.some (by omega)
      have p1 := hc1 j hlt
      have p2 := hc2 j hlt
      clear hc1 hc2
      have he := eq_self x.rel[j]
      generalize x.rel[j] = t at *
      go_wp2_with fail
      go_quiet (fail)
      go_wp2_with fail
      go_roundw
      case rel => exact ⟨j + 1, by omega, by go_num, HO.out.next (below_drewN _ _ _)⟩
      case measure => simp [intOf]; omega
    · obtain rfl : j = x.rel.length := by omega
      have hlt' : ¬ (x.rel.length : Int) < (x.rel.length : Int) := by omega
      go_wp2_with fail
      clear s1 s8 m1 m8
      go_loopw [6] (fun i wr => ∃ j : Nat, j ≤ x.loc.length ∧ i = .int .i64 j ∧ Hid (OB w x x r1 r2 q1 q2 c1 c2 d1 d2 wr)) (fun i _ => x.loc.length - (intOf i).toNat)
      case atStart => exact ⟨0, by omega, rfl, HO⟩
      case round =>
        clear HO
        obtain ⟨j, hj, rfl, HO⟩ := hrel
        obtain ⟨s0, s1, s2, s3, s4, s5, s6, s7, s8, m0, m1, m2, m3, m4, m5, m6, m7, m8⟩ := HO.out.seen
        clear s0 s2 s3 s4 s5 s6 s7 m0 m2 m3 m4 m5 m6 m7
        by_cases hlj : j < x.loc.length
        · have hlj' : (j : Int) < (x.loc.length : Int) := by omega
          have hj0 : (0 : Int) ≤ (j : Int) := by omega
          obtain ⟨b1, o1, rfl, hc1⟩ := HO.out.la.some (by omega)
          obtain ⟨b2, o2, rfl, hc2⟩ := HO.out.lb.some (by omega)
          have p1 := hc1 j hlj
          have p2 := hc2 j hlj
          clear hc1 hc2
          have he := eq_self x.loc[j]
          generalize x.loc[j] = t at *
          go_wp2_with fail
          go_quiet (fail)
          go_wp2_with fail
          go_roundw
          case rel => exact ⟨j + 1, by omega, by go_num, HO.out.next (below_drewN _ _ _)⟩
          case measure => simp [intOf]; omega
        · obtain rfl : j = x.loc.length := by omega
          have hlj' : ¬ (x.loc.length : Int) < (x.loc.length : Int) := by omega
          go_wp2_with fail
          go_ret
          exact ⟨rfl, HO.out.bel⟩

end Go.Proofs.YtagnikhkmaplpaaGreat

/-
  Proved: for any two texts, what a text is read as, and where it goes wrong, its normal form and the order of the two are in the program what they are in the document's answer, and chapter 3's examples hold: PepReads returns true and leaves its arguments as they were. No condition but the form's own reach (each string takes at most 2^47 - 4096 bytes).
-/
namespace Go.Proofs.YtagnikhkmaplpaaGreat
namespace PepReadsP
open Go.ChangeShapes Go.WideShapes Go.ChangeAt Go.RowKit
open Go.ChangeMaps (open_string shut_string)
set_option linter.unusedVariables false

theorem own : ownKnob Tryz.prog.godebug = none := by kernel_rfl

/-- What the walk asks of the answers. -/
structure Ans (s t : ByteArray) (x : PepL) (E1 E2 : Int) (N : ByteArray) (c : Int) : Prop where
  P1 : ∀ w, Calls Tryz.prog 5 #[.string s] w fun e w' => (∃ r1 c1 q1 d1, e = .returned (.tuple #[.agg #[.string (ofL x.ep), .slice r1 x.rel.length c1, .int .u8 x.c, .string (ofL x.n), .bool x.b, .string (ofL x.m), .bool x.d, .string (ofL x.k), .slice q1 x.loc.length d1], .agg #[.int .i64 E1, .int .i64 E2]]) ∧ Txt w' (.slice r1 x.rel.length c1) x.rel ∧ Txt w' (.slice q1 x.loc.length d1) x.loc) ∧ Below w.heap.size w w'
  P2 : ∀ w, Calls Tryz.prog 6 #[.string s] w fun e w' => (∃ r1 c1 q1 d1, e = .returned (.tuple #[.agg #[.string (ofL x.ep), .slice r1 x.rel.length c1, .int .u8 x.c, .string (ofL x.n), .bool x.b, .string (ofL x.m), .bool x.d, .string (ofL x.k), .slice q1 x.loc.length d1], .agg #[.int .i64 E1, .int .i64 E2]]) ∧ Txt w' (.slice r1 x.rel.length c1) x.rel ∧ Txt w' (.slice q1 x.loc.length d1) x.loc) ∧ Below w.heap.size w w'
  N1 : ∀ w, Calls Tryz.prog 8 #[.string s] w fun e w' => e = .returned (.string N) ∧ Below w.heap.size w w'
  N2 : ∀ w, Calls Tryz.prog 9 #[.string s] w fun e w' => e = .returned (.string N) ∧ Below w.heap.size w w'
  C1 : ∀ w, Calls Tryz.prog 10 #[.string s, .string t] w fun e w' => e = .returned (.int .i64 c) ∧ Below w.heap.size w w'
  C2 : ∀ w, Calls Tryz.prog 11 #[.string s, .string t] w fun e w' => e = .returned (.int .i64 c) ∧ Below w.heap.size w w'

set_option maxRecDepth 100000 in
set_option maxHeartbeats 4000000 in
theorem walk_ans (s t : ByteArray) (x : PepL) (E1 E2 : Int) (N : ByteArray) (c : Int) (w : World) (hs : ShortP x) (h : Ans s t x E1 E2 N c) :
    Calls Tryz.prog 3 #[.string s, .string t] w fun e w' => e = .returned (.bool true) ∧ Below w.heap.size w w' := by
  have P1 := hide h.P1
  have P2 := hide h.P2
  have N1 := hide h.N1
  have N2 := hide h.N2
  have C1 := hide h.C1
  have C2 := hide h.C2
  have SM := hide (fun r1 r2 q1 q2 c1 c2 d1 d2 w ra rb la lb => Same_true x r1 r2 q1 q2 c1 c2 d1 d2 w ra rb la lb hs)
  have AW := hide awake_any
  clear h hs
  go_enter Tryz.func3, Tryz.ntmps3
  go_wp2_with fail
  refine (P1.out _).mono ?_
  rintro e w1 ⟨⟨r1, c1, q1, d1, rfl, t1, t2⟩, b1⟩
  go_wp2_with fail
  refine (P2.out _).mono ?_
  rintro e w2 ⟨⟨r2, c2, q2, d2, rfl, t3, t4⟩, b2⟩
  obtain ⟨g1, g2, g3, g4, bw, bx⟩ := two_boxes b2 #[.string (ofL x.ep), .slice r2 x.rel.length c2, .int .u8 x.c, .string (ofL x.n), .bool x.b, .string (ofL x.m), .bool x.d, .string (ofL x.k), .slice q2 x.loc.length d2] #[.int .i64 E1, .int .i64 E2]
  obtain ⟨x0, x1, x2, x3, x4, x5, x6, x7, x8⟩ := seen9 g1
  obtain ⟨y0, y1, y2, y3, y4, y5, y6, y7, y8⟩ := seen9 g3
  have T1 := hide (t1.below bw)
  have T2 := hide (t2.below bw)
  have T3 := hide (t3.below bx)
  have T4 := hide (t4.below bx)
  have BB := hide (b1.trans (bw.mono b1.size))
  clear b1 b2 g1 g3 bw bx t1 t2 t3 t4
  go_wp2_with fail
  generalize (w2.alloc (.cells #[.string (ofL x.ep), .slice r2 x.rel.length c2, .int .u8 x.c, .string (ofL x.n), .bool x.b, .string (ofL x.m), .bool x.d, .string (ofL x.k), .slice q2 x.loc.length d2] 24)).alloc (.cells #[.int .i64 E1, .int .i64 E2] 27) = W at *
  clear x0 x1 x2 x3 x4 x5 x6 x7 x8 y0 y1 y2 y3 y4 y5 y6 y7 y8
  refine (SM.out r1 r2 q1 q2 c1 c2 d1 d2 _ T1.out T3.out T2.out T4.out).mono ?_
  rintro e w3 ⟨rfl, b3⟩
  have k1 : w3.heap[w1.heap.size + 1]? = _ := (b3.block _ (Array.getElem?_eq_some_iff.1 g2).1).trans g2
  have k2 : w3.heap[w2.heap.size + 1]? = _ := (b3.block _ (Array.getElem?_eq_some_iff.1 g4).1).trans g4
  have B3 := hide (BB.out.trans (b3.mono BB.out.size))
  clear T1 T2 T3 T4 BB g2 g4 b3
  have u0 := cell_at 0 k1 rfl
  have u1 := cell_at 1 k1 rfl
  have v0 := cell_at 0 k2 rfl
  have v1 := cell_at 1 k2 rfl
  clear k1 k2
  go_wp2_with fail
  refine (N1.out _).mono ?_
  rintro e w4 ⟨rfl, b4⟩
  have B4 := hide (B3.out.trans (b4.mono B3.out.size))
  clear b4 B3 u0 u1 v0 v1
  go_wp2_with fail
  refine (N2.out _).mono ?_
  rintro e w5 ⟨rfl, b5⟩
  have B5 := hide (B4.out.trans (b5.mono B4.out.size))
  clear b5 B4
  go_wp2_with fail
  refine (C1.out _).mono ?_
  rintro e w6 ⟨rfl, b6⟩
  have B6 := hide (B5.out.trans (b6.mono B5.out.size))
  clear b6 B5
  go_wp2_with fail
  refine (C2.out _).mono ?_
  rintro e w7 ⟨rfl, b7⟩
  have B7 := hide (B6.out.trans (b7.mono B6.out.size))
  clear b7 B6
  go_wp2_with fail
  refine (AW.out _).mono ?_
  rintro e w8 ⟨rfl, b8⟩
  have B8 := hide (B7.out.trans (b8.mono B7.out.size))
  clear b8 B7
  go_wp2_with fail
  go_ret
  exact ⟨rfl, B8.out⟩

theorem walk (s t : ByteArray) (hs : s.size ≤ 140737488351232) (ht : t.size ≤ 140737488351232) (w : World) :
    Calls Tryz.prog 3 #[.string s, .string t] w fun e w' => e = .returned (.bool true) ∧ Below w.heap.size w w' := by
  cases h : okP s.data.toList
  · refine walk_ans s t ⟨[], [], 0, [], false, [], false, [], []⟩ (errX s.data.toList).1 (errX s.data.toList).2 ⟨#[]⟩ (cmpT s.data.toList t.data.toList) w ?_ ⟨fun w => ?_, fun w => ?_, fun w => Normal_no s w hs h, fun w => RNormal_no s w h, fun w => CompareT_any s t w hs ht, fun w => RCompare_any s t w⟩
    · refine SmallP.short ⟨?_, ?_, ?_, ?_, ⟨?_, ?_⟩, ⟨?_, ?_⟩, by decide, by decide⟩ <;> simp
    · refine (Parse_no s w hs h).mono ?_
      rintro e w' ⟨rfl, hb⟩
      exact ⟨⟨none, 0, none, 0, rfl, ⟨none, 0, rfl, .inl rfl⟩, ⟨none, 0, rfl, .inl rfl⟩⟩, hb⟩
    · refine (RParse_no s w h).mono ?_
      rintro e w' ⟨rfl, hb⟩
      exact ⟨⟨none, 0, none, 0, rfl, ⟨none, 0, rfl, .inl rfl⟩, ⟨none, 0, rfl, .inl rfl⟩⟩, hb⟩
  · refine walk_ans s t (pepOf (lowL s.data.toList)) 0 0 (ofL (textP (pepOf (lowL s.data.toList)))) (cmpT s.data.toList t.data.toList) w ?_ ⟨fun w => ?_, fun w => ?_, fun w => Normal_ok s _ w h rfl, fun w => RNormal_ok s _ w h rfl, fun w => CompareT_any s t w hs ht, fun w => RCompare_any s t w⟩
    · exact (pep_small _ (by rw [lowL_len]; exact (low_ok h).2)).short
    · refine (Parse_ok s w h).mono ?_
      rintro e w' ⟨vr, vl, rfl, t1, t2, _, _, hb⟩
      obtain ⟨r1, c1, rfl, _⟩ := id t1
      obtain ⟨q1, d1, rfl, _⟩ := id t2
      exact ⟨⟨r1, c1, q1, d1, rfl, t1, t2⟩, hb⟩
    · refine (RParse_ok s w h).mono ?_
      rintro e w' ⟨vr, vl, rfl, t1, t2, hb⟩
      obtain ⟨r1, c1, rfl, _⟩ := id t1
      obtain ⟨q1, d1, rfl, _⟩ := id t2
      exact ⟨⟨r1, c1, q1, d1, rfl, t1, t2⟩, hb⟩

set_option maxRecDepth 100000 in
theorem lifted (os : Os) (started : os.Started) (H : Type) (enc : TypeId × Value → H) :
    ReturnsInHanded {} Tryz.checked os 3 .any (Rows.pepReadsSpec.pre6 enc Tryz.prog Tryz.f3 Rows.pepReadsRow.domain false) (Rows.pepReadsSpec.post enc Tryz.prog Tryz.f3 false true false false) := by
  refine returnsInHanded_of_change_sized (C := Tryz.checked) own started (by kernel_rfl) Tryz.func3
    (ChangeSpec.witness6 (enc := enc) (C := Tryz.checked) false ⟨#[], #[.string ByteArray.empty, .string ByteArray.empty], []⟩ 8 (by kernel_rfl) (by kernel_rfl) (by kernel_rfl) (by kernel_rfl)) ?_
  intro W base args ds gs before hval0 hW hcnd hsz0 _
  have hval : ∀ (j : Nat) t v, Tryz.f3.params[j]? = some t → args[j]? = some v → Value.okWide Tryz.prog W .any base t v := hval0
  have hsz : (DataW.weightsEach Tryz.prog (Tryz.f3.params.toList ++ Rows.pepReadsSpec.plain.varTypes Tryz.prog) (ds ++ gs)).all (· ≤ reachBytes) = true := hsz0
  have hW' := hW
  obtain ⟨p, q, hA0, hV, rfl, hfz, hnd⟩ := hW
  have hA : DataW.TrodAll enc Tryz.prog W 0 (fun _ => true) true Tryz.f3.params.toList args.toList ds p := hA0
  rw [Tryz.params3] at hA hval hsz
  obtain ⟨v0, vs0, d0, ds0, p0, q0, hargs, rfl, rfl, h0, r0⟩ := trodAll_cons hA
  obtain ⟨v1, vs1, d1, ds1, p1, q1, rfl, rfl, rfl, h1, r1⟩ := trodAll_cons r0
  obtain ⟨rfl, rfl, rfl⟩ := trodAll_nil r1
  obtain rfl : args = #[v0, v1] := by cases args; simp_all
  obtain ⟨rfl, rfl⟩ := trodVars_none hV
  obtain ⟨a0, rfl, rfl, rfl, w0⟩ := open_string Tryz.underlying9 (hval 0 9 v0 rfl rfl) h0
  have s0 : a0.data.toList.length ≤ reachBytes := sized_string hsz (j := 0) (t := 9) rfl rfl
  rw [len_data] at s0
  have s0 : a0.size ≤ 140737488351232 := s0
  obtain ⟨a1, rfl, rfl, rfl, w1⟩ := open_string Tryz.underlying9 (hval 1 9 v1 rfl rfl) h1
  have s1 : a1.data.toList.length ≤ reachBytes := sized_string hsz (j := 1) (t := 9) rfl rfl
  rw [len_data] at s1
  have s1 : a1.size ≤ 140737488351232 := s1
  clear hA0 hval0 hsz0 hsz
  refine (walk a0 a1 s0 s1 W).mono fun e W' ⟨he, bel⟩ => ?_
  subst he
  exact ⟨_, rfl, _, _, _, [], _, [], hW', trodAll_mk1 (shut_bool Tryz.underlying4 _), (trodAll_cons_mk (shut_string Tryz.underlying9 w0) (trodAll_cons_mk (shut_string Tryz.underlying9 w1) trodAll_mk0)), rfl, bel.frame _, fun h => by cases h⟩

theorem over : Rows.pepReadsRow.holds Tryz.pinned (OpenSpec.ofChange Rows.pepReadsSpec) :=
  OpenClaim.holds_of_wide 3 Tryz.f3 rfl rfl rfl rfl rfl rfl rfl ⟨rfl, rfl, rfl, rfl, rfl⟩ rfl rfl rfl rfl rfl (by kernel_rfl) Tryz.func3 (by kernel_rfl)
    (of_decide_eq_true (by kernel_rfl)) (by unfold Func.isWrapper; first | (rw [if_pos (by decide +kernel)]; kernel_rfl) | (rw [if_neg (by decide +kernel)]; exact ⟨rfl, rfl⟩))
    (fun os started H enc _ => lifted os started H enc)
end PepReadsP

theorem pepReads_holds : Rows.PepReadsSaid := PepReadsP.over
#print axioms pepReads_holds
end Go.Proofs.YtagnikhkmaplpaaGreat
