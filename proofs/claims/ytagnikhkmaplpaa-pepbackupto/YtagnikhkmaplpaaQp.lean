/-
  Walks: versions of one content are the same.
-/
import Derived.Test.YtagnikhkmaplpaaPq
import Derived.Test.YtagnikhkmaplpaaPs
namespace Go.Proofs.Ytagnikhkmaplpaa
open Go.RowKit Go.Shelf
set_option linter.unusedVariables false

theorem eq_self (l : List UInt8) : ((ofL l).toList == (ofL l).toList) = true := by simp
set_option maxRecDepth 100000 in
set_option maxHeartbeats 8000000 in
theorem Same_true (x : PepL) (r1 r2 q1 q2 : Option Addr) (c1 c2 d1 d2 : Nat) (w : World) (ra : Txt w (.slice r1 x.rel.length c1) x.rel) (rb : Txt w (.slice r2 x.rel.length c2) x.rel) (la : Txt w (.slice q1 x.loc.length d1) x.loc) (lb : Txt w (.slice q2 x.loc.length d2) x.loc) (hs : ShortP x) :
    Calls Try.prog 12 #[.agg #[.string (ofL x.ep), .slice r1 x.rel.length c1, .int .u8 x.c, .string (ofL x.n), .bool x.b, .string (ofL x.m), .bool x.d, .string (ofL x.k), .slice q1 x.loc.length d1], .agg #[.string (ofL x.ep), .slice r2 x.rel.length c2, .int .u8 x.c, .string (ofL x.n), .bool x.b, .string (ofL x.m), .bool x.d, .string (ofL x.k), .slice q2 x.loc.length d2]] w fun e w' => e = .returned (.bool true) ∧ Below w.heap.size w w' := by
  have S0 : OB w x x r1 r2 q1 q2 c1 c2 d1 d2 _ := OB.start ra rb la lb
  have lr := hs.2.2.2.2.1.1
  have lo := hs.2.2.2.2.2.1
  clear ra rb la lb hs
  obtain ⟨s0, s1, s2, s3, s4, s5, s6, s7, s8, m0, m1, m2, m3, m4, m5, m6, m7, m8⟩ := S0.seen
  have HS := hide S0
  clear S0
  go_enter Try.func12, Try.ntmps12
  go_wp2_with fail
  generalize (w.alloc (.cells #[.string (ofL x.ep), .slice r1 x.rel.length c1, .int .u8 x.c, .string (ofL x.n), .bool x.b, .string (ofL x.m), .bool x.d, .string (ofL x.k), .slice q1 x.loc.length d1] 25)).alloc (.cells #[.string (ofL x.ep), .slice r2 x.rel.length c2, .int .u8 x.c, .string (ofL x.n), .bool x.b, .string (ofL x.m), .bool x.d, .string (ofL x.k), .slice q2 x.loc.length d2] 25) = W0 at *
  clear s0 s1 s2 s3 s4 s5 s6 s7 s8 m0 m1 m2 m3 m4 m5 m6 m7 m8
  go_loopw [5] (fun i wr => ∃ j : Nat, j ≤ x.rel.length ∧ i = .int .i64 j ∧ Hid (OB w x x r1 r2 q1 q2 c1 c2 d1 d2 wr)) (fun i _ => x.rel.length - (intOf i).toNat)
  case atStart => exact ⟨0, by omega, rfl, HS⟩
  case round =>
    clear HS
    obtain ⟨j, hj, rfl, HO⟩ := hrel
    obtain ⟨s0, s1, s2, s3, s4, s5, s6, s7, s8, m0, m1, m2, m3, m4, m5, m6, m7, m8⟩ := HO.out.seen
    clear s0 s2 s3 s4 s5 s6 s7 m0 m2 m3 m4 m5 m6 m7
    by_cases hlt : j < x.rel.length
    · have hlt' : (j : Int) < (x.rel.length : Int) := by omega
      have hj0 : (0 : Int) ≤ (j : Int) := by omega
      obtain ⟨b1, o1, rfl, hc1⟩ := HO.out.ra.some (by omega)
      obtain ⟨b2, o2, rfl, hc2⟩ := HO.out.rb.some (by omega)
      have p1 := hc1 j hlt
      have p2 := hc2 j hlt
      clear hc1 hc2
      have he := eq_self x.rel[j]
      generalize x.rel[j] = t at *
      go_wp2_with fail
      go_quiet (fail)
      go_wp2_with fail
      go_roundw
      case rel => exact ⟨j + 1, by omega, by go_num, HO.out.next (below_drewN _ _ _)⟩
      case measure => simp [intOf]; omega
    · obtain rfl : j = x.rel.length := by omega
      have hlt' : ¬ (x.rel.length : Int) < (x.rel.length : Int) := by omega
      go_wp2_with fail
      clear s1 s8 m1 m8
      go_loopw [6] (fun i wr => ∃ j : Nat, j ≤ x.loc.length ∧ i = .int .i64 j ∧ Hid (OB w x x r1 r2 q1 q2 c1 c2 d1 d2 wr)) (fun i _ => x.loc.length - (intOf i).toNat)
      case atStart => exact ⟨0, by omega, rfl, HO⟩
      case round =>
        clear HO
        obtain ⟨j, hj, rfl, HO⟩ := hrel
        obtain ⟨s0, s1, s2, s3, s4, s5, s6, s7, s8, m0, m1, m2, m3, m4, m5, m6, m7, m8⟩ := HO.out.seen
        clear s0 s2 s3 s4 s5 s6 s7 m0 m2 m3 m4 m5 m6 m7
        by_cases hlj : j < x.loc.length
        · have hlj' : (j : Int) < (x.loc.length : Int) := by omega
          have hj0 : (0 : Int) ≤ (j : Int) := by omega
          obtain ⟨b1, o1, rfl, hc1⟩ := HO.out.la.some (by omega)
          obtain ⟨b2, o2, rfl, hc2⟩ := HO.out.lb.some (by omega)
          have p1 := hc1 j hlj
          have p2 := hc2 j hlj
          clear hc1 hc2
          have he := eq_self x.loc[j]
          generalize x.loc[j] = t at *
          go_wp2_with fail
          go_quiet (fail)
          go_wp2_with fail
          go_roundw
          case rel => exact ⟨j + 1, by omega, by go_num, HO.out.next (below_drewN _ _ _)⟩
          case measure => simp [intOf]; omega
        · obtain rfl : j = x.loc.length := by omega
          have hlj' : ¬ (x.loc.length : Int) < (x.loc.length : Int) := by omega
          go_wp2_with fail
          go_ret
          exact ⟨rfl, HO.out.bel⟩

end Go.Proofs.Ytagnikhkmaplpaa
