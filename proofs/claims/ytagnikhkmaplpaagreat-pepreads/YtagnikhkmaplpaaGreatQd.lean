/-
  Walks: which versions are fit by the document.
-/
import Derived.Test.YtagnikhkmaplpaaGreatQc
namespace Go.Proofs.YtagnikhkmaplpaaGreat
open Go.RowKit Go.Shelf
set_option linter.unusedVariables false

/-- A row of texts that are not too great. -/
def MidT (ts : List (List UInt8)) : Prop := ts.length ≤ 1048576 ∧ ∀ t ∈ ts, t.length ≤ 1048576
/-- A version that is not too great. -/
structure MidP (x : PepL) : Prop where
  e : x.ep.length ≤ 1048576
  n : x.n.length ≤ 1048576
  m : x.m.length ≤ 1048576
  k : x.k.length ≤ 1048576
  r : MidT x.rel
  l : MidT x.loc
/-- Which versions are fit. -/
def fitR (x : PepL) : Bool := trimB x.ep && (!x.rel.isEmpty && (letB x.c && (x.rel.all trimB && (x.loc.all locB && (numB x.n (x.c != 0) && (numB x.m x.b && numB x.k x.d))))))
theorem all_take (P : List UInt8 → Bool) (ts : List (List UInt8)) (k : Nat) (h : k < ts.length) (h1 : (ts.take k).all P = true) (h2 : P ts[k] = true) : (ts.take (k + 1)).all P = true := by
  rw [List.take_succ_eq_append_getElem h, List.all_append, h1]
  simpa using h2
theorem all_not (P : List UInt8 → Bool) (ts : List (List UInt8)) (k : Nat) (h : k < ts.length) (h2 : P ts[k] = false) : ts.all P = false := by
  rw [List.all_eq_false]
  exact ⟨ts[k], List.getElem_mem h, by simp [h2]⟩

set_option maxRecDepth 100000 in
set_option maxHeartbeats 2000000 in
theorem RFit_ep (ep : List UInt8) (rel : List (List UInt8)) (n : List UInt8) (b : Bool) (m : List UInt8) (d : Bool) (k : List UInt8) (loc : List (List UInt8)) (r1 q1 : Option Addr) (c1 d1 : Nat) (c : Int) (w : World) (hx : ep.length ≤ 1048576) (h1 : trimB ep = false) :
    Calls Tryz.prog 15 #[.agg #[.string (ofL ep), .slice r1 rel.length c1, .int .u8 c, .string (ofL n), .bool b, .string (ofL m), .bool d, .string (ofL k), .slice q1 loc.length d1]] w fun e w' => e = .returned (.bool false) ∧ Below w.heap.size w w' := by
  have N1 := fun w => Rnumber_any ep w (by omega)
  rw [h1] at N1
  have N1 := hide N1
  have b0 := (Below.refl w.heap.size w).alloc (Nat.le_refl _) (.cells #[.string (ofL ep), .slice r1 rel.length c1, .int .u8 c, .string (ofL n), .bool b, .string (ofL m), .bool d, .string (ofL k), .slice q1 loc.length d1] 24)
  go_enter Tryz.func15, Tryz.ntmps15
  go_wp2_with fail
  refine (N1.out _).mono ?_
  rintro e w' ⟨rfl, hw'⟩
  rw [hw']
  clear hw' w'
  go_wp2_with fail
  go_ret
  exact ⟨rfl, (Below.refl _ w).alloc (Nat.le_refl _) _⟩

set_option maxRecDepth 100000 in
set_option maxHeartbeats 2000000 in
theorem RFit_rel (ep : List UInt8) (rel : List (List UInt8)) (n : List UInt8) (b : Bool) (m : List UInt8) (d : Bool) (k : List UInt8) (loc : List (List UInt8)) (r1 q1 : Option Addr) (c1 d1 : Nat) (c : Int) (w : World) (hx : ep.length ≤ 1048576) (h1 : trimB ep = true) (h2 : rel = []) :
    Calls Tryz.prog 15 #[.agg #[.string (ofL ep), .slice r1 rel.length c1, .int .u8 c, .string (ofL n), .bool b, .string (ofL m), .bool d, .string (ofL k), .slice q1 loc.length d1]] w fun e w' => e = .returned (.bool false) ∧ Below w.heap.size w w' := by
  have N1 := fun w => Rnumber_any ep w (by omega)
  rw [h1] at N1
  have hz : ((rel.length : Int) == 0) = true := by rw [h2]; rfl
  have N1 := hide N1
  have b0 := (Below.refl w.heap.size w).alloc (Nat.le_refl _) (.cells #[.string (ofL ep), .slice r1 rel.length c1, .int .u8 c, .string (ofL n), .bool b, .string (ofL m), .bool d, .string (ofL k), .slice q1 loc.length d1] 24)
  go_enter Tryz.func15, Tryz.ntmps15
  go_wp2_with fail
  refine (N1.out _).mono ?_
  rintro e w' ⟨rfl, hw'⟩
  rw [hw']
  clear hw' w'
  go_wp2_with fail
  go_ret
  exact ⟨rfl, (Below.refl _ w).alloc (Nat.le_refl _) _⟩

set_option maxRecDepth 100000 in
set_option maxHeartbeats 2000000 in
theorem RFit_let (ep : List UInt8) (rel : List (List UInt8)) (n : List UInt8) (b : Bool) (m : List UInt8) (d : Bool) (k : List UInt8) (loc : List (List UInt8)) (r1 q1 : Option Addr) (c1 d1 : Nat) (c : Int) (w : World) (hx : ep.length ≤ 1048576) (h1 : trimB ep = true) (h2 : rel ≠ []) (h3 : letB c = false) :
    Calls Tryz.prog 15 #[.agg #[.string (ofL ep), .slice r1 rel.length c1, .int .u8 c, .string (ofL n), .bool b, .string (ofL m), .bool d, .string (ofL k), .slice q1 loc.length d1]] w fun e w' => e = .returned (.bool false) ∧ Below w.heap.size w w' := by
  have N1 := fun w => Rnumber_any ep w (by omega)
  rw [h1] at N1
  have hp : 0 < rel.length := List.length_pos_iff.2 h2
  have hz : ((rel.length : Int) == 0) = false := by simp; omega
  obtain ⟨g0, g1, g2, g3⟩ : (c != 0) = true ∧ (c != 97) = true ∧ (c != 98) = true ∧ (c != 114) = true := by
    unfold letB at h3
    simp at h3
    simp
    omega
  have N1 := hide N1
  have b0 := (Below.refl w.heap.size w).alloc (Nat.le_refl _) (.cells #[.string (ofL ep), .slice r1 rel.length c1, .int .u8 c, .string (ofL n), .bool b, .string (ofL m), .bool d, .string (ofL k), .slice q1 loc.length d1] 24)
  go_enter Tryz.func15, Tryz.ntmps15
  go_wp2_with fail
  refine (N1.out _).mono ?_
  rintro e w' ⟨rfl, hw'⟩
  rw [hw']
  clear hw' w'
  go_wp2_with fail
  go_ret
  exact ⟨rfl, (Below.refl _ w).alloc (Nat.le_refl _) _⟩

set_option maxRecDepth 100000 in
set_option maxHeartbeats 4000000 in
theorem RFit_0 (ep : List UInt8) (rel : List (List UInt8)) (n : List UInt8) (b : Bool) (m : List UInt8) (d : Bool) (k : List UInt8) (loc : List (List UInt8)) (r1 q1 : Option Addr) (c1 d1 : Nat) (w : World) (rr : Txt w (.slice r1 rel.length c1) rel) (ll : Txt w (.slice q1 loc.length d1) loc) (hx : MidP ⟨ep, rel, 0, n, b, m, d, k, loc⟩) (h1 : trimB ep = true) (h2 : rel ≠ []) :
    Calls Tryz.prog 15 #[.agg #[.string (ofL ep), .slice r1 rel.length c1, .int .u8 0, .string (ofL n), .bool b, .string (ofL m), .bool d, .string (ofL k), .slice q1 loc.length d1]] w fun e w' => e = .returned (.bool (rel.all trimB && (loc.all locB && (numB n false && (numB m b && numB k d))))) ∧ Below w.heap.size w w' := by
  have N1 := fun w => Rnumber_any ep w (by have h : ep.length ≤ 1048576 := hx.e; omega)
  rw [h1] at N1
  have N1 := hide N1
  have A1 := hide (fun w => Rasked_any n false w (by have h : n.length ≤ 1048576 := hx.n; omega))
  have A2 := hide (fun w => Rasked_any m b w (by have h : m.length ≤ 1048576 := hx.m; omega))
  have A3 := hide (fun w => Rasked_any k d w (by have h : k.length ≤ 1048576 := hx.k; omega))
  have HR : Hid (∀ t ∈ rel, t.length ≤ 1048576) := hx.r.2
  have HL : Hid (∀ t ∈ loc, t.length ≤ 1048576) := hx.l.2
  have lr : rel.length ≤ 1048576 := hx.r.1
  have lo : loc.length ≤ 1048576 := hx.l.1
  have S0 : TB w ⟨ep, rel, 0, n, b, m, d, k, loc⟩ r1 q1 c1 d1 (w.alloc (.cells #[.string (ofL ep), .slice r1 rel.length c1, .int .u8 0, .string (ofL n), .bool b, .string (ofL m), .bool d, .string (ofL k), .slice q1 loc.length d1] 24)) := TB.start (x := ⟨ep, rel, 0, n, b, m, d, k, loc⟩) rr ll
  have hp : 0 < rel.length := List.length_pos_iff.2 h2
  have hz : ((rel.length : Int) == 0) = false := by simp; omega
  have HF := hide (all_not trimB rel)
  have HE : Hid ((rel.take rel.length).all trimB = true → rel.all trimB = true) := by show _ → _; rw [List.take_length]; exact id
  have HG := hide (all_not locB loc)
  have HH : Hid ((loc.take loc.length).all locB = true → loc.all locB = true) := by show _ → _; rw [List.take_length]; exact id
  generalize numB n false = z1 at *
  generalize numB m b = z2 at *
  generalize numB k d = z3 at *
  generalize rel.all trimB = z4 at *
  generalize loc.all locB = z5 at *
  clear hx h1 h2 rr ll
  obtain ⟨s0, s1, s2, s3, s4, s5, s6, s7, s8⟩ := S0.seen
  dsimp only at s0 s1 s2 s3 s4 s5 s6 s7 s8
  go_enter Tryz.func15, Tryz.ntmps15
  go_wp2_with fail
  generalize w.alloc (.cells #[.string (ofL ep), .slice r1 rel.length c1, .int .u8 0, .string (ofL n), .bool b, .string (ofL m), .bool d, .string (ofL k), .slice q1 loc.length d1] 24) = W0 at *
  refine (N1.out _).mono ?_
  rintro e w' ⟨rfl, hw'⟩
  rw [hw']
  clear hw' w'
  go_wp2_with fail
  go_loop [3] (fun i => ∃ k : Nat, k ≤ rel.length ∧ i = .int .i64 k ∧ Hid ((rel.take k).all trimB = true)) (fun i => rel.length - (intOf i).toNat)
  case atStart => exact ⟨0, by omega, rfl, rfl⟩
  case round =>
    obtain ⟨i, hi, rfl, HK⟩ := hrel
    by_cases hlt : i < rel.length
    · have hlt' : (i : Int) < (rel.length : Int) := by omega
      obtain ⟨b1, o1, rfl, hc1⟩ := S0.rr.some (by show 0 < rel.length; omega)
      have p1 := hc1 i hlt
      clear hc1
      have C := fun w => Rnumber_any rel[i] w (by have := HR.out _ (List.getElem_mem hlt); omega)
      have HN := hide (all_take trimB rel i hlt HK.out)
      have HM := hide (HF.out i hlt)
      dsimp only at p1
      generalize rel[i] = t at *
      generalize trimB t = y at *
      have C := hide C
      cases y
      · obtain rfl := HM.out rfl
        go_wp2_with fail
        refine (C.out _).mono ?_
        rintro e w' ⟨rfl, hw'⟩
        rw [hw']
        clear hw' w'
        go_wp2_with fail
        go_ret
        exact ⟨rfl, S0.bel⟩
      · have hn := hide (HN.out rfl)
        go_wp2_with fail
        refine (C.out _).mono ?_
        rintro e w' ⟨rfl, hw'⟩
        rw [hw']
        clear hw' w'
        go_wp2_with fail
        go_round
        case rel => exact ⟨i + 1, by omega, by go_num, hn⟩
        case measure => simp [intOf]; omega
    · obtain rfl : i = rel.length := by omega
      have hlt' : ¬ (rel.length : Int) < (rel.length : Int) := by omega
      obtain rfl := HE.out HK.out
      have H0 := hide S0
      clear S0 s0 s1 s2 s3 s4 s5 s6 s7 s8
      have s1 := H0.out.seen.2.1
      dsimp only at s1
      go_wp2_with fail
      clear s1
      go_loopw [4] (fun i wr => ∃ j : Nat, j ≤ loc.length ∧ i = .int .i64 j ∧ Hid ((loc.take j).all locB = true) ∧ Hid (TB w ⟨ep, rel, 0, n, b, m, d, k, loc⟩ r1 q1 c1 d1 wr)) (fun i _ => loc.length - (intOf i).toNat)
      case atStart => exact ⟨0, by omega, rfl, rfl, H0⟩
      case round =>
        obtain ⟨j, hj, rfl, HJ, HS⟩ := hrel
        obtain ⟨s0, s1, s2, s3, s4, s5, s6, s7, s8⟩ := HS.out.seen
        dsimp only at s0 s1 s2 s3 s4 s5 s6 s7 s8
        by_cases hlj : j < loc.length
        · have hlj' : (j : Int) < (loc.length : Int) := by omega
          obtain ⟨b1, o1, rfl, hc1⟩ := HS.out.ll.some (by show 0 < loc.length; omega)
          have p1 := hc1 j hlj
          clear hc1
          have C := fun w => Rpart_any loc[j] w (by have := HL.out _ (List.getElem_mem hlj); omega)
          have HN := hide (all_take locB loc j hlj HJ.out)
          have HM := hide (HG.out j hlj)
          dsimp only at p1
          generalize loc[j] = t at *
          generalize locB t = y at *
          have C := hide C
          cases y
          · obtain rfl := HM.out rfl
            go_wp2_with fail
            refine (C.out _).mono ?_
            rintro e w2 ⟨rfl, b2⟩
            go_wp2_with fail
            go_ret
            exact ⟨rfl, (HS.out.next b2).bel⟩
          · have hn := hide (HN.out rfl)
            go_wp2_with fail
            refine (C.out _).mono ?_
            rintro e w2 ⟨rfl, b2⟩
            go_wp2_with fail
            go_roundw
            case rel => exact ⟨j + 1, by omega, by go_num, hn, HS.out.next b2⟩
            case measure => simp [intOf]; omega
        · obtain rfl : j = loc.length := by omega
          have hlj' : ¬ (loc.length : Int) < (loc.length : Int) := by omega
          obtain rfl := HH.out HJ.out
          cases z1
          · go_wp2_with fail
            refine (A1.out _).mono ?_
            rintro e w' ⟨rfl, hw'⟩
            rw [hw']
            clear hw' w'
            go_wp2_with fail
            go_ret
            exact ⟨rfl, HS.out.bel⟩
          · cases z2
            · go_wp2_with fail
              refine (A1.out _).mono ?_
              rintro e w' ⟨rfl, hw'⟩
              rw [hw']
              clear hw' w'
              go_wp2_with fail
              refine (A2.out _).mono ?_
              rintro e w' ⟨rfl, hw'⟩
              rw [hw']
              clear hw' w'
              go_wp2_with fail
              go_ret
              exact ⟨rfl, HS.out.bel⟩
            · go_wp2_with fail
              refine (A1.out _).mono ?_
              rintro e w' ⟨rfl, hw'⟩
              rw [hw']
              clear hw' w'
              go_wp2_with fail
              refine (A2.out _).mono ?_
              rintro e w' ⟨rfl, hw'⟩
              rw [hw']
              clear hw' w'
              go_wp2_with fail
              refine (A3.out _).mono ?_
              rintro e w' ⟨rfl, hw'⟩
              rw [hw']
              clear hw' w'
              go_wp2_with fail
              go_ret
              exact ⟨ret_b (by simp), HS.out.bel⟩

set_option maxRecDepth 100000 in
set_option maxHeartbeats 4000000 in
theorem RFit_97 (ep : List UInt8) (rel : List (List UInt8)) (n : List UInt8) (b : Bool) (m : List UInt8) (d : Bool) (k : List UInt8) (loc : List (List UInt8)) (r1 q1 : Option Addr) (c1 d1 : Nat) (w : World) (rr : Txt w (.slice r1 rel.length c1) rel) (ll : Txt w (.slice q1 loc.length d1) loc) (hx : MidP ⟨ep, rel, 97, n, b, m, d, k, loc⟩) (h1 : trimB ep = true) (h2 : rel ≠ []) :
    Calls Tryz.prog 15 #[.agg #[.string (ofL ep), .slice r1 rel.length c1, .int .u8 97, .string (ofL n), .bool b, .string (ofL m), .bool d, .string (ofL k), .slice q1 loc.length d1]] w fun e w' => e = .returned (.bool (rel.all trimB && (loc.all locB && (numB n true && (numB m b && numB k d))))) ∧ Below w.heap.size w w' := by
  have N1 := fun w => Rnumber_any ep w (by have h : ep.length ≤ 1048576 := hx.e; omega)
  rw [h1] at N1
  have N1 := hide N1
  have A1 := hide (fun w => Rasked_any n true w (by have h : n.length ≤ 1048576 := hx.n; omega))
  have A2 := hide (fun w => Rasked_any m b w (by have h : m.length ≤ 1048576 := hx.m; omega))
  have A3 := hide (fun w => Rasked_any k d w (by have h : k.length ≤ 1048576 := hx.k; omega))
  have HR : Hid (∀ t ∈ rel, t.length ≤ 1048576) := hx.r.2
  have HL : Hid (∀ t ∈ loc, t.length ≤ 1048576) := hx.l.2
  have lr : rel.length ≤ 1048576 := hx.r.1
  have lo : loc.length ≤ 1048576 := hx.l.1
  have S0 : TB w ⟨ep, rel, 97, n, b, m, d, k, loc⟩ r1 q1 c1 d1 (w.alloc (.cells #[.string (ofL ep), .slice r1 rel.length c1, .int .u8 97, .string (ofL n), .bool b, .string (ofL m), .bool d, .string (ofL k), .slice q1 loc.length d1] 24)) := TB.start (x := ⟨ep, rel, 97, n, b, m, d, k, loc⟩) rr ll
  have hp : 0 < rel.length := List.length_pos_iff.2 h2
  have hz : ((rel.length : Int) == 0) = false := by simp; omega
  have HF := hide (all_not trimB rel)
  have HE : Hid ((rel.take rel.length).all trimB = true → rel.all trimB = true) := by show _ → _; rw [List.take_length]; exact id
  have HG := hide (all_not locB loc)
  have HH : Hid ((loc.take loc.length).all locB = true → loc.all locB = true) := by show _ → _; rw [List.take_length]; exact id
  generalize numB n true = z1 at *
  generalize numB m b = z2 at *
  generalize numB k d = z3 at *
  generalize rel.all trimB = z4 at *
  generalize loc.all locB = z5 at *
  clear hx h1 h2 rr ll
  obtain ⟨s0, s1, s2, s3, s4, s5, s6, s7, s8⟩ := S0.seen
  dsimp only at s0 s1 s2 s3 s4 s5 s6 s7 s8
  go_enter Tryz.func15, Tryz.ntmps15
  go_wp2_with fail
  generalize w.alloc (.cells #[.string (ofL ep), .slice r1 rel.length c1, .int .u8 97, .string (ofL n), .bool b, .string (ofL m), .bool d, .string (ofL k), .slice q1 loc.length d1] 24) = W0 at *
  refine (N1.out _).mono ?_
  rintro e w' ⟨rfl, hw'⟩
  rw [hw']
  clear hw' w'
  go_wp2_with fail
  go_loop [3] (fun i => ∃ k : Nat, k ≤ rel.length ∧ i = .int .i64 k ∧ Hid ((rel.take k).all trimB = true)) (fun i => rel.length - (intOf i).toNat)
  case atStart => exact ⟨0, by omega, rfl, rfl⟩
  case round =>
    obtain ⟨i, hi, rfl, HK⟩ := hrel
    by_cases hlt : i < rel.length
    · have hlt' : (i : Int) < (rel.length : Int) := by omega
      obtain ⟨b1, o1, rfl, hc1⟩ := S0.rr.some (by show 0 < rel.length; omega)
      have p1 := hc1 i hlt
      clear hc1
      have C := fun w => Rnumber_any rel[i] w (by have := HR.out _ (List.getElem_mem hlt); omega)
      have HN := hide (all_take trimB rel i hlt HK.out)
      have HM := hide (HF.out i hlt)
      dsimp only at p1
      generalize rel[i] = t at *
      generalize trimB t = y at *
      have C := hide C
      cases y
      · obtain rfl := HM.out rfl
        go_wp2_with fail
        refine (C.out _).mono ?_
        rintro e w' ⟨rfl, hw'⟩
        rw [hw']
        clear hw' w'
        go_wp2_with fail
        go_ret
        exact ⟨rfl, S0.bel⟩
      · have hn := hide (HN.out rfl)
        go_wp2_with fail
        refine (C.out _).mono ?_
        rintro e w' ⟨rfl, hw'⟩
        rw [hw']
        clear hw' w'
        go_wp2_with fail
        go_round
        case rel => exact ⟨i + 1, by omega, by go_num, hn⟩
        case measure => simp [intOf]; omega
    · obtain rfl : i = rel.length := by omega
      have hlt' : ¬ (rel.length : Int) < (rel.length : Int) := by omega
      obtain rfl := HE.out HK.out
      have H0 := hide S0
      clear S0 s0 s1 s2 s3 s4 s5 s6 s7 s8
      have s1 := H0.out.seen.2.1
      dsimp only at s1
      go_wp2_with fail
      clear s1
      go_loopw [4] (fun i wr => ∃ j : Nat, j ≤ loc.length ∧ i = .int .i64 j ∧ Hid ((loc.take j).all locB = true) ∧ Hid (TB w ⟨ep, rel, 97, n, b, m, d, k, loc⟩ r1 q1 c1 d1 wr)) (fun i _ => loc.length - (intOf i).toNat)
      case atStart => exact ⟨0, by omega, rfl, rfl, H0⟩
      case round =>
        obtain ⟨j, hj, rfl, HJ, HS⟩ := hrel
        obtain ⟨s0, s1, s2, s3, s4, s5, s6, s7, s8⟩ := HS.out.seen
        dsimp only at s0 s1 s2 s3 s4 s5 s6 s7 s8
        by_cases hlj : j < loc.length
        · have hlj' : (j : Int) < (loc.length : Int) := by omega
          obtain ⟨b1, o1, rfl, hc1⟩ := HS.out.ll.some (by show 0 < loc.length; omega)
          have p1 := hc1 j hlj
          clear hc1
          have C := fun w => Rpart_any loc[j] w (by have := HL.out _ (List.getElem_mem hlj); omega)
          have HN := hide (all_take locB loc j hlj HJ.out)
          have HM := hide (HG.out j hlj)
          dsimp only at p1
          generalize loc[j] = t at *
          generalize locB t = y at *
          have C := hide C
          cases y
          · obtain rfl := HM.out rfl
            go_wp2_with fail
            refine (C.out _).mono ?_
            rintro e w2 ⟨rfl, b2⟩
            go_wp2_with fail
            go_ret
            exact ⟨rfl, (HS.out.next b2).bel⟩
          · have hn := hide (HN.out rfl)
            go_wp2_with fail
            refine (C.out _).mono ?_
            rintro e w2 ⟨rfl, b2⟩
            go_wp2_with fail
            go_roundw
            case rel => exact ⟨j + 1, by omega, by go_num, hn, HS.out.next b2⟩
            case measure => simp [intOf]; omega
        · obtain rfl : j = loc.length := by omega
          have hlj' : ¬ (loc.length : Int) < (loc.length : Int) := by omega
          obtain rfl := HH.out HJ.out
          cases z1
          · go_wp2_with fail
            refine (A1.out _).mono ?_
            rintro e w' ⟨rfl, hw'⟩
            rw [hw']
            clear hw' w'
            go_wp2_with fail
            go_ret
            exact ⟨rfl, HS.out.bel⟩
          · cases z2
            · go_wp2_with fail
              refine (A1.out _).mono ?_
              rintro e w' ⟨rfl, hw'⟩
              rw [hw']
              clear hw' w'
              go_wp2_with fail
              refine (A2.out _).mono ?_
              rintro e w' ⟨rfl, hw'⟩
              rw [hw']
              clear hw' w'
              go_wp2_with fail
              go_ret
              exact ⟨rfl, HS.out.bel⟩
            · go_wp2_with fail
              refine (A1.out _).mono ?_
              rintro e w' ⟨rfl, hw'⟩
              rw [hw']
              clear hw' w'
              go_wp2_with fail
              refine (A2.out _).mono ?_
              rintro e w' ⟨rfl, hw'⟩
              rw [hw']
              clear hw' w'
              go_wp2_with fail
              refine (A3.out _).mono ?_
              rintro e w' ⟨rfl, hw'⟩
              rw [hw']
              clear hw' w'
              go_wp2_with fail
              go_ret
              exact ⟨ret_b (by simp), HS.out.bel⟩

set_option maxRecDepth 100000 in
set_option maxHeartbeats 4000000 in
theorem RFit_98 (ep : List UInt8) (rel : List (List UInt8)) (n : List UInt8) (b : Bool) (m : List UInt8) (d : Bool) (k : List UInt8) (loc : List (List UInt8)) (r1 q1 : Option Addr) (c1 d1 : Nat) (w : World) (rr : Txt w (.slice r1 rel.length c1) rel) (ll : Txt w (.slice q1 loc.length d1) loc) (hx : MidP ⟨ep, rel, 98, n, b, m, d, k, loc⟩) (h1 : trimB ep = true) (h2 : rel ≠ []) :
    Calls Tryz.prog 15 #[.agg #[.string (ofL ep), .slice r1 rel.length c1, .int .u8 98, .string (ofL n), .bool b, .string (ofL m), .bool d, .string (ofL k), .slice q1 loc.length d1]] w fun e w' => e = .returned (.bool (rel.all trimB && (loc.all locB && (numB n true && (numB m b && numB k d))))) ∧ Below w.heap.size w w' := by
  have N1 := fun w => Rnumber_any ep w (by have h : ep.length ≤ 1048576 := hx.e; omega)
  rw [h1] at N1
  have N1 := hide N1
  have A1 := hide (fun w => Rasked_any n true w (by have h : n.length ≤ 1048576 := hx.n; omega))
  have A2 := hide (fun w => Rasked_any m b w (by have h : m.length ≤ 1048576 := hx.m; omega))
  have A3 := hide (fun w => Rasked_any k d w (by have h : k.length ≤ 1048576 := hx.k; omega))
  have HR : Hid (∀ t ∈ rel, t.length ≤ 1048576) := hx.r.2
  have HL : Hid (∀ t ∈ loc, t.length ≤ 1048576) := hx.l.2
  have lr : rel.length ≤ 1048576 := hx.r.1
  have lo : loc.length ≤ 1048576 := hx.l.1
  have S0 : TB w ⟨ep, rel, 98, n, b, m, d, k, loc⟩ r1 q1 c1 d1 (w.alloc (.cells #[.string (ofL ep), .slice r1 rel.length c1, .int .u8 98, .string (ofL n), .bool b, .string (ofL m), .bool d, .string (ofL k), .slice q1 loc.length d1] 24)) := TB.start (x := ⟨ep, rel, 98, n, b, m, d, k, loc⟩) rr ll
  have hp : 0 < rel.length := List.length_pos_iff.2 h2
  have hz : ((rel.length : Int) == 0) = false := by simp; omega
  have HF := hide (all_not trimB rel)
  have HE : Hid ((rel.take rel.length).all trimB = true → rel.all trimB = true) := by show _ → _; rw [List.take_length]; exact id
  have HG := hide (all_not locB loc)
  have HH : Hid ((loc.take loc.length).all locB = true → loc.all locB = true) := by show _ → _; rw [List.take_length]; exact id
  generalize numB n true = z1 at *
  generalize numB m b = z2 at *
  generalize numB k d = z3 at *
  generalize rel.all trimB = z4 at *
  generalize loc.all locB = z5 at *
  clear hx h1 h2 rr ll
  obtain ⟨s0, s1, s2, s3, s4, s5, s6, s7, s8⟩ := S0.seen
  dsimp only at s0 s1 s2 s3 s4 s5 s6 s7 s8
  go_enter Tryz.func15, Tryz.ntmps15
  go_wp2_with fail
  generalize w.alloc (.cells #[.string (ofL ep), .slice r1 rel.length c1, .int .u8 98, .string (ofL n), .bool b, .string (ofL m), .bool d, .string (ofL k), .slice q1 loc.length d1] 24) = W0 at *
  refine (N1.out _).mono ?_
  rintro e w' ⟨rfl, hw'⟩
  rw [hw']
  clear hw' w'
  go_wp2_with fail
  go_loop [3] (fun i => ∃ k : Nat, k ≤ rel.length ∧ i = .int .i64 k ∧ Hid ((rel.take k).all trimB = true)) (fun i => rel.length - (intOf i).toNat)
  case atStart => exact ⟨0, by omega, rfl, rfl⟩
  case round =>
    obtain ⟨i, hi, rfl, HK⟩ := hrel
    by_cases hlt : i < rel.length
    · have hlt' : (i : Int) < (rel.length : Int) := by omega
      obtain ⟨b1, o1, rfl, hc1⟩ := S0.rr.some (by show 0 < rel.length; omega)
      have p1 := hc1 i hlt
      clear hc1
      have C := fun w => Rnumber_any rel[i] w (by have := HR.out _ (List.getElem_mem hlt); omega)
      have HN := hide (all_take trimB rel i hlt HK.out)
      have HM := hide (HF.out i hlt)
      dsimp only at p1
      generalize rel[i] = t at *
      generalize trimB t = y at *
      have C := hide C
      cases y
      · obtain rfl := HM.out rfl
        go_wp2_with fail
        refine (C.out _).mono ?_
        rintro e w' ⟨rfl, hw'⟩
        rw [hw']
        clear hw' w'
        go_wp2_with fail
        go_ret
        exact ⟨rfl, S0.bel⟩
      · have hn := hide (HN.out rfl)
        go_wp2_with fail
        refine (C.out _).mono ?_
        rintro e w' ⟨rfl, hw'⟩
        rw [hw']
        clear hw' w'
        go_wp2_with fail
        go_round
        case rel => exact ⟨i + 1, by omega, by go_num, hn⟩
        case measure => simp [intOf]; omega
    · obtain rfl : i = rel.length := by omega
      have hlt' : ¬ (rel.length : Int) < (rel.length : Int) := by omega
      obtain rfl := HE.out HK.out
      have H0 := hide S0
      clear S0 s0 s1 s2 s3 s4 s5 s6 s7 s8
      have s1 := H0.out.seen.2.1
      dsimp only at s1
      go_wp2_with fail
      clear s1
      go_loopw [4] (fun i wr => ∃ j : Nat, j ≤ loc.length ∧ i = .int .i64 j ∧ Hid ((loc.take j).all locB = true) ∧ Hid (TB w ⟨ep, rel, 98, n, b, m, d, k, loc⟩ r1 q1 c1 d1 wr)) (fun i _ => loc.length - (intOf i).toNat)
      case atStart => exact ⟨0, by omega, rfl, rfl, H0⟩
      case round =>
        obtain ⟨j, hj, rfl, HJ, HS⟩ := hrel
        obtain ⟨s0, s1, s2, s3, s4, s5, s6, s7, s8⟩ := HS.out.seen
        dsimp only at s0 s1 s2 s3 s4 s5 s6 s7 s8
        by_cases hlj : j < loc.length
        · have hlj' : (j : Int) < (loc.length : Int) := by omega
          obtain ⟨b1, o1, rfl, hc1⟩ := HS.out.ll.some (by show 0 < loc.length; omega)
          have p1 := hc1 j hlj
          clear hc1
          have C := fun w => Rpart_any loc[j] w (by have := HL.out _ (List.getElem_mem hlj); omega)
          have HN := hide (all_take locB loc j hlj HJ.out)
          have HM := hide (HG.out j hlj)
          dsimp only at p1
          generalize loc[j] = t at *
          generalize locB t = y at *
          have C := hide C
          cases y
          · obtain rfl := HM.out rfl
            go_wp2_with fail
            refine (C.out _).mono ?_
            rintro e w2 ⟨rfl, b2⟩
            go_wp2_with fail
            go_ret
            exact ⟨rfl, (HS.out.next b2).bel⟩
          · have hn := hide (HN.out rfl)
            go_wp2_with fail
            refine (C.out _).mono ?_
            rintro e w2 ⟨rfl, b2⟩
            go_wp2_with fail
            go_roundw
            case rel => exact ⟨j + 1, by omega, by go_num, hn, HS.out.next b2⟩
            case measure => simp [intOf]; omega
        · obtain rfl : j = loc.length := by omega
          have hlj' : ¬ (loc.length : Int) < (loc.length : Int) := by omega
          obtain rfl := HH.out HJ.out
          cases z1
          · go_wp2_with fail
            refine (A1.out _).mono ?_
            rintro e w' ⟨rfl, hw'⟩
            rw [hw']
            clear hw' w'
            go_wp2_with fail
            go_ret
            exact ⟨rfl, HS.out.bel⟩
          · cases z2
            · go_wp2_with fail
              refine (A1.out _).mono ?_
              rintro e w' ⟨rfl, hw'⟩
              rw [hw']
              clear hw' w'
              go_wp2_with fail
              refine (A2.out _).mono ?_
              rintro e w' ⟨rfl, hw'⟩
              rw [hw']
              clear hw' w'
              go_wp2_with fail
              go_ret
              exact ⟨rfl, HS.out.bel⟩
            · go_wp2_with fail
              refine (A1.out _).mono ?_
              rintro e w' ⟨rfl, hw'⟩
              rw [hw']
              clear hw' w'
              go_wp2_with fail
              refine (A2.out _).mono ?_
              rintro e w' ⟨rfl, hw'⟩
              rw [hw']
              clear hw' w'
              go_wp2_with fail
              refine (A3.out _).mono ?_
              rintro e w' ⟨rfl, hw'⟩
              rw [hw']
              clear hw' w'
              go_wp2_with fail
              go_ret
              exact ⟨ret_b (by simp), HS.out.bel⟩

set_option maxRecDepth 100000 in
set_option maxHeartbeats 4000000 in
theorem RFit_114 (ep : List UInt8) (rel : List (List UInt8)) (n : List UInt8) (b : Bool) (m : List UInt8) (d : Bool) (k : List UInt8) (loc : List (List UInt8)) (r1 q1 : Option Addr) (c1 d1 : Nat) (w : World) (rr : Txt w (.slice r1 rel.length c1) rel) (ll : Txt w (.slice q1 loc.length d1) loc) (hx : MidP ⟨ep, rel, 114, n, b, m, d, k, loc⟩) (h1 : trimB ep = true) (h2 : rel ≠ []) :
    Calls Tryz.prog 15 #[.agg #[.string (ofL ep), .slice r1 rel.length c1, .int .u8 114, .string (ofL n), .bool b, .string (ofL m), .bool d, .string (ofL k), .slice q1 loc.length d1]] w fun e w' => e = .returned (.bool (rel.all trimB && (loc.all locB && (numB n true && (numB m b && numB k d))))) ∧ Below w.heap.size w w' := by
  have N1 := fun w => Rnumber_any ep w (by have h : ep.length ≤ 1048576 := hx.e; omega)
  rw [h1] at N1
  have N1 := hide N1
  have A1 := hide (fun w => Rasked_any n true w (by have h : n.length ≤ 1048576 := hx.n; omega))
  have A2 := hide (fun w => Rasked_any m b w (by have h : m.length ≤ 1048576 := hx.m; omega))
  have A3 := hide (fun w => Rasked_any k d w (by have h : k.length ≤ 1048576 := hx.k; omega))
  have HR : Hid (∀ t ∈ rel, t.length ≤ 1048576) := hx.r.2
  have HL : Hid (∀ t ∈ loc, t.length ≤ 1048576) := hx.l.2
  have lr : rel.length ≤ 1048576 := hx.r.1
  have lo : loc.length ≤ 1048576 := hx.l.1
  have S0 : TB w ⟨ep, rel, 114, n, b, m, d, k, loc⟩ r1 q1 c1 d1 (w.alloc (.cells #[.string (ofL ep), .slice r1 rel.length c1, .int .u8 114, .string (ofL n), .bool b, .string (ofL m), .bool d, .string (ofL k), .slice q1 loc.length d1] 24)) := TB.start (x := ⟨ep, rel, 114, n, b, m, d, k, loc⟩) rr ll
  have hp : 0 < rel.length := List.length_pos_iff.2 h2
  have hz : ((rel.length : Int) == 0) = false := by simp; omega
  have HF := hide (all_not trimB rel)
  have HE : Hid ((rel.take rel.length).all trimB = true → rel.all trimB = true) := by show _ → _; rw [List.take_length]; exact id
  have HG := hide (all_not locB loc)
  have HH : Hid ((loc.take loc.length).all locB = true → loc.all locB = true) := by show _ → _; rw [List.take_length]; exact id
  generalize numB n true = z1 at *
  generalize numB m b = z2 at *
  generalize numB k d = z3 at *
  generalize rel.all trimB = z4 at *
  generalize loc.all locB = z5 at *
  clear hx h1 h2 rr ll
  obtain ⟨s0, s1, s2, s3, s4, s5, s6, s7, s8⟩ := S0.seen
  dsimp only at s0 s1 s2 s3 s4 s5 s6 s7 s8
  go_enter Tryz.func15, Tryz.ntmps15
  go_wp2_with fail
  generalize w.alloc (.cells #[.string (ofL ep), .slice r1 rel.length c1, .int .u8 114, .string (ofL n), .bool b, .string (ofL m), .bool d, .string (ofL k), .slice q1 loc.length d1] 24) = W0 at *
  refine (N1.out _).mono ?_
  rintro e w' ⟨rfl, hw'⟩
  rw [hw']
  clear hw' w'
  go_wp2_with fail
  go_loop [3] (fun i => ∃ k : Nat, k ≤ rel.length ∧ i = .int .i64 k ∧ Hid ((rel.take k).all trimB = true)) (fun i => rel.length - (intOf i).toNat)
  case atStart => exact ⟨0, by omega, rfl, rfl⟩
  case round =>
    obtain ⟨i, hi, rfl, HK⟩ := hrel
    by_cases hlt : i < rel.length
    · have hlt' : (i : Int) < (rel.length : Int) := by omega
      obtain ⟨b1, o1, rfl, hc1⟩ := S0.rr.some (by show 0 < rel.length; omega)
      have p1 := hc1 i hlt
      clear hc1
      have C := fun w => Rnumber_any rel[i] w (by have := HR.out _ (List.getElem_mem hlt); omega)
      have HN := hide (all_take trimB rel i hlt HK.out)
      have HM := hide (HF.out i hlt)
      dsimp only at p1
      generalize rel[i] = t at *
      generalize trimB t = y at *
      have C := hide C
      cases y
      · obtain rfl := HM.out rfl
        go_wp2_with fail
        refine (C.out _).mono ?_
        rintro e w' ⟨rfl, hw'⟩
        rw [hw']
        clear hw' w'
        go_wp2_with fail
        go_ret
        exact ⟨rfl, S0.bel⟩
      · have hn := hide (HN.out rfl)
        go_wp2_with fail
        refine (C.out _).mono ?_
        rintro e w' ⟨rfl, hw'⟩
        rw [hw']
        clear hw' w'
        go_wp2_with fail
        go_round
        case rel => exact ⟨i + 1, by omega, by go_num, hn⟩
        case measure => simp [intOf]; omega
    · obtain rfl : i = rel.length := by omega
      have hlt' : ¬ (rel.length : Int) < (rel.length : Int) := by omega
      obtain rfl := HE.out HK.out
      have H0 := hide S0
      clear S0 s0 s1 s2 s3 s4 s5 s6 s7 s8
      have s1 := H0.out.seen.2.1
      dsimp only at s1
      go_wp2_with fail
      clear s1
      go_loopw [4] (fun i wr => ∃ j : Nat, j ≤ loc.length ∧ i = .int .i64 j ∧ Hid ((loc.take j).all locB = true) ∧ Hid (TB w ⟨ep, rel, 114, n, b, m, d, k, loc⟩ r1 q1 c1 d1 wr)) (fun i _ => loc.length - (intOf i).toNat)
      case atStart => exact ⟨0, by omega, rfl, rfl, H0⟩
      case round =>
        obtain ⟨j, hj, rfl, HJ, HS⟩ := hrel
        obtain ⟨s0, s1, s2, s3, s4, s5, s6, s7, s8⟩ := HS.out.seen
        dsimp only at s0 s1 s2 s3 s4 s5 s6 s7 s8
        by_cases hlj : j < loc.length
        · have hlj' : (j : Int) < (loc.length : Int) := by omega
          obtain ⟨b1, o1, rfl, hc1⟩ := HS.out.ll.some (by show 0 < loc.length; omega)
          have p1 := hc1 j hlj
          clear hc1
          have C := fun w => Rpart_any loc[j] w (by have := HL.out _ (List.getElem_mem hlj); omega)
          have HN := hide (all_take locB loc j hlj HJ.out)
          have HM := hide (HG.out j hlj)
          dsimp only at p1
          generalize loc[j] = t at *
          generalize locB t = y at *
          have C := hide C
          cases y
          · obtain rfl := HM.out rfl
            go_wp2_with fail
            refine (C.out _).mono ?_
            rintro e w2 ⟨rfl, b2⟩
            go_wp2_with fail
            go_ret
            exact ⟨rfl, (HS.out.next b2).bel⟩
          · have hn := hide (HN.out rfl)
            go_wp2_with fail
            refine (C.out _).mono ?_
            rintro e w2 ⟨rfl, b2⟩
            go_wp2_with fail
            go_roundw
            case rel => exact ⟨j + 1, by omega, by go_num, hn, HS.out.next b2⟩
            case measure => simp [intOf]; omega
        · obtain rfl : j = loc.length := by omega
          have hlj' : ¬ (loc.length : Int) < (loc.length : Int) := by omega
          obtain rfl := HH.out HJ.out
          cases z1
          · go_wp2_with fail
            refine (A1.out _).mono ?_
            rintro e w' ⟨rfl, hw'⟩
            rw [hw']
            clear hw' w'
            go_wp2_with fail
            go_ret
            exact ⟨rfl, HS.out.bel⟩
          · cases z2
            · go_wp2_with fail
              refine (A1.out _).mono ?_
              rintro e w' ⟨rfl, hw'⟩
              rw [hw']
              clear hw' w'
              go_wp2_with fail
              refine (A2.out _).mono ?_
              rintro e w' ⟨rfl, hw'⟩
              rw [hw']
              clear hw' w'
              go_wp2_with fail
              go_ret
              exact ⟨rfl, HS.out.bel⟩
            · go_wp2_with fail
              refine (A1.out _).mono ?_
              rintro e w' ⟨rfl, hw'⟩
              rw [hw']
              clear hw' w'
              go_wp2_with fail
              refine (A2.out _).mono ?_
              rintro e w' ⟨rfl, hw'⟩
              rw [hw']
              clear hw' w'
              go_wp2_with fail
              refine (A3.out _).mono ?_
              rintro e w' ⟨rfl, hw'⟩
              rw [hw']
              clear hw' w'
              go_wp2_with fail
              go_ret
              exact ⟨ret_b (by simp), HS.out.bel⟩

theorem RFit_any (x : PepL) (r1 q1 : Option Addr) (c1 d1 : Nat) (w : World) (rr : Txt w (.slice r1 x.rel.length c1) x.rel) (ll : Txt w (.slice q1 x.loc.length d1) x.loc) (hx : MidP x) :
    Calls Tryz.prog 15 #[.agg #[.string (ofL x.ep), .slice r1 x.rel.length c1, .int .u8 x.c, .string (ofL x.n), .bool x.b, .string (ofL x.m), .bool x.d, .string (ofL x.k), .slice q1 x.loc.length d1]] w fun e w' => e = .returned (.bool (fitR x)) ∧ Below w.heap.size w w' := by
  obtain ⟨ep, rel, c, n, b, m, d, k, loc⟩ := x
  cases h1 : trimB ep
  · rw [show fitR ⟨ep, rel, c, n, b, m, d, k, loc⟩ = false by simp [fitR, h1]]
    exact RFit_ep ep rel n b m d k loc r1 q1 c1 d1 c w hx.e h1
  · by_cases h2 : rel = []
    · rw [show fitR ⟨ep, rel, c, n, b, m, d, k, loc⟩ = false by simp [fitR, h2]]
      exact RFit_rel ep rel n b m d k loc r1 q1 c1 d1 c w hx.e h1 h2
    · have h2' : rel.isEmpty = false := by simpa using h2
      cases h3 : letB c
      · rw [show fitR ⟨ep, rel, c, n, b, m, d, k, loc⟩ = false by simp [fitR, h3]]
        exact RFit_let ep rel n b m d k loc r1 q1 c1 d1 c w hx.e h1 h2 h3
      · have h4 : c = 0 ∨ c = 97 ∨ c = 98 ∨ c = 114 := by
          unfold letB at h3
          simp at h3
          omega
        rcases h4 with rfl | rfl | rfl | rfl
        · rw [show fitR ⟨ep, rel, 0, n, b, m, d, k, loc⟩ = (rel.all trimB && (loc.all locB && (numB n false && (numB m b && numB k d)))) by unfold fitR; dsimp only; rw [h1, h2', h3]; rfl]
          exact RFit_0 ep rel n b m d k loc r1 q1 c1 d1 w rr ll hx h1 h2
        · rw [show fitR ⟨ep, rel, 97, n, b, m, d, k, loc⟩ = (rel.all trimB && (loc.all locB && (numB n true && (numB m b && numB k d)))) by unfold fitR; dsimp only; rw [h1, h2', h3]; rfl]
          exact RFit_97 ep rel n b m d k loc r1 q1 c1 d1 w rr ll hx h1 h2
        · rw [show fitR ⟨ep, rel, 98, n, b, m, d, k, loc⟩ = (rel.all trimB && (loc.all locB && (numB n true && (numB m b && numB k d)))) by unfold fitR; dsimp only; rw [h1, h2', h3]; rfl]
          exact RFit_98 ep rel n b m d k loc r1 q1 c1 d1 w rr ll hx h1 h2
        · rw [show fitR ⟨ep, rel, 114, n, b, m, d, k, loc⟩ = (rel.all trimB && (loc.all locB && (numB n true && (numB m b && numB k d)))) by unfold fitR; dsimp only; rw [h1, h2', h3]; rfl]
          exact RFit_114 ep rel n b m d k loc r1 q1 c1 d1 w rr ll hx h1 h2

end Go.Proofs.YtagnikhkmaplpaaGreat
