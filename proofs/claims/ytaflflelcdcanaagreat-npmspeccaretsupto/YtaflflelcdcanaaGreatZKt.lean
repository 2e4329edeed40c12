/-
  Walks: NpmspecCarets.
-/
import Derived.Test.YtaflflelcdcanaaGreatZKs
import Derived.Test.YtaflflelcdcanaaGreatZEzo
import Derived.Test.YtaflflelcdcanaaGreatZUa
import Derived.Deep.RegionHeld3
import Derived.Deep.Cut
import Derived.Deep.CutRange
namespace Go.Proofs.YtaflflelcdcanaaGreat
open Go.RowKit Go.Shelf
set_option linter.unusedVariables false

attribute [local go_sem] Oper.semAt_some

theorem add_runC (a b c : ByteArray) (h : a ++ b = c) (hs : a.size + b.size ≤ 9000000000000000000) : Op.stringOp .add a b = pure (.string c) := by
  unfold Op.stringOp
  have hm : IntKind.i64.max = 9223372036854775807 := rfl
  dsimp only
  rw [if_neg (by rw [hm]; omega), h]
/-- The law's three boxes. -/
structure C3 (w : World) (o0 o1 o2 : Obj) (W : World) : Prop where
  bel : Below w.heap.size w W
  b0 : W.heap[w.heap.size]? = some o0
  b1 : W.heap[w.heap.size + 1]? = some o1
  b2 : W.heap[w.heap.size + 1 + 1]? = some o2
theorem C3.next {w W W' : World} {o0 o1 o2 : Obj} (h : C3 w o0 o1 o2 W) (hb : Below W.heap.size W W') : C3 w o0 o1 o2 W' :=
  ⟨h.bel.trans (hb.mono h.bel.size), (hb.block _ (Array.getElem?_eq_some_iff.1 h.b0).1).trans h.b0, (hb.block _ (Array.getElem?_eq_some_iff.1 h.b1).1).trans h.b1, (hb.block _ (Array.getElem?_eq_some_iff.1 h.b2).1).trans h.b2⟩
theorem C3.start (w : World) (o0 o1 o2 : Obj) : C3 w o0 o1 o2 (((w.alloc o0).alloc o1).alloc o2) := by
  have s1 : (w.alloc o0).heap.size = w.heap.size + 1 := by simp
  have s2 : ((w.alloc o0).alloc o1).heap.size = w.heap.size + 1 + 1 := by simp
  have c0 : (w.alloc o0).heap[w.heap.size]? = some o0 := World.alloc_heap_new w o0
  have c1 : ((w.alloc o0).alloc o1).heap[w.heap.size + 1]? = some o1 := by rw [← s1]; exact World.alloc_heap_new (w.alloc o0) o1
  have c2 : (((w.alloc o0).alloc o1).alloc o2).heap[w.heap.size + 1 + 1]? = some o2 := by rw [← s2]; exact World.alloc_heap_new _ o2
  refine ⟨((((Below.refl _ w).alloc (Nat.le_refl _) _).alloc (by omega) _).alloc (by omega) _), ?_, ?_, c2⟩
  · exact (Below.heap_alloc _ _ _ (by omega)).trans ((Below.heap_alloc _ _ _ (by omega)).trans c0)
  · exact (Below.heap_alloc _ _ _ (by omega)).trans c1
theorem seen33 {W : World} {B : Nat} {a b c d e : Value} (h : W.heap[B]? = some (.cells #[a, b, c, d, e] 33)) :
    W.cell? ⟨B, 0, none⟩ = some a ∧ W.cell? ⟨B, 1, none⟩ = some b ∧ W.cell? ⟨B, 2, none⟩ = some c ∧ W.cell? ⟨B, 3, none⟩ = some d ∧ W.cell? ⟨B, 4, none⟩ = some e :=
  ⟨cell_at 0 h rfl, cell_at 1 h rfl, cell_at 2 h rfl, cell_at 3 h rfl, cell_at 4 h rfl⟩

/-- The law's boxes and the set that was read. -/
structure C4 (w Y : World) (o0 o1 o2 : Obj) (A : Addr) (s : Value) (W : World) : Prop where
  c : C3 w o0 o1 o2 W
  y : Below Y.heap.size Y W
  lt : A.block < Y.heap.size
  l : W.cell? A = some s
theorem C4.next {w Y W W' : World} {o0 o1 o2 : Obj} {A : Addr} {s : Value} (h : C4 w Y o0 o1 o2 A s W) (hb : Below W.heap.size W W') : C4 w Y o0 o1 o2 A s W' :=
  ⟨h.c.next hb, h.y.trans (hb.mono h.y.size), h.lt, (hb.cell (Nat.lt_of_lt_of_le h.lt h.y.size)).trans h.l⟩
theorem toLC (l : List UInt8) : (ofL l).toList.isEmpty = l.isEmpty := by rw [toL, ofL_data]
theorem sem_text2 {x : SemL} (hf : fitW x = true) (hl : lenS x ≤ 1048576) : semP (textL x) = x := by
  obtain ⟨c, h1, h2⟩ := text_parse x hl hf
  unfold semP
  rw [h1]
  exact h2
theorem takes_one (cs : List Comp) (t : List UInt8) : takesL [cs] t = setL cs (semP t) := by
  unfold takesL
  simp
theorem carets_plain {v u : SemL} (hv : fitW v = true) (hb : v.bld = []) (hl : (textL v).length ≤ 40) (hu : fitW u = true) (lu : lenS u ≤ 1048576) :
    (v.maj ≠ [48] → takesL (nParse (126 :: textL v)).2.2 (textL u) = true → takesL (nParse (94 :: textL v)).2.2 (textL u) = true) ∧
    (takesL (nParse (94 :: textL v)).2.2 (textL u) = true → u.maj = v.maj) ∧ (u.pre ≠ [] → takesL (nParse [42]).2.2 (textL u) = false) ∧ takesL (nParse (textL v)).2.2 (textL v) = true := by
  rw [textL_length] at hl
  have h48 : lenS v ≤ 48 := by omega
  rw [sign_range hv hb h48 (b := 126) (f := 163) (.inl ⟨rfl, rfl⟩), sign_range hv hb h48 (b := 94) (f := 164) (.inr ⟨rfl, rfl⟩), text_range hv hb h48]
  dsimp only
  rw [takes_one, takes_one, takes_one, sem_text2 hu lu, sem_text2 hv (by omega)]
  exact ⟨fun h0 h => tilde_caret hv hb h48 h0 h, fun h => caret_major hv hb h48 h, fun h => star_takes _ (by rw [sem_text2 hu lu]; exact h), self_takes hv⟩

set_option maxRecDepth 100000 in
set_option maxHeartbeats 8000000 in
theorem carets_walk (v u x : SemL) (vp vb up ub xp xb : Value) (s : ByteArray) (w : World) (t1 : Txt w vp v.pre) (t2 : Txt w vb v.bld) (t3 : Txt w up u.pre) (t4 : Txt w ub u.bld) (t5 : Txt w xp x.pre) (t6 : Txt w xb x.bld)
    (lv : lenS v ≤ 1048576) (lu : lenS u ≤ 1048576) (lx : lenS x ≤ 1048576) :
    Calls Tryz.prog 7 #[.agg #[.string (ofL v.maj), .string (ofL v.min), .string (ofL v.pat), vp, vb], .agg #[.string (ofL u.maj), .string (ofL u.min), .string (ofL u.pat), up, ub], .agg #[.string (ofL x.maj), .string (ofL x.min), .string (ofL x.pat), xp, xb], .string s] w fun e w' => e = .returned (.bool true) ∧ Below w.heap.size w w' := by
  obtain ⟨v0, hv0⟩ : ∃ v0 : SemL, v0 = ⟨v.maj, v.min, v.pat, v.pre, []⟩ := ⟨_, rfl⟩
  have l0 : lenS v0 ≤ 1048576 := by
    rw [hv0]
    unfold lenS at lv ⊢
    dsimp only
    have : lenI ([] : List (List UInt8)) = 0 := rfl
    omega
  obtain ⟨a1, k1, rfl, _⟩ := id t1
  obtain ⟨a2, k2, rfl, _⟩ := id t2
  obtain ⟨a3, k3, rfl, _⟩ := id t3
  obtain ⟨a4, k4, rfl, _⟩ := id t4
  obtain ⟨a5, k5, rfl, _⟩ := id t5
  obtain ⟨a6, k6, rfl, _⟩ := id t6
  obtain ⟨m1, hm1⟩ : ∃ m, v.pre.length = m := ⟨_, rfl⟩
  obtain ⟨m2, hm2⟩ : ∃ m, v.bld.length = m := ⟨_, rfl⟩
  obtain ⟨m3, hm3⟩ : ∃ m, u.pre.length = m := ⟨_, rfl⟩
  obtain ⟨m4, hm4⟩ : ∃ m, u.bld.length = m := ⟨_, rfl⟩
  obtain ⟨m5, hm5⟩ : ∃ m, x.pre.length = m := ⟨_, rfl⟩
  obtain ⟨m6, hm6⟩ : ∃ m, x.bld.length = m := ⟨_, rfl⟩
  rw [hm1] at t1 ⊢
  rw [hm2] at t2 ⊢
  rw [hm3] at t3 ⊢
  rw [hm4] at t4 ⊢
  rw [hm5] at t5 ⊢
  rw [hm6] at t6 ⊢
  have hvf : v0.maj = v.maj ∧ v0.min = v.min ∧ v0.pat = v.pat ∧ v0.pre = v.pre ∧ v0.bld = [] := by rw [hv0]; exact ⟨rfl, rfl, rfl, rfl, rfl⟩
  have SV : Hid (∀ W, Below w.heap.size w W → SemAt W (.agg #[.string (ofL v.maj), .string (ofL v.min), .string (ofL v.pat), .slice a1 m1 k1, .slice none 0 0]) v0) := fun W hW => by
    rw [hv0]
    exact ⟨_, _, rfl, t1.below hW, txt_nil W⟩
  have SU : Hid (∀ W, Below w.heap.size w W → SemAt W (.agg #[.string (ofL u.maj), .string (ofL u.min), .string (ofL u.pat), .slice a3 m3 k3, .slice a4 m4 k4]) u) := fun W hW => ⟨_, _, rfl, t3.below hW, t4.below hW⟩
  have SX : Hid (∀ W, Below w.heap.size w W → SemAt W (.agg #[.string (ofL x.maj), .string (ofL x.min), .string (ofL x.pat), .slice a5 m5 k5, .slice a6 m6 k6]) x) := fun W hW => ⟨_, _, rfl, t5.below hW, t6.below hW⟩
  have AW := hide awake8_any
  obtain ⟨T, hT⟩ : ∃ T, T = fmtL v0 := ⟨_, rfl⟩
  obtain ⟨U, hU⟩ : ∃ U, U = fmtL u := ⟨_, rfl⟩
  have FV : Hid (∀ W, Below w.heap.size w W → Calls Tryz.prog 24 #[.agg #[.string (ofL v.maj), .string (ofL v.min), .string (ofL v.pat), .slice a1 m1 k1, .slice none 0 0]] W fun e w' => e = .returned (.string (ofL T)) ∧ Below W.heap.size W w') := fun W hW => by rw [hT]; exact rFormat_any _ v0 W (SV.out W hW) l0
  have FU : Hid (∀ W, Below w.heap.size w W → Calls Tryz.prog 24 #[.agg #[.string (ofL u.maj), .string (ofL u.min), .string (ofL u.pat), .slice a3 m3 k3, .slice a4 m4 k4]] W fun e w' => e = .returned (.string (ofL U)) ∧ Below W.heap.size W w') := fun W hW => by rw [hU]; exact rFormat_any _ u W (SU.out W hW) lu
  have GU := hide (fun W (hW : Below w.heap.size w W) => rFit_any _ u W (SU.out W hW) lu)
  have GX := hide (fun W (hW : Below w.heap.size w W) => rFit_any _ x W (SX.out W hW) lx)
  have OV := hide (fun W (hW : Below w.heap.size w W) => ROrder_any _ _ v0 x W (SV.out W hW) (SX.out W hW) l0 lx)
  have OX := hide (fun W (hW : Below w.heap.size w W) => ROrder_any _ _ x u W (SX.out W hW) (SU.out W hW) lx lu)
  have Q0 := hide (C3.start w (.cells #[.string (ofL v.maj), .string (ofL v.min), .string (ofL v.pat), .slice a1 m1 k1, .slice none 0 0] 33) (.cells #[.string (ofL u.maj), .string (ofL u.min), .string (ofL u.pat), .slice a3 m3 k3, .slice a4 m4 k4] 33) (.cells #[.string (ofL x.maj), .string (ofL x.min), .string (ofL x.pat), .slice a5 m5 k5, .slice a6 m6 k6] 33))
  have szT := ofL_size T
  clear t1 t2 t3 t4 t5 t6
  have HVF := hide hvf
  have HM1 := hide hm1
  have HM3 := hide hm3
  have HM5 := hide hm5
  have HT := hide hT
  have HU := hide hU
  have HV0 := hide hv0
  have L := hide (And.intro l0 (And.intro lu lx))
  clear hvf hm1 hm2 hm3 hm4 hm5 hm6 hT hU hv0 l0 lv lu lx
  go_enter Tryz.func7, Tryz.ntmps7
  go_wp2_with fail
  refine (FV.out _ Q0.out.bel).mono ?_
  rintro e w1 ⟨rfl, c1⟩
  have Q1 := hide (Q0.out.next c1)
  generalize ((w.alloc _).alloc _).alloc _ = W0 at *
  clear c1 Q0
  obtain ⟨p0, p1, p2, p3, p4⟩ := seen33 Q1.out.b1
  by_cases hte : T = []
  · have hb : (ofL T).toList.isEmpty = true := by rw [toLC, hte]; rfl
    clear hte p0 p1 p2 p3 p4
    go_wp2_with fail
    refine (AW.out _).mono ?_
    rintro e w9 ⟨rfl, c9⟩
    have Z9 := hide (Q1.out.next c9)
    clear c9
    go_wp2_with fail
    go_ret
    exact ⟨rfl, Z9.out.bel⟩
  have hb : (ofL T).toList.isEmpty = false := by rw [toLC]; cases T with | nil => exact absurd rfl hte | cons a r => rfl
  by_cases h40 : 40 < T.length
  · have hd : decide (40 < (T.length : Int)) = true := decide_eq_true (by omega)
    clear hte p0 p1 p2 p3 p4 h40
    go_wp2_with fail
    refine (AW.out _).mono ?_
    rintro e w9 ⟨rfl, c9⟩
    have Z9 := hide (Q1.out.next c9)
    clear c9
    go_wp2_with fail
    go_ret
    exact ⟨rfl, Z9.out.bel⟩
  have hd : decide (40 < (T.length : Int)) = false := decide_eq_false (by omega)
  go_wp2_with fail
  refine (GU.out _ Q1.out.bel).mono ?_
  rintro e w2 ⟨rfl, c2⟩
  have Q2 := hide (Q1.out.next c2)
  clear c2 p0 p1 p2 p3 p4
  obtain ⟨fu, hfu⟩ : ∃ fu, fitW u = fu := ⟨_, rfl⟩
  rw [hfu]
  have HFU := hide hfu
  clear hfu
  cases fu
  case false =>
    go_wp2_with fail
    refine (AW.out _).mono ?_
    rintro e w8 ⟨rfl, c9⟩
    have Z9 := hide (Q2.out.next c9)
    clear c9
    go_wp2_with fail
    go_ret
    exact ⟨rfl, Z9.out.bel⟩
  obtain ⟨p0, p1, p2, p3, p4⟩ := seen33 Q2.out.b1
  go_wp2_with fail
  refine (FU.out _ Q2.out.bel).mono ?_
  rintro e w3 ⟨rfl, c3⟩
  have Q3 := hide (Q2.out.next c3)
  clear c3 p0 p1 p2 p3 p4
  have szU := ofL_size U
  have hvt : fitW v0 = true := by
    cases hx : fitW v0 with
    | true => rfl
    | false => exact absurd (by rw [HT.out]; unfold fmtL; rw [hx]; rfl) hte
  have hTt : T = textL v0 := by rw [HT.out]; unfold fmtL; rw [if_pos hvt]
  have hUt : U = textL u := by rw [HU.out]; unfold fmtL; rw [if_pos HFU.out]
  have cp := carets_plain hvt HVF.out.2.2.2.2 (by rw [← hTt]; omega) HFU.out L.out.2.1
  rw [← hTt, ← hUt, HVF.out.1] at cp
  have h48 : ¬ 40 < T.length := h40
  have adT := add_runC ⟨#[126]⟩ (ofL T) (ofL (126 :: T)) rfl (by rw [ofL_size]; show 1 + _ ≤ _; omega)
  have adC := add_runC ⟨#[94]⟩ (ofL T) (ofL (94 :: T)) rfl (by rw [ofL_size]; show 1 + _ ≤ _; omega)
  have MT := hide (fun W => MatchR_any (ofL (126 :: T)) (ofL U) W)
  have MC := hide (fun W => MatchR_any (ofL (94 :: T)) (ofL U) W)
  have MS := hide (fun W => MatchR_any ⟨#[42]⟩ (ofL U) W)
  have MF := hide (fun W => MatchR_any (ofL T) (ofL T) W)
  have e42 : (⟨#[42]⟩ : ByteArray).data.toList = [42] := rfl
  rw [ofL_data, ofL_data] at MT MC
  rw [e42, ofL_data] at MS
  rw [ofL_data] at MF
  clear e42
  obtain ⟨cp1, cp2, cp3, cp4⟩ := cp
  rw [cp4] at MF
  generalize takesL (nParse (126 :: T)).2.2 U = mT at *
  generalize takesL (nParse (94 :: T)).2.2 U = mC at *
  generalize takesL (nParse [42]).2.2 U = mS at *
  generalize ofL (126 :: T) = tT at *
  generalize ofL (94 :: T) = tC at *
  have CP1 := hide cp1
  have CP2 := hide cp2
  have CP3 := hide cp3
  have HT2 := hide hTt
  have HU2 := hide hUt
  have HV2 := hide hvt
  clear cp1 cp2 cp3 cp4 hTt hUt hvt hte h48 h40 FV FU GU
  obtain ⟨p0, p1, p2, p3, p4⟩ := seen33 Q3.out.b0
  obtain ⟨q0, q1, q2, q3, q4⟩ := seen33 Q3.out.b1
  go_upto_region 6 with fail
  go_cut [46] from 31 (fun c wc => c = .bool false ∧ Hid (C3 w (.cells #[.string (ofL v.maj), .string (ofL v.min), .string (ofL v.pat), .slice a1 m1 k1, .slice none 0 0] 33) (.cells #[.string (ofL u.maj), .string (ofL u.min), .string (ofL u.pat), .slice a3 m3 k3, .slice a4 m4 k4] 33) (.cells #[.string (ofL x.maj), .string (ofL x.min), .string (ofL x.pat), .slice a5 m5 k5, .slice a6 m6 k6] 33) wc))
  case first =>
    by_cases h0 : v.maj = [48]
    · have hz : ((ofL v.maj).toList == [48]) = true := by rw [toL, ofL_data, h0]; rfl
      clear h0
      go_wp2_with fail
      go_meet
      exact ⟨rfl, Q3⟩
    · have hz : ((ofL v.maj).toList == [48]) = false := by rw [toL, ofL_data]; exact beq_eq_false_iff_ne.2 h0
      have HC := hide (CP1.out h0)
      clear h0
      go_wp2_with fail
      refine (MT.out _).mono ?_
      rintro e w4 ⟨rfl, c4⟩
      have Q4 := hide (Q3.out.next c4)
      clear c4
      cases mT
      · go_wp2_with fail
        go_meet
        exact ⟨rfl, Q4⟩
      · obtain rfl : mC = true := HC.out rfl
        go_wp2_with fail
        refine (MC.out _).mono ?_
        rintro e w5 ⟨rfl, c5⟩
        have Q5 := hide (Q4.out.next c5)
        clear c5
        go_wp2_with fail
        go_meet
        exact ⟨rfl, Q5⟩
  case rest =>
    obtain ⟨rfl, Q4⟩ := hcut
    clear p0 p1 p2 p3 p4 q0 q1 q2 q3 q4 Q1 Q2 Q3 CP1
    go_upto_region 8 with fail
    rename_i wd
    go_cut [73] from 47 (fun c wc => c = .bool false ∧ Hid (C3 w (.cells #[.string (ofL v.maj), .string (ofL v.min), .string (ofL v.pat), .slice a1 m1 k1, .slice none 0 0] 33) (.cells #[.string (ofL u.maj), .string (ofL u.min), .string (ofL u.pat), .slice a3 m3 k3, .slice a4 m4 k4] 33) (.cells #[.string (ofL x.maj), .string (ofL x.min), .string (ofL x.pat), .slice a5 m5 k5, .slice a6 m6 k6] 33) wc))
    case first =>
      go_wp2_with fail
      refine (MC.out _).mono ?_
      rintro e w5 ⟨rfl, c5⟩
      have Q5 := hide (Q4.out.next c5)
      clear c5
      obtain ⟨p0, p1, p2, p3, p4⟩ := seen33 Q5.out.b0
      obtain ⟨q0, q1, q2, q3, q4⟩ := seen33 Q5.out.b1
      cases mC
      · by_cases h3 : m3 = 0
        · have hm0 : decide (0 < (m3 : Int)) = false := decide_eq_false (by omega)
          have hm0' : decide (0 < m3) = false := decide_eq_false (by omega)
          clear h3
          go_wp2_with fail
          refine (MF.out _).mono ?_
          rintro e w7 ⟨rfl, c7⟩
          have Q7 := hide (Q5.out.next c7)
          clear c7
          go_wp2_with fail
          go_meet
          exact ⟨rfl, Q7⟩
        · have hm0 : decide (0 < (m3 : Int)) = true := decide_eq_true (by omega)
          have hm0' : decide (0 < m3) = true := decide_eq_true (by omega)
          obtain rfl : mS = false := CP3.out (by intro h; have := HM3.out; rw [h] at this; simp at this; omega)
          clear h3
          go_wp2_with fail
          refine (MS.out _).mono ?_
          rintro e w6 ⟨rfl, c6⟩
          have Q6 := hide (Q5.out.next c6)
          clear c6
          go_wp2_with fail
          refine (MF.out _).mono ?_
          rintro e w7 ⟨rfl, c7⟩
          have Q7 := hide (Q6.out.next c7)
          clear c7
          go_wp2_with fail
          go_meet
          exact ⟨rfl, Q7⟩
      · have hm : ((ofL u.maj).toList == (ofL v.maj).toList) = true := by rw [CP2.out rfl]; exact beq_self_eq_true _
        have hm5 : (!(ofL u.maj).toList == (ofL v.maj).toList) = false := by rw [hm]; rfl
        have hm6 : decide (ofL u.maj = ofL v.maj) = true := by rw [CP2.out rfl]; simp
        have hm7 : (ofL u.maj = ofL v.maj) = True := by rw [CP2.out rfl]; simp
        by_cases h3 : m3 = 0
        · have hm0 : decide (0 < (m3 : Int)) = false := decide_eq_false (by omega)
          have hm0' : decide (0 < m3) = false := decide_eq_false (by omega)
          clear h3
          go_wp2_with fail
          refine (MF.out _).mono ?_
          rintro e w7 ⟨rfl, c7⟩
          have Q7 := hide (Q5.out.next c7)
          clear c7
          go_wp2_with fail
          go_meet
          exact ⟨rfl, Q7⟩
        · have hm0 : decide (0 < (m3 : Int)) = true := decide_eq_true (by omega)
          have hm0' : decide (0 < m3) = true := decide_eq_true (by omega)
          obtain rfl : mS = false := CP3.out (by intro h; have := HM3.out; rw [h] at this; simp at this; omega)
          clear h3
          go_wp2_with fail
          refine (MS.out _).mono ?_
          rintro e w6 ⟨rfl, c6⟩
          have Q6 := hide (Q5.out.next c6)
          clear c6
          go_wp2_with fail
          refine (MF.out _).mono ?_
          rintro e w7 ⟨rfl, c7⟩
          have Q7 := hide (Q6.out.next c7)
          clear c7
          go_wp2_with fail
          go_meet
          exact ⟨rfl, Q7⟩
    case rest =>
      obtain ⟨rfl, Q7⟩ := hcut
      clear Q4 MT MC MS MF CP2 CP3 adT adC szT szU hb hd
      have bm1 : m1 ≤ 1048576 := by have h1 := (lenI_ge v.pre).1; have h2 := L.out.1; rw [← HM1.out]; have e := HVF.out.2.2.2.1; rw [← e] at h1 ⊢; unfold lenS at h2; omega
      have bm3 : m3 ≤ 1048576 := by have h1 := (lenI_ge u.pre).1; have h2 := L.out.2.1; rw [← HM3.out]; unfold lenS at h2; omega
      have bm5 : m5 ≤ 1048576 := by have h1 := (lenI_ge x.pre).1; have h2 := L.out.2.2; rw [← HM5.out]; unfold lenS at h2; omega
      have P1 := hide (fun W => NParse_any s W)
      have HSH := hide (parse_shorts s.data.toList)
      unfold NPost at P1
      generalize nParse s.data.toList = R at *
      obtain ⟨re, ra, l⟩ := R
      dsimp only at P1 HSH
      go_wp2_with fail
      refine (P1.out _).mono ?_
      rintro e w8 ⟨vl, rfl, hv, c8⟩
      clear P1
      obtain ⟨la, lk, rfl, hjunk⟩ := id hv
      clear hjunk
      have b8 := (Below.refl _ w8).alloc (Nat.le_refl _) (.cells #[.int .i64 re, .int .i64 ra] 25)
      have Q8 := hide ((Q7.out.next c8).next b8)
      have HV := hide (hv.below b8)
      have r0 : (w8.alloc (.cells #[.int .i64 re, .int .i64 ra] 25)).cell? ⟨w8.heap.size, 0, none⟩ = some (.int .i64 re) := cell_at 0 (World.alloc_heap_new w8 _) rfl
      clear hv b8 c8
      dsimp only
      go_upto_region 11 with fail
      generalize w8.alloc (.cells #[.int .i64 re, .int .i64 ra] 25) = W8 at *
      generalize w8.heap.size = X8 at *
      by_cases hre : re = 0
      case neg =>
        have hne : (re == 0) = false := by simpa using hre
        generalize l.length = n at *
        go_wp2_with fail
        refine (AW.out _).mono ?_
        rintro e z1 ⟨rfl, d1⟩
        have Z9 := hide (Q8.out.next d1)
        clear d1
        go_wp2_with fail
        go_ret
        exact ⟨rfl, Z9.out.bel⟩
      subst hre
      by_cases hl1 : l.length = 1
      case neg =>
        have hn1 : ((l.length : Int) == 1) = false := by simp; omega
        have hn2 : ((l.length : Int) != 1) = true := by simp; omega
        have hn3 : ¬ ((l.length : Int) = 1) := by omega
        generalize l.length = n at *
        clear hl1
        go_wp2_with fail
        refine (AW.out _).mono ?_
        rintro e z2 ⟨rfl, d2⟩
        have Z9 := hide (Q8.out.next d2)
        clear d2
        go_wp2_with fail
        go_ret
        exact ⟨rfl, Z9.out.bel⟩
      rw [hl1] at HV ⊢
      obtain ⟨cs, rfl⟩ := List.length_eq_one_iff.1 hl1
      clear hl1
      obtain ⟨p0, p1, p2, p3, p4⟩ := seen33 Q8.out.b0
      obtain ⟨q0, q1, q2, q3, q4⟩ := seen33 Q8.out.b1
      obtain ⟨t0, t1, t2, t3, t4⟩ := seen33 Q8.out.b2
      by_cases hm : 0 < m1 + m3 + m5
      case pos =>
        have hmd : decide (0 < (m1 : Int) + (m3 : Int) + (m5 : Int)) = true := decide_eq_true (by omega)
        clear hm
        go_wp2_with fail
        refine (AW.out _).mono ?_
        rintro e z3 ⟨rfl, d3⟩
        have Z9 := hide (Q8.out.next d3)
        clear d3
        go_wp2_with fail
        go_ret
        exact ⟨rfl, Z9.out.bel⟩
      have hmd : decide (0 < (m1 : Int) + (m3 : Int) + (m5 : Int)) = false := decide_eq_false (by omega)
      have HMZ : Hid (m1 = 0 ∧ m3 = 0 ∧ m5 = 0) := ⟨by omega, by omega, by omega⟩
      clear hm
      go_wp2_with fail
      refine (OV.out _ Q8.out.bel).mono ?_
      rintro e y1 ⟨rfl, d1⟩
      have E1 := hide d1
      have R1 := hide (Q8.out.next d1)
      clear d1 p0 p1 p2 p3 p4 q0 q1 q2 q3 q4 t0 t1 t2 t3 t4
      obtain ⟨o1, ho1⟩ : ∃ o1, ordW v0 x = o1 := ⟨_, rfl⟩
      rw [ho1]
      have HO1 := hide ho1
      clear ho1
      by_cases hp1 : 0 < o1
      case pos =>
        have hp1d : decide (0 < o1) = true := decide_eq_true hp1
        clear hp1
        go_wp2_with fail
        refine (AW.out _).mono ?_
        rintro e z4 ⟨rfl, d4⟩
        have Z9 := hide (R1.out.next d4)
        clear d4
        go_wp2_with fail
        go_ret
        exact ⟨rfl, Z9.out.bel⟩
      have hp1d : decide (0 < o1) = false := decide_eq_false hp1
      have HP1 : Hid (o1 ≤ 0) := Int.not_lt.1 hp1
      clear hp1
      obtain ⟨q0, q1, q2, q3, q4⟩ := seen33 R1.out.b1
      obtain ⟨t0, t1, t2, t3, t4⟩ := seen33 R1.out.b2
      go_wp2_with fail
      refine (OX.out _ R1.out.bel).mono ?_
      rintro e y2 ⟨rfl, d2⟩
      have E2 := hide (E1.out.trans (d2.mono E1.out.size))
      have R2 := hide (R1.out.next d2)
      clear d2 q0 q1 q2 q3 q4 t0 t1 t2 t3 t4
      obtain ⟨o2, ho2⟩ : ∃ o2, ordW x u = o2 := ⟨_, rfl⟩
      rw [ho2]
      have HO2 := hide ho2
      clear ho2
      by_cases hp2 : 0 < o2
      case pos =>
        have hp2d : decide (0 < o2) = true := decide_eq_true hp2
        clear hp2
        go_wp2_with fail
        refine (AW.out _).mono ?_
        rintro e z5 ⟨rfl, d5⟩
        have Z9 := hide (R2.out.next d5)
        clear d5
        go_wp2_with fail
        go_ret
        exact ⟨rfl, Z9.out.bel⟩
      have hp2d : decide (0 < o2) = false := decide_eq_false hp2
      have HP2 : Hid (o2 ≤ 0) := Int.not_lt.1 hp2
      clear hp2
      obtain ⟨t0, t1, t2, t3, t4⟩ := seen33 R2.out.b2
      go_wp2_with fail
      refine (GX.out _ R2.out.bel).mono ?_
      rintro e y3 ⟨rfl, d3⟩
      have R8Y := hide (E2.out.trans (d3.mono E2.out.size))
      have R3 := hide (R2.out.next d3)
      clear d3 t0 t1 t2 t3 t4
      obtain ⟨fx, hfx⟩ : ∃ fx, fitW x = fx := ⟨_, rfl⟩
      rw [hfx]
      have HFX := hide hfx
      clear hfx
      cases fx
      case false =>
        go_wp2_with fail
        refine (AW.out _).mono ?_
        rintro e z6 ⟨rfl, d6⟩
        have Z9 := hide (R3.out.next d6)
        clear d6
        go_wp2_with fail
        go_ret
        exact ⟨rfl, Z9.out.bel⟩
      have HSV := hide ((HV.out.below (show Below W8.heap.size W8 y3 from R8Y.out)))
      obtain ⟨a', k', hv', h0 | ⟨b, o, rfl, hbl, hrow⟩⟩ := HSV.out
      · cases h0
      injection hv' with z1 z2 z3
      subst z1
      subst z3
      clear z2
      obtain ⟨u0, d0, hcs⟩ := hrow 0 (by simp)
      have d0' : y3.cell? ⟨b, o, none⟩ = some u0 := d0
      have hcs' : CompsAt y3 u0 cs := hcs
      obtain ⟨au, ku, rfl, hj⟩ := id hcs'
      clear hj d0 hcs hrow
      obtain ⟨hsl, hsc⟩ := HSH.out.2 cs (by simp)
      obtain ⟨mc, hmc⟩ : ∃ mc, cs.length = mc := ⟨_, rfl⟩
      rw [hmc] at d0' hcs'
      have S1 := hide (fun W (q : C4 w y3 (.cells #[.string (ofL v.maj), .string (ofL v.min), .string (ofL v.pat), .slice a1 m1 k1, .slice none 0 0] 33) (.cells #[.string (ofL u.maj), .string (ofL u.min), .string (ofL u.pat), .slice a3 m3 k3, .slice a4 m4 k4] 33) (.cells #[.string (ofL x.maj), .string (ofL x.min), .string (ofL x.pat), .slice a5 m5 k5, .slice a6 m6 k6] 33) ⟨b, o, none⟩ (.slice au mc ku) W) => Set_any cs v0 _ _ W (hcs'.below q.y) (SV.out W q.c.bel) hsc (short_of v0 L.out.1) hsl)
      have S2 := hide (fun W (q : C4 w y3 (.cells #[.string (ofL v.maj), .string (ofL v.min), .string (ofL v.pat), .slice a1 m1 k1, .slice none 0 0] 33) (.cells #[.string (ofL u.maj), .string (ofL u.min), .string (ofL u.pat), .slice a3 m3 k3, .slice a4 m4 k4] 33) (.cells #[.string (ofL x.maj), .string (ofL x.min), .string (ofL x.pat), .slice a5 m5 k5, .slice a6 m6 k6] 33) ⟨b, o, none⟩ (.slice au mc ku) W) => Set_any cs u _ _ W (hcs'.below q.y) (SU.out W q.c.bel) hsc (short_of u L.out.2.1) hsl)
      have S3 := hide (fun W (q : C4 w y3 (.cells #[.string (ofL v.maj), .string (ofL v.min), .string (ofL v.pat), .slice a1 m1 k1, .slice none 0 0] 33) (.cells #[.string (ofL u.maj), .string (ofL u.min), .string (ofL u.pat), .slice a3 m3 k3, .slice a4 m4 k4] 33) (.cells #[.string (ofL x.maj), .string (ofL x.min), .string (ofL x.pat), .slice a5 m5 k5, .slice a6 m6 k6] 33) ⟨b, o, none⟩ (.slice au mc ku) W) => Set_any cs x _ _ W (hcs'.below q.y) (SX.out W q.c.bel) hsc (short_of x L.out.2.2) hsl)
      have HB : Hid (setL cs v0 = true → setL cs u = true → setL cs x = true) := fun h1 h2 => set_between HFX.out (List.length_eq_zero_iff.1 (by rw [HM5.out]; exact HMZ.out.2.2)) h1 h2 (by rw [HO1.out]; exact HP1.out) (by rw [HO2.out]; exact HP2.out)
      have Z0 : Hid (C4 w y3 (.cells #[.string (ofL v.maj), .string (ofL v.min), .string (ofL v.pat), .slice a1 m1 k1, .slice none 0 0] 33) (.cells #[.string (ofL u.maj), .string (ofL u.min), .string (ofL u.pat), .slice a3 m3 k3, .slice a4 m4 k4] 33) (.cells #[.string (ofL x.maj), .string (ofL x.min), .string (ofL x.pat), .slice a5 m5 k5, .slice a6 m6 k6] 33) ⟨b, o, none⟩ (.slice au mc ku) y3) := ⟨R3.out, Below.refl _ y3, hbl, d0'⟩
      generalize setL cs v0 = s1 at *
      generalize setL cs u = s2 at *
      generalize setL cs x = s3 at *
      clear hmc hsl hsc hcs' SV SU SX OV OX GX HSH HV HSV HO1 HO2 HP1 HP2 HM1 HM3 HM5 HVF HMZ L R1 R2 E1 E2 R8Y Q8 Q7 bm1 bm3 bm5 hmd r0
      have BD := hide (Z0.out.next (drew_below y3.heap.size y3))
      obtain ⟨x0p0, x0p1, x0p2, x0p3, x0p4⟩ := seen33 Z0.out.c.b0; obtain ⟨x0q0, x0q1, x0q2, x0q3, x0q4⟩ := seen33 Z0.out.c.b1; obtain ⟨x0t0, x0t1, x0t2, x0t3, x0t4⟩ := seen33 Z0.out.c.b2; have x0l := Z0.out.l
      cases s1
      case false =>
        clear S2 S3 HB
        go_wp2_with fail
        refine (wpIn_wide (n := 5)).1 ?_
        refine wpIn_region_any (by kernel_rfl) ?_
        change wpAnyIn _ _ _ _ _ _ _ _ _ (World.drew _)
        refine wpAnyIn_take (i := 0) (v := ?_) rfl rfl (by kernel_rfl) (by kernel_rfl) (by kernel_rfl) (fun _ _ _ h => h) ⟨Or.inl ⟨by rfl, ?_⟩, fun _ => rfl⟩ ?_
        rotate_left
        · intro w; go_simp
          try with_reducible rfl
        refine wpAnyIn_take (i := 1) (v := ?_) rfl rfl (by kernel_rfl) (by kernel_rfl) (by kernel_rfl) (fun _ _ _ h => h) ⟨Or.inl ⟨by rfl, ?_⟩, fun _ => rfl⟩ ?_
        rotate_left
        · intro w; go_simp
          try with_reducible rfl
        refine wpAnyIn_ready (rs := [2, 3]) (by kernel_rfl) (by simp) ?_
        refine AllReadyIn.cons rfl (fun K hK => ?_) ?_
        · go_simp
          refine hK _ _ ?_
          clear hK K
          refine wpAnyIn_ready (rs := [3]) (by kernel_rfl) (by simp) ?_
          refine AllReadyIn.cons rfl (fun K hK => ?_) ?_
          · go_simp
            refine hK _ _ ?_
            clear hK K
            refine wpAnyIn_ready (rs := [4]) (by kernel_rfl) (by simp) ?_
            refine AllReadyIn.cons rfl (fun K hK => ?_) ?_
            · go_simp
              refine ⟨trivial, (callsIn_wide.2 (S1.out _ BD.out)).mono ?_⟩
              rintro e1 v1 ⟨rfl, b1⟩
              have PB1 := hide (BD.out.next b1)
              obtain ⟨x1p0, x1p1, x1p2, x1p3, x1p4⟩ := seen33 PB1.out.c.b0
              obtain ⟨x1q0, x1q1, x1q2, x1q3, x1q4⟩ := seen33 PB1.out.c.b1
              obtain ⟨x1t0, x1t1, x1t2, x1t3, x1t4⟩ := seen33 PB1.out.c.b2
              have x1l := PB1.out.l
              clear b1
              refine hK _ _ ?_
              clear hK K
              refine wpAnyIn_ready (rs := [5]) (by kernel_rfl) (by simp) ?_
              refine AllReadyIn.cons rfl (fun K hK => ?_) ?_
              · go_simp
                refine hK _ _ ?_
                clear hK K
                refine wpAnyIn_ready (rs := [6]) (by kernel_rfl) (by simp) ?_
                refine AllReadyIn.cons rfl (fun K hK => ?_) ?_
                · go_simp
                  refine hK _ _ ?_
                  clear hK K
                  refine wpAnyIn_take (i := 7) (v := undef) rfl rfl (by kernel_rfl) (by kernel_rfl) (by kernel_rfl) (fun _ _ _ h => h) ⟨Or.inr ⟨by rfl, rfl⟩, fun _ => rfl⟩ ?_
                  refine wpAnyIn_take (i := 8) (v := undef) rfl rfl (by kernel_rfl) (by kernel_rfl) (by kernel_rfl) (fun _ _ _ h => h) ⟨Or.inr ⟨by rfl, rfl⟩, fun _ => rfl⟩ ?_
                  refine wpAnyIn_take (i := 9) (v := undef) rfl rfl (by kernel_rfl) (by kernel_rfl) (by kernel_rfl) (fun _ _ _ h => h) ⟨Or.inr ⟨by rfl, rfl⟩, fun _ => rfl⟩ ?_
                  refine wpAnyIn_ready (rs := [10]) (by kernel_rfl) (by simp) ?_
                  refine AllReadyIn.cons rfl (fun K hK => ?_) ?_
                  · go_simp
                    refine hK _ _ ?_
                    clear hK K
                    refine wpAnyIn_ready (rs := [11]) (by kernel_rfl) (by simp) ?_
                    refine AllReadyIn.cons rfl (fun K hK => ?_) ?_
                    · go_simp
                      refine ⟨trivial, ?_⟩
                      refine hK _ _ ?_
                      clear hK K
                      refine wpAnyIn_ready (rs := [12]) (by kernel_rfl) (by simp) ?_
                      refine AllReadyIn.cons rfl (fun K hK => ?_) ?_
                      · go_simp
                        refine hK _ _ ?_
                        clear hK K
                        refine wpAnyIn_ready (rs := [13]) (by kernel_rfl) (by simp) ?_
                        refine AllReadyIn.cons rfl (fun K hK => ?_) ?_
                        · go_simp
                          refine hK _ _ ?_
                          clear hK K
                          refine wpAnyIn_ready (rs := [14]) (by kernel_rfl) (by simp) ?_
                          refine AllReadyIn.cons rfl (fun K hK => ?_) ?_
                          · go_simp
                            refine hK _ _ ?_
                            clear hK K
                            refine wpAnyIn_take (i := 15) (v := undef) rfl rfl (by kernel_rfl) (by kernel_rfl) (by kernel_rfl) (fun _ _ _ h => h) ⟨Or.inr ⟨by rfl, rfl⟩, fun _ => rfl⟩ ?_
                            refine wpAnyIn_take (i := 16) (v := undef) rfl rfl (by kernel_rfl) (by kernel_rfl) (by kernel_rfl) (fun _ _ _ h => h) ⟨Or.inr ⟨by rfl, rfl⟩, fun _ => rfl⟩ ?_
                            refine wpAnyIn_take (i := 17) (v := undef) rfl rfl (by kernel_rfl) (by kernel_rfl) (by kernel_rfl) (fun _ _ _ h => h) ⟨Or.inr ⟨by rfl, rfl⟩, fun _ => rfl⟩ ?_
                            refine wpAnyIn_ready (rs := [18]) (by kernel_rfl) (by simp) ?_
                            refine AllReadyIn.cons rfl (fun K hK => ?_) ?_
                            · go_simp
                              refine hK _ _ ?_
                              clear hK K
                              refine wpAnyIn_ready (rs := [19]) (by kernel_rfl) (by simp) ?_
                              refine AllReadyIn.cons rfl (fun K hK => ?_) ?_
                              · go_simp
                                refine ⟨trivial, ?_⟩
                                refine hK _ _ ?_
                                clear hK K
                                refine wpAnyIn_ready (rs := [20]) (by kernel_rfl) (by simp) ?_
                                refine AllReadyIn.cons rfl (fun K hK => ?_) ?_
                                · go_simp
                                  refine hK _ _ ?_
                                  clear hK K
                                  refine wpAnyIn_ready (rs := [21]) (by kernel_rfl) (by simp) ?_
                                  refine AllReadyIn.cons rfl (fun K hK => ?_) ?_
                                  · go_simp
                                    refine hK _ _ ?_
                                    clear hK K
                                    refine wpAnyIn_ready (rs := [22]) (by kernel_rfl) (by simp) ?_
                                    refine AllReadyIn.cons rfl (fun K hK => ?_) ?_
                                    · go_simp
                                      refine ⟨trivial, (callsIn_wide.2 (AW.out _)).mono ?_⟩
                                      rintro e4 v4 ⟨rfl, b4⟩
                                      have PB4 := hide (PB1.out.next b4)
                                      clear b4
                                      refine hK _ _ ?_
                                      clear hK K
                                      refine wpAnyIn_ready (rs := [23]) (by kernel_rfl) (by simp) ?_
                                      refine AllReadyIn.cons rfl (fun K hK => ?_) ?_
                                      · go_simp
                                        refine hK _ _ ?_
                                        clear hK K
                                        refine wpAnyIn_ready (rs := [24]) (by kernel_rfl) (by simp) ?_
                                        refine AllReadyIn.cons rfl (fun K hK => ?_) ?_
                                        · go_simp
                                          refine hK _ _ ?_
                                          clear hK K
                                          refine wpAnyIn_done (by kernel_rfl) ?_ _
                                          go_wp2_with fail
                                          go_ret
                                          exact ⟨rfl, PB4.out.c.bel⟩
                                        exact AllReadyIn.nil
                                      exact AllReadyIn.nil
                                    exact AllReadyIn.nil
                                  exact AllReadyIn.nil
                                exact AllReadyIn.nil
                              exact AllReadyIn.nil
                            exact AllReadyIn.nil
                          exact AllReadyIn.nil
                        exact AllReadyIn.nil
                      exact AllReadyIn.nil
                    exact AllReadyIn.nil
                  exact AllReadyIn.nil
                exact AllReadyIn.nil
              exact AllReadyIn.nil
            exact AllReadyIn.nil
          exact AllReadyIn.nil
        refine AllReadyIn.cons rfl (fun K hK => ?_) ?_
        · go_simp
          refine hK _ _ ?_
          clear hK K
          refine wpAnyIn_ready (rs := [2]) (by kernel_rfl) (by simp) ?_
          refine AllReadyIn.cons rfl (fun K hK => ?_) ?_
          · go_simp
            refine hK _ _ ?_
            clear hK K
            refine wpAnyIn_ready (rs := [4]) (by kernel_rfl) (by simp) ?_
            refine AllReadyIn.cons rfl (fun K hK => ?_) ?_
            · go_simp
              refine ⟨trivial, (callsIn_wide.2 (S1.out _ BD.out)).mono ?_⟩
              rintro e1 v1 ⟨rfl, b1⟩
              have PB1 := hide (BD.out.next b1)
              obtain ⟨x1p0, x1p1, x1p2, x1p3, x1p4⟩ := seen33 PB1.out.c.b0
              obtain ⟨x1q0, x1q1, x1q2, x1q3, x1q4⟩ := seen33 PB1.out.c.b1
              obtain ⟨x1t0, x1t1, x1t2, x1t3, x1t4⟩ := seen33 PB1.out.c.b2
              have x1l := PB1.out.l
              clear b1
              refine hK _ _ ?_
              clear hK K
              refine wpAnyIn_ready (rs := [5]) (by kernel_rfl) (by simp) ?_
              refine AllReadyIn.cons rfl (fun K hK => ?_) ?_
              · go_simp
                refine hK _ _ ?_
                clear hK K
                refine wpAnyIn_ready (rs := [6]) (by kernel_rfl) (by simp) ?_
                refine AllReadyIn.cons rfl (fun K hK => ?_) ?_
                · go_simp
                  refine hK _ _ ?_
                  clear hK K
                  refine wpAnyIn_take (i := 7) (v := undef) rfl rfl (by kernel_rfl) (by kernel_rfl) (by kernel_rfl) (fun _ _ _ h => h) ⟨Or.inr ⟨by rfl, rfl⟩, fun _ => rfl⟩ ?_
                  refine wpAnyIn_take (i := 8) (v := undef) rfl rfl (by kernel_rfl) (by kernel_rfl) (by kernel_rfl) (fun _ _ _ h => h) ⟨Or.inr ⟨by rfl, rfl⟩, fun _ => rfl⟩ ?_
                  refine wpAnyIn_take (i := 9) (v := undef) rfl rfl (by kernel_rfl) (by kernel_rfl) (by kernel_rfl) (fun _ _ _ h => h) ⟨Or.inr ⟨by rfl, rfl⟩, fun _ => rfl⟩ ?_
                  refine wpAnyIn_ready (rs := [10]) (by kernel_rfl) (by simp) ?_
                  refine AllReadyIn.cons rfl (fun K hK => ?_) ?_
                  · go_simp
                    refine hK _ _ ?_
                    clear hK K
                    refine wpAnyIn_ready (rs := [11]) (by kernel_rfl) (by simp) ?_
                    refine AllReadyIn.cons rfl (fun K hK => ?_) ?_
                    · go_simp
                      refine ⟨trivial, ?_⟩
                      refine hK _ _ ?_
                      clear hK K
                      refine wpAnyIn_ready (rs := [12]) (by kernel_rfl) (by simp) ?_
                      refine AllReadyIn.cons rfl (fun K hK => ?_) ?_
                      · go_simp
                        refine hK _ _ ?_
                        clear hK K
                        refine wpAnyIn_ready (rs := [13]) (by kernel_rfl) (by simp) ?_
                        refine AllReadyIn.cons rfl (fun K hK => ?_) ?_
                        · go_simp
                          refine hK _ _ ?_
                          clear hK K
                          refine wpAnyIn_ready (rs := [14]) (by kernel_rfl) (by simp) ?_
                          refine AllReadyIn.cons rfl (fun K hK => ?_) ?_
                          · go_simp
                            refine hK _ _ ?_
                            clear hK K
                            refine wpAnyIn_take (i := 15) (v := undef) rfl rfl (by kernel_rfl) (by kernel_rfl) (by kernel_rfl) (fun _ _ _ h => h) ⟨Or.inr ⟨by rfl, rfl⟩, fun _ => rfl⟩ ?_
                            refine wpAnyIn_take (i := 16) (v := undef) rfl rfl (by kernel_rfl) (by kernel_rfl) (by kernel_rfl) (fun _ _ _ h => h) ⟨Or.inr ⟨by rfl, rfl⟩, fun _ => rfl⟩ ?_
                            refine wpAnyIn_take (i := 17) (v := undef) rfl rfl (by kernel_rfl) (by kernel_rfl) (by kernel_rfl) (fun _ _ _ h => h) ⟨Or.inr ⟨by rfl, rfl⟩, fun _ => rfl⟩ ?_
                            refine wpAnyIn_ready (rs := [18]) (by kernel_rfl) (by simp) ?_
                            refine AllReadyIn.cons rfl (fun K hK => ?_) ?_
                            · go_simp
                              refine hK _ _ ?_
                              clear hK K
                              refine wpAnyIn_ready (rs := [19]) (by kernel_rfl) (by simp) ?_
                              refine AllReadyIn.cons rfl (fun K hK => ?_) ?_
                              · go_simp
                                refine ⟨trivial, ?_⟩
                                refine hK _ _ ?_
                                clear hK K
                                refine wpAnyIn_ready (rs := [20]) (by kernel_rfl) (by simp) ?_
                                refine AllReadyIn.cons rfl (fun K hK => ?_) ?_
                                · go_simp
                                  refine hK _ _ ?_
                                  clear hK K
                                  refine wpAnyIn_ready (rs := [21]) (by kernel_rfl) (by simp) ?_
                                  refine AllReadyIn.cons rfl (fun K hK => ?_) ?_
                                  · go_simp
                                    refine hK _ _ ?_
                                    clear hK K
                                    refine wpAnyIn_ready (rs := [22]) (by kernel_rfl) (by simp) ?_
                                    refine AllReadyIn.cons rfl (fun K hK => ?_) ?_
                                    · go_simp
                                      refine ⟨trivial, (callsIn_wide.2 (AW.out _)).mono ?_⟩
                                      rintro e4 v4 ⟨rfl, b4⟩
                                      have PB4 := hide (PB1.out.next b4)
                                      clear b4
                                      refine hK _ _ ?_
                                      clear hK K
                                      refine wpAnyIn_ready (rs := [23]) (by kernel_rfl) (by simp) ?_
                                      refine AllReadyIn.cons rfl (fun K hK => ?_) ?_
                                      · go_simp
                                        refine hK _ _ ?_
                                        clear hK K
                                        refine wpAnyIn_ready (rs := [24]) (by kernel_rfl) (by simp) ?_
                                        refine AllReadyIn.cons rfl (fun K hK => ?_) ?_
                                        · go_simp
                                          refine hK _ _ ?_
                                          clear hK K
                                          refine wpAnyIn_done (by kernel_rfl) ?_ _
                                          go_wp2_with fail
                                          go_ret
                                          exact ⟨rfl, PB4.out.c.bel⟩
                                        exact AllReadyIn.nil
                                      exact AllReadyIn.nil
                                    exact AllReadyIn.nil
                                  exact AllReadyIn.nil
                                exact AllReadyIn.nil
                              exact AllReadyIn.nil
                            exact AllReadyIn.nil
                          exact AllReadyIn.nil
                        exact AllReadyIn.nil
                      exact AllReadyIn.nil
                    exact AllReadyIn.nil
                  exact AllReadyIn.nil
                exact AllReadyIn.nil
              exact AllReadyIn.nil
            exact AllReadyIn.nil
          exact AllReadyIn.nil
        exact AllReadyIn.nil
      cases s2
      case false =>
        clear S3 HB
        go_wp2_with fail
        refine (wpIn_wide (n := 5)).1 ?_
        refine wpIn_region_any (by kernel_rfl) ?_
        change wpAnyIn _ _ _ _ _ _ _ _ _ (World.drew _)
        refine wpAnyIn_take (i := 0) (v := ?_) rfl rfl (by kernel_rfl) (by kernel_rfl) (by kernel_rfl) (fun _ _ _ h => h) ⟨Or.inl ⟨by rfl, ?_⟩, fun _ => rfl⟩ ?_
        rotate_left
        · intro w; go_simp
          try with_reducible rfl
        refine wpAnyIn_take (i := 1) (v := ?_) rfl rfl (by kernel_rfl) (by kernel_rfl) (by kernel_rfl) (fun _ _ _ h => h) ⟨Or.inl ⟨by rfl, ?_⟩, fun _ => rfl⟩ ?_
        rotate_left
        · intro w; go_simp
          try with_reducible rfl
        refine wpAnyIn_ready (rs := [2, 3]) (by kernel_rfl) (by simp) ?_
        refine AllReadyIn.cons rfl (fun K hK => ?_) ?_
        · go_simp
          refine hK _ _ ?_
          clear hK K
          refine wpAnyIn_ready (rs := [3]) (by kernel_rfl) (by simp) ?_
          refine AllReadyIn.cons rfl (fun K hK => ?_) ?_
          · go_simp
            refine hK _ _ ?_
            clear hK K
            refine wpAnyIn_ready (rs := [4]) (by kernel_rfl) (by simp) ?_
            refine AllReadyIn.cons rfl (fun K hK => ?_) ?_
            · go_simp
              refine ⟨trivial, (callsIn_wide.2 (S1.out _ BD.out)).mono ?_⟩
              rintro e1 v1 ⟨rfl, b1⟩
              have PB1 := hide (BD.out.next b1)
              obtain ⟨x1p0, x1p1, x1p2, x1p3, x1p4⟩ := seen33 PB1.out.c.b0
              obtain ⟨x1q0, x1q1, x1q2, x1q3, x1q4⟩ := seen33 PB1.out.c.b1
              obtain ⟨x1t0, x1t1, x1t2, x1t3, x1t4⟩ := seen33 PB1.out.c.b2
              have x1l := PB1.out.l
              clear b1
              refine hK _ _ ?_
              clear hK K
              refine wpAnyIn_ready (rs := [5]) (by kernel_rfl) (by simp) ?_
              refine AllReadyIn.cons rfl (fun K hK => ?_) ?_
              · go_simp
                refine hK _ _ ?_
                clear hK K
                refine wpAnyIn_ready (rs := [6]) (by kernel_rfl) (by simp) ?_
                refine AllReadyIn.cons rfl (fun K hK => ?_) ?_
                · go_simp
                  refine hK _ _ ?_
                  clear hK K
                  refine wpAnyIn_take (i := 7) (v := ?_) rfl rfl (by kernel_rfl) (by kernel_rfl) (by kernel_rfl) (fun _ _ _ h => h) ⟨Or.inl ⟨by rfl, ?_⟩, fun _ => rfl⟩ ?_
                  rotate_left
                  · intro w; go_simp
                    try with_reducible rfl
                  refine wpAnyIn_take (i := 8) (v := ?_) rfl rfl (by kernel_rfl) (by kernel_rfl) (by kernel_rfl) (fun _ _ _ h => h) ⟨Or.inl ⟨by rfl, ?_⟩, fun _ => rfl⟩ ?_
                  rotate_left
                  · intro w; go_simp
                    try with_reducible rfl
                  refine wpAnyIn_ready (rs := [9, 10]) (by kernel_rfl) (by simp) ?_
                  refine AllReadyIn.cons rfl (fun K hK => ?_) ?_
                  · go_simp
                    refine hK _ _ ?_
                    clear hK K
                    refine wpAnyIn_ready (rs := [10]) (by kernel_rfl) (by simp) ?_
                    refine AllReadyIn.cons rfl (fun K hK => ?_) ?_
                    · go_simp
                      refine hK _ _ ?_
                      clear hK K
                      refine wpAnyIn_ready (rs := [11]) (by kernel_rfl) (by simp) ?_
                      refine AllReadyIn.cons rfl (fun K hK => ?_) ?_
                      · go_simp
                        refine ⟨trivial, (callsIn_wide.2 (S2.out _ PB1.out)).mono ?_⟩
                        rintro e2 v2 ⟨rfl, b2⟩
                        have PB2 := hide (PB1.out.next b2)
                        obtain ⟨x2p0, x2p1, x2p2, x2p3, x2p4⟩ := seen33 PB2.out.c.b0
                        obtain ⟨x2q0, x2q1, x2q2, x2q3, x2q4⟩ := seen33 PB2.out.c.b1
                        obtain ⟨x2t0, x2t1, x2t2, x2t3, x2t4⟩ := seen33 PB2.out.c.b2
                        have x2l := PB2.out.l
                        clear b2
                        refine hK _ _ ?_
                        clear hK K
                        refine wpAnyIn_ready (rs := [12]) (by kernel_rfl) (by simp) ?_
                        refine AllReadyIn.cons rfl (fun K hK => ?_) ?_
                        · go_simp
                          refine hK _ _ ?_
                          clear hK K
                          refine wpAnyIn_ready (rs := [13]) (by kernel_rfl) (by simp) ?_
                          refine AllReadyIn.cons rfl (fun K hK => ?_) ?_
                          · go_simp
                            refine hK _ _ ?_
                            clear hK K
                            refine wpAnyIn_ready (rs := [14]) (by kernel_rfl) (by simp) ?_
                            refine AllReadyIn.cons rfl (fun K hK => ?_) ?_
                            · go_simp
                              refine hK _ _ ?_
                              clear hK K
                              refine wpAnyIn_take (i := 15) (v := undef) rfl rfl (by kernel_rfl) (by kernel_rfl) (by kernel_rfl) (fun _ _ _ h => h) ⟨Or.inr ⟨by rfl, rfl⟩, fun _ => rfl⟩ ?_
                              refine wpAnyIn_take (i := 16) (v := undef) rfl rfl (by kernel_rfl) (by kernel_rfl) (by kernel_rfl) (fun _ _ _ h => h) ⟨Or.inr ⟨by rfl, rfl⟩, fun _ => rfl⟩ ?_
                              refine wpAnyIn_take (i := 17) (v := undef) rfl rfl (by kernel_rfl) (by kernel_rfl) (by kernel_rfl) (fun _ _ _ h => h) ⟨Or.inr ⟨by rfl, rfl⟩, fun _ => rfl⟩ ?_
                              refine wpAnyIn_ready (rs := [18]) (by kernel_rfl) (by simp) ?_
                              refine AllReadyIn.cons rfl (fun K hK => ?_) ?_
                              · go_simp
                                refine hK _ _ ?_
                                clear hK K
                                refine wpAnyIn_ready (rs := [19]) (by kernel_rfl) (by simp) ?_
                                refine AllReadyIn.cons rfl (fun K hK => ?_) ?_
                                · go_simp
                                  refine ⟨trivial, ?_⟩
                                  refine hK _ _ ?_
                                  clear hK K
                                  refine wpAnyIn_ready (rs := [20]) (by kernel_rfl) (by simp) ?_
                                  refine AllReadyIn.cons rfl (fun K hK => ?_) ?_
                                  · go_simp
                                    refine hK _ _ ?_
                                    clear hK K
                                    refine wpAnyIn_ready (rs := [21]) (by kernel_rfl) (by simp) ?_
                                    refine AllReadyIn.cons rfl (fun K hK => ?_) ?_
                                    · go_simp
                                      refine hK _ _ ?_
                                      clear hK K
                                      refine wpAnyIn_ready (rs := [22]) (by kernel_rfl) (by simp) ?_
                                      refine AllReadyIn.cons rfl (fun K hK => ?_) ?_
                                      · go_simp
                                        refine ⟨trivial, (callsIn_wide.2 (AW.out _)).mono ?_⟩
                                        rintro e4 v4 ⟨rfl, b4⟩
                                        have PB4 := hide (PB2.out.next b4)
                                        clear b4
                                        refine hK _ _ ?_
                                        clear hK K
                                        refine wpAnyIn_ready (rs := [23]) (by kernel_rfl) (by simp) ?_
                                        refine AllReadyIn.cons rfl (fun K hK => ?_) ?_
                                        · go_simp
                                          refine hK _ _ ?_
                                          clear hK K
                                          refine wpAnyIn_ready (rs := [24]) (by kernel_rfl) (by simp) ?_
                                          refine AllReadyIn.cons rfl (fun K hK => ?_) ?_
                                          · go_simp
                                            refine hK _ _ ?_
                                            clear hK K
                                            refine wpAnyIn_done (by kernel_rfl) ?_ _
                                            go_wp2_with fail
                                            go_ret
                                            exact ⟨rfl, PB4.out.c.bel⟩
                                          exact AllReadyIn.nil
                                        exact AllReadyIn.nil
                                      exact AllReadyIn.nil
                                    exact AllReadyIn.nil
                                  exact AllReadyIn.nil
                                exact AllReadyIn.nil
                              exact AllReadyIn.nil
                            exact AllReadyIn.nil
                          exact AllReadyIn.nil
                        exact AllReadyIn.nil
                      exact AllReadyIn.nil
                    exact AllReadyIn.nil
                  refine AllReadyIn.cons rfl (fun K hK => ?_) ?_
                  · go_simp
                    refine hK _ _ ?_
                    clear hK K
                    refine wpAnyIn_ready (rs := [9]) (by kernel_rfl) (by simp) ?_
                    refine AllReadyIn.cons rfl (fun K hK => ?_) ?_
                    · go_simp
                      refine hK _ _ ?_
                      clear hK K
                      refine wpAnyIn_ready (rs := [11]) (by kernel_rfl) (by simp) ?_
                      refine AllReadyIn.cons rfl (fun K hK => ?_) ?_
                      · go_simp
                        refine ⟨trivial, (callsIn_wide.2 (S2.out _ PB1.out)).mono ?_⟩
                        rintro e2 v2 ⟨rfl, b2⟩
                        have PB2 := hide (PB1.out.next b2)
                        obtain ⟨x2p0, x2p1, x2p2, x2p3, x2p4⟩ := seen33 PB2.out.c.b0
                        obtain ⟨x2q0, x2q1, x2q2, x2q3, x2q4⟩ := seen33 PB2.out.c.b1
                        obtain ⟨x2t0, x2t1, x2t2, x2t3, x2t4⟩ := seen33 PB2.out.c.b2
                        have x2l := PB2.out.l
                        clear b2
                        refine hK _ _ ?_
                        clear hK K
                        refine wpAnyIn_ready (rs := [12]) (by kernel_rfl) (by simp) ?_
                        refine AllReadyIn.cons rfl (fun K hK => ?_) ?_
                        · go_simp
                          refine hK _ _ ?_
                          clear hK K
                          refine wpAnyIn_ready (rs := [13]) (by kernel_rfl) (by simp) ?_
                          refine AllReadyIn.cons rfl (fun K hK => ?_) ?_
                          · go_simp
                            refine hK _ _ ?_
                            clear hK K
                            refine wpAnyIn_ready (rs := [14]) (by kernel_rfl) (by simp) ?_
                            refine AllReadyIn.cons rfl (fun K hK => ?_) ?_
                            · go_simp
                              refine hK _ _ ?_
                              clear hK K
                              refine wpAnyIn_take (i := 15) (v := undef) rfl rfl (by kernel_rfl) (by kernel_rfl) (by kernel_rfl) (fun _ _ _ h => h) ⟨Or.inr ⟨by rfl, rfl⟩, fun _ => rfl⟩ ?_
                              refine wpAnyIn_take (i := 16) (v := undef) rfl rfl (by kernel_rfl) (by kernel_rfl) (by kernel_rfl) (fun _ _ _ h => h) ⟨Or.inr ⟨by rfl, rfl⟩, fun _ => rfl⟩ ?_
                              refine wpAnyIn_take (i := 17) (v := undef) rfl rfl (by kernel_rfl) (by kernel_rfl) (by kernel_rfl) (fun _ _ _ h => h) ⟨Or.inr ⟨by rfl, rfl⟩, fun _ => rfl⟩ ?_
                              refine wpAnyIn_ready (rs := [18]) (by kernel_rfl) (by simp) ?_
                              refine AllReadyIn.cons rfl (fun K hK => ?_) ?_
                              · go_simp
                                refine hK _ _ ?_
                                clear hK K
                                refine wpAnyIn_ready (rs := [19]) (by kernel_rfl) (by simp) ?_
                                refine AllReadyIn.cons rfl (fun K hK => ?_) ?_
                                · go_simp
                                  refine ⟨trivial, ?_⟩
                                  refine hK _ _ ?_
                                  clear hK K
                                  refine wpAnyIn_ready (rs := [20]) (by kernel_rfl) (by simp) ?_
                                  refine AllReadyIn.cons rfl (fun K hK => ?_) ?_
                                  · go_simp
                                    refine hK _ _ ?_
                                    clear hK K
                                    refine wpAnyIn_ready (rs := [21]) (by kernel_rfl) (by simp) ?_
                                    refine AllReadyIn.cons rfl (fun K hK => ?_) ?_
                                    · go_simp
                                      refine hK _ _ ?_
                                      clear hK K
                                      refine wpAnyIn_ready (rs := [22]) (by kernel_rfl) (by simp) ?_
                                      refine AllReadyIn.cons rfl (fun K hK => ?_) ?_
                                      · go_simp
                                        refine ⟨trivial, (callsIn_wide.2 (AW.out _)).mono ?_⟩
                                        rintro e4 v4 ⟨rfl, b4⟩
                                        have PB4 := hide (PB2.out.next b4)
                                        clear b4
                                        refine hK _ _ ?_
                                        clear hK K
                                        refine wpAnyIn_ready (rs := [23]) (by kernel_rfl) (by simp) ?_
                                        refine AllReadyIn.cons rfl (fun K hK => ?_) ?_
                                        · go_simp
                                          refine hK _ _ ?_
                                          clear hK K
                                          refine wpAnyIn_ready (rs := [24]) (by kernel_rfl) (by simp) ?_
                                          refine AllReadyIn.cons rfl (fun K hK => ?_) ?_
                                          · go_simp
                                            refine hK _ _ ?_
                                            clear hK K
                                            refine wpAnyIn_done (by kernel_rfl) ?_ _
                                            go_wp2_with fail
                                            go_ret
                                            exact ⟨rfl, PB4.out.c.bel⟩
                                          exact AllReadyIn.nil
                                        exact AllReadyIn.nil
                                      exact AllReadyIn.nil
                                    exact AllReadyIn.nil
                                  exact AllReadyIn.nil
                                exact AllReadyIn.nil
                              exact AllReadyIn.nil
                            exact AllReadyIn.nil
                          exact AllReadyIn.nil
                        exact AllReadyIn.nil
                      exact AllReadyIn.nil
                    exact AllReadyIn.nil
                  exact AllReadyIn.nil
                exact AllReadyIn.nil
              exact AllReadyIn.nil
            exact AllReadyIn.nil
          exact AllReadyIn.nil
        refine AllReadyIn.cons rfl (fun K hK => ?_) ?_
        · go_simp
          refine hK _ _ ?_
          clear hK K
          refine wpAnyIn_ready (rs := [2]) (by kernel_rfl) (by simp) ?_
          refine AllReadyIn.cons rfl (fun K hK => ?_) ?_
          · go_simp
            refine hK _ _ ?_
            clear hK K
            refine wpAnyIn_ready (rs := [4]) (by kernel_rfl) (by simp) ?_
            refine AllReadyIn.cons rfl (fun K hK => ?_) ?_
            · go_simp
              refine ⟨trivial, (callsIn_wide.2 (S1.out _ BD.out)).mono ?_⟩
              rintro e1 v1 ⟨rfl, b1⟩
              have PB1 := hide (BD.out.next b1)
              obtain ⟨x1p0, x1p1, x1p2, x1p3, x1p4⟩ := seen33 PB1.out.c.b0
              obtain ⟨x1q0, x1q1, x1q2, x1q3, x1q4⟩ := seen33 PB1.out.c.b1
              obtain ⟨x1t0, x1t1, x1t2, x1t3, x1t4⟩ := seen33 PB1.out.c.b2
              have x1l := PB1.out.l
              clear b1
              refine hK _ _ ?_
              clear hK K
              refine wpAnyIn_ready (rs := [5]) (by kernel_rfl) (by simp) ?_
              refine AllReadyIn.cons rfl (fun K hK => ?_) ?_
              · go_simp
                refine hK _ _ ?_
                clear hK K
                refine wpAnyIn_ready (rs := [6]) (by kernel_rfl) (by simp) ?_
                refine AllReadyIn.cons rfl (fun K hK => ?_) ?_
                · go_simp
                  refine hK _ _ ?_
                  clear hK K
                  refine wpAnyIn_take (i := 7) (v := ?_) rfl rfl (by kernel_rfl) (by kernel_rfl) (by kernel_rfl) (fun _ _ _ h => h) ⟨Or.inl ⟨by rfl, ?_⟩, fun _ => rfl⟩ ?_
                  rotate_left
                  · intro w; go_simp
                    try with_reducible rfl
                  refine wpAnyIn_take (i := 8) (v := ?_) rfl rfl (by kernel_rfl) (by kernel_rfl) (by kernel_rfl) (fun _ _ _ h => h) ⟨Or.inl ⟨by rfl, ?_⟩, fun _ => rfl⟩ ?_
                  rotate_left
                  · intro w; go_simp
                    try with_reducible rfl
                  refine wpAnyIn_ready (rs := [9, 10]) (by kernel_rfl) (by simp) ?_
                  refine AllReadyIn.cons rfl (fun K hK => ?_) ?_
                  · go_simp
                    refine hK _ _ ?_
                    clear hK K
                    refine wpAnyIn_ready (rs := [10]) (by kernel_rfl) (by simp) ?_
                    refine AllReadyIn.cons rfl (fun K hK => ?_) ?_
                    · go_simp
                      refine hK _ _ ?_
                      clear hK K
                      refine wpAnyIn_ready (rs := [11]) (by kernel_rfl) (by simp) ?_
                      refine AllReadyIn.cons rfl (fun K hK => ?_) ?_
                      · go_simp
                        refine ⟨trivial, (callsIn_wide.2 (S2.out _ PB1.out)).mono ?_⟩
                        rintro e2 v2 ⟨rfl, b2⟩
                        have PB2 := hide (PB1.out.next b2)
                        obtain ⟨x2p0, x2p1, x2p2, x2p3, x2p4⟩ := seen33 PB2.out.c.b0
                        obtain ⟨x2q0, x2q1, x2q2, x2q3, x2q4⟩ := seen33 PB2.out.c.b1
                        obtain ⟨x2t0, x2t1, x2t2, x2t3, x2t4⟩ := seen33 PB2.out.c.b2
                        have x2l := PB2.out.l
                        clear b2
                        refine hK _ _ ?_
                        clear hK K
                        refine wpAnyIn_ready (rs := [12]) (by kernel_rfl) (by simp) ?_
                        refine AllReadyIn.cons rfl (fun K hK => ?_) ?_
                        · go_simp
                          refine hK _ _ ?_
                          clear hK K
                          refine wpAnyIn_ready (rs := [13]) (by kernel_rfl) (by simp) ?_
                          refine AllReadyIn.cons rfl (fun K hK => ?_) ?_
                          · go_simp
                            refine hK _ _ ?_
                            clear hK K
                            refine wpAnyIn_ready (rs := [14]) (by kernel_rfl) (by simp) ?_
                            refine AllReadyIn.cons rfl (fun K hK => ?_) ?_
                            · go_simp
                              refine hK _ _ ?_
                              clear hK K
                              refine wpAnyIn_take (i := 15) (v := undef) rfl rfl (by kernel_rfl) (by kernel_rfl) (by kernel_rfl) (fun _ _ _ h => h) ⟨Or.inr ⟨by rfl, rfl⟩, fun _ => rfl⟩ ?_
                              refine wpAnyIn_take (i := 16) (v := undef) rfl rfl (by kernel_rfl) (by kernel_rfl) (by kernel_rfl) (fun _ _ _ h => h) ⟨Or.inr ⟨by rfl, rfl⟩, fun _ => rfl⟩ ?_
                              refine wpAnyIn_take (i := 17) (v := undef) rfl rfl (by kernel_rfl) (by kernel_rfl) (by kernel_rfl) (fun _ _ _ h => h) ⟨Or.inr ⟨by rfl, rfl⟩, fun _ => rfl⟩ ?_
                              refine wpAnyIn_ready (rs := [18]) (by kernel_rfl) (by simp) ?_
                              refine AllReadyIn.cons rfl (fun K hK => ?_) ?_
                              · go_simp
                                refine hK _ _ ?_
                                clear hK K
                                refine wpAnyIn_ready (rs := [19]) (by kernel_rfl) (by simp) ?_
                                refine AllReadyIn.cons rfl (fun K hK => ?_) ?_
                                · go_simp
                                  refine ⟨trivial, ?_⟩
                                  refine hK _ _ ?_
                                  clear hK K
                                  refine wpAnyIn_ready (rs := [20]) (by kernel_rfl) (by simp) ?_
                                  refine AllReadyIn.cons rfl (fun K hK => ?_) ?_
                                  · go_simp
                                    refine hK _ _ ?_
                                    clear hK K
                                    refine wpAnyIn_ready (rs := [21]) (by kernel_rfl) (by simp) ?_
                                    refine AllReadyIn.cons rfl (fun K hK => ?_) ?_
                                    · go_simp
                                      refine hK _ _ ?_
                                      clear hK K
                                      refine wpAnyIn_ready (rs := [22]) (by kernel_rfl) (by simp) ?_
                                      refine AllReadyIn.cons rfl (fun K hK => ?_) ?_
                                      · go_simp
                                        refine ⟨trivial, (callsIn_wide.2 (AW.out _)).mono ?_⟩
                                        rintro e4 v4 ⟨rfl, b4⟩
                                        have PB4 := hide (PB2.out.next b4)
                                        clear b4
                                        refine hK _ _ ?_
                                        clear hK K
                                        refine wpAnyIn_ready (rs := [23]) (by kernel_rfl) (by simp) ?_
                                        refine AllReadyIn.cons rfl (fun K hK => ?_) ?_
                                        · go_simp
                                          refine hK _ _ ?_
                                          clear hK K
                                          refine wpAnyIn_ready (rs := [24]) (by kernel_rfl) (by simp) ?_
                                          refine AllReadyIn.cons rfl (fun K hK => ?_) ?_
                                          · go_simp
                                            refine hK _ _ ?_
                                            clear hK K
                                            refine wpAnyIn_done (by kernel_rfl) ?_ _
                                            go_wp2_with fail
                                            go_ret
                                            exact ⟨rfl, PB4.out.c.bel⟩
                                          exact AllReadyIn.nil
                                        exact AllReadyIn.nil
                                      exact AllReadyIn.nil
                                    exact AllReadyIn.nil
                                  exact AllReadyIn.nil
                                exact AllReadyIn.nil
                              exact AllReadyIn.nil
                            exact AllReadyIn.nil
                          exact AllReadyIn.nil
                        exact AllReadyIn.nil
                      exact AllReadyIn.nil
                    exact AllReadyIn.nil
                  refine AllReadyIn.cons rfl (fun K hK => ?_) ?_
                  · go_simp
                    refine hK _ _ ?_
                    clear hK K
                    refine wpAnyIn_ready (rs := [9]) (by kernel_rfl) (by simp) ?_
                    refine AllReadyIn.cons rfl (fun K hK => ?_) ?_
                    · go_simp
                      refine hK _ _ ?_
                      clear hK K
                      refine wpAnyIn_ready (rs := [11]) (by kernel_rfl) (by simp) ?_
                      refine AllReadyIn.cons rfl (fun K hK => ?_) ?_
                      · go_simp
                        refine ⟨trivial, (callsIn_wide.2 (S2.out _ PB1.out)).mono ?_⟩
                        rintro e2 v2 ⟨rfl, b2⟩
                        have PB2 := hide (PB1.out.next b2)
                        obtain ⟨x2p0, x2p1, x2p2, x2p3, x2p4⟩ := seen33 PB2.out.c.b0
                        obtain ⟨x2q0, x2q1, x2q2, x2q3, x2q4⟩ := seen33 PB2.out.c.b1
                        obtain ⟨x2t0, x2t1, x2t2, x2t3, x2t4⟩ := seen33 PB2.out.c.b2
                        have x2l := PB2.out.l
                        clear b2
                        refine hK _ _ ?_
                        clear hK K
                        refine wpAnyIn_ready (rs := [12]) (by kernel_rfl) (by simp) ?_
                        refine AllReadyIn.cons rfl (fun K hK => ?_) ?_
                        · go_simp
                          refine hK _ _ ?_
                          clear hK K
                          refine wpAnyIn_ready (rs := [13]) (by kernel_rfl) (by simp) ?_
                          refine AllReadyIn.cons rfl (fun K hK => ?_) ?_
                          · go_simp
                            refine hK _ _ ?_
                            clear hK K
                            refine wpAnyIn_ready (rs := [14]) (by kernel_rfl) (by simp) ?_
                            refine AllReadyIn.cons rfl (fun K hK => ?_) ?_
                            · go_simp
                              refine hK _ _ ?_
                              clear hK K
                              refine wpAnyIn_take (i := 15) (v := undef) rfl rfl (by kernel_rfl) (by kernel_rfl) (by kernel_rfl) (fun _ _ _ h => h) ⟨Or.inr ⟨by rfl, rfl⟩, fun _ => rfl⟩ ?_
                              refine wpAnyIn_take (i := 16) (v := undef) rfl rfl (by kernel_rfl) (by kernel_rfl) (by kernel_rfl) (fun _ _ _ h => h) ⟨Or.inr ⟨by rfl, rfl⟩, fun _ => rfl⟩ ?_
                              refine wpAnyIn_take (i := 17) (v := undef) rfl rfl (by kernel_rfl) (by kernel_rfl) (by kernel_rfl) (fun _ _ _ h => h) ⟨Or.inr ⟨by rfl, rfl⟩, fun _ => rfl⟩ ?_
                              refine wpAnyIn_ready (rs := [18]) (by kernel_rfl) (by simp) ?_
                              refine AllReadyIn.cons rfl (fun K hK => ?_) ?_
                              · go_simp
                                refine hK _ _ ?_
                                clear hK K
                                refine wpAnyIn_ready (rs := [19]) (by kernel_rfl) (by simp) ?_
                                refine AllReadyIn.cons rfl (fun K hK => ?_) ?_
                                · go_simp
                                  refine ⟨trivial, ?_⟩
                                  refine hK _ _ ?_
                                  clear hK K
                                  refine wpAnyIn_ready (rs := [20]) (by kernel_rfl) (by simp) ?_
                                  refine AllReadyIn.cons rfl (fun K hK => ?_) ?_
                                  · go_simp
                                    refine hK _ _ ?_
                                    clear hK K
                                    refine wpAnyIn_ready (rs := [21]) (by kernel_rfl) (by simp) ?_
                                    refine AllReadyIn.cons rfl (fun K hK => ?_) ?_
                                    · go_simp
                                      refine hK _ _ ?_
                                      clear hK K
                                      refine wpAnyIn_ready (rs := [22]) (by kernel_rfl) (by simp) ?_
                                      refine AllReadyIn.cons rfl (fun K hK => ?_) ?_
                                      · go_simp
                                        refine ⟨trivial, (callsIn_wide.2 (AW.out _)).mono ?_⟩
                                        rintro e4 v4 ⟨rfl, b4⟩
                                        have PB4 := hide (PB2.out.next b4)
                                        clear b4
                                        refine hK _ _ ?_
                                        clear hK K
                                        refine wpAnyIn_ready (rs := [23]) (by kernel_rfl) (by simp) ?_
                                        refine AllReadyIn.cons rfl (fun K hK => ?_) ?_
                                        · go_simp
                                          refine hK _ _ ?_
                                          clear hK K
                                          refine wpAnyIn_ready (rs := [24]) (by kernel_rfl) (by simp) ?_
                                          refine AllReadyIn.cons rfl (fun K hK => ?_) ?_
                                          · go_simp
                                            refine hK _ _ ?_
                                            clear hK K
                                            refine wpAnyIn_done (by kernel_rfl) ?_ _
                                            go_wp2_with fail
                                            go_ret
                                            exact ⟨rfl, PB4.out.c.bel⟩
                                          exact AllReadyIn.nil
                                        exact AllReadyIn.nil
                                      exact AllReadyIn.nil
                                    exact AllReadyIn.nil
                                  exact AllReadyIn.nil
                                exact AllReadyIn.nil
                              exact AllReadyIn.nil
                            exact AllReadyIn.nil
                          exact AllReadyIn.nil
                        exact AllReadyIn.nil
                      exact AllReadyIn.nil
                    exact AllReadyIn.nil
                  exact AllReadyIn.nil
                exact AllReadyIn.nil
              exact AllReadyIn.nil
            exact AllReadyIn.nil
          exact AllReadyIn.nil
        exact AllReadyIn.nil
      obtain rfl : s3 = true := HB.out rfl rfl
      go_wp2_with fail
      go_region_held3 (fun W' => W'.cell? ⟨b, o, none⟩ = some (.slice au mc ku) ∧ W'.cell? ⟨w.heap.size, 0, none⟩ = some (.string (ofL v.maj)) ∧ W'.cell? ⟨w.heap.size, 1, none⟩ = some (.string (ofL v.min)) ∧ W'.cell? ⟨w.heap.size, 2, none⟩ = some (.string (ofL v.pat)) ∧ W'.cell? ⟨w.heap.size, 3, none⟩ = some (.slice a1 m1 k1) ∧ W'.cell? ⟨w.heap.size, 4, none⟩ = some (.slice none 0 0) ∧ W'.cell? ⟨w.heap.size + 1, 0, none⟩ = some (.string (ofL u.maj)) ∧ W'.cell? ⟨w.heap.size + 1, 1, none⟩ = some (.string (ofL u.min)) ∧ W'.cell? ⟨w.heap.size + 1, 2, none⟩ = some (.string (ofL u.pat)) ∧ W'.cell? ⟨w.heap.size + 1, 3, none⟩ = some (.slice a3 m3 k3) ∧ W'.cell? ⟨w.heap.size + 1, 4, none⟩ = some (.slice a4 m4 k4) ∧ W'.cell? ⟨w.heap.size + 1 + 1, 0, none⟩ = some (.string (ofL x.maj)) ∧ W'.cell? ⟨w.heap.size + 1 + 1, 1, none⟩ = some (.string (ofL x.min)) ∧ W'.cell? ⟨w.heap.size + 1 + 1, 2, none⟩ = some (.string (ofL x.pat)) ∧ W'.cell? ⟨w.heap.size + 1 + 1, 3, none⟩ = some (.slice a5 m5 k5) ∧ W'.cell? ⟨w.heap.size + 1 + 1, 4, none⟩ = some (.slice a6 m6 k6)) (go_keep) ((first
            | (go_at_call 12; (first | refine (AW.out _).mono ?_); rintro e4 v4 ⟨rfl, b4⟩; (first | have PB4 := hide (PB3.out.next b4) | have PB4 := hide (PB2.out.next b4) | have PB4 := hide (PB1.out.next b4)); obtain ⟨x4p0, x4p1, x4p2, x4p3, x4p4⟩ := seen33 PB4.out.c.b0; obtain ⟨x4q0, x4q1, x4q2, x4q3, x4q4⟩ := seen33 PB4.out.c.b1; obtain ⟨x4t0, x4t1, x4t2, x4t3, x4t4⟩ := seen33 PB4.out.c.b2; have x4l := PB4.out.l; clear b4)
            | (go_at_call 17; refine (S3.out _ PB2.out).mono ?_; rintro e3 v3 ⟨rfl, b3⟩; have PB3 := hide (PB2.out.next b3); obtain ⟨x3p0, x3p1, x3p2, x3p3, x3p4⟩ := seen33 PB3.out.c.b0; obtain ⟨x3q0, x3q1, x3q2, x3q3, x3q4⟩ := seen33 PB3.out.c.b1; obtain ⟨x3t0, x3t1, x3t2, x3t3, x3t4⟩ := seen33 PB3.out.c.b2; have x3l := PB3.out.l; clear b3)
            | (go_at_call 17; refine (S2.out _ PB1.out).mono ?_; rintro e2 v2 ⟨rfl, b2⟩; have PB2 := hide (PB1.out.next b2); obtain ⟨x2p0, x2p1, x2p2, x2p3, x2p4⟩ := seen33 PB2.out.c.b0; obtain ⟨x2q0, x2q1, x2q2, x2q3, x2q4⟩ := seen33 PB2.out.c.b1; obtain ⟨x2t0, x2t1, x2t2, x2t3, x2t4⟩ := seen33 PB2.out.c.b2; have x2l := PB2.out.l; clear b2)
            | (go_at_call 17; refine (S1.out _ BD.out).mono ?_; rintro e1 v1 ⟨rfl, b1⟩; have PB1 := hide (BD.out.next b1); obtain ⟨x1p0, x1p1, x1p2, x1p3, x1p4⟩ := seen33 PB1.out.c.b0; obtain ⟨x1q0, x1q1, x1q2, x1q3, x1q4⟩ := seen33 PB1.out.c.b1; obtain ⟨x1t0, x1t1, x1t2, x1t3, x1t4⟩ := seen33 PB1.out.c.b2; have x1l := PB1.out.l; clear b1)
            | fail))
      all_goals
        go_wp2_with fail
        go_ret
        exact ⟨rfl, PB4.out.c.bel⟩

end Go.Proofs.YtaflflelcdcanaaGreat
