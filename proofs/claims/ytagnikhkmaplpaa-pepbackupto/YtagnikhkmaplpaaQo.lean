/-
  Walks: the texts of fit versions, normal forms.
-/
import Derived.Test.YtagnikhkmaplpaaQk
import Derived.Test.YtagnikhkmaplpaaQl
import Derived.Test.YtagnikhkmaplpaaQm
import Derived.Test.YtagnikhkmaplpaaQn
import Derived.Test.YtagnikhkmaplpaaPv
namespace Go.Proofs.Ytagnikhkmaplpaa
open Go.RowKit Go.Shelf
set_option linter.unusedVariables false

theorem Text_any (x : PepL) (r1 q1 : Option Addr) (c1 d1 : Nat) (w : World) (rr : Txt w (.slice r1 x.rel.length c1) x.rel) (ll : Txt w (.slice q1 x.loc.length d1) x.loc) (k1 : x.rel.length ≤ c1) (k2 : x.loc.length ≤ d1) (hx : SmallP x) (hf : FitT x) :
    Calls Try.prog 11 #[.agg #[.string (ofL x.ep), .slice r1 x.rel.length c1, .int .u8 x.c, .string (ofL x.n), .bool x.b, .string (ofL x.m), .bool x.d, .string (ofL x.k), .slice q1 x.loc.length d1]] w fun e w' => e = .returned (.string (ofL (textP x))) ∧ Below w.heap.size w w' := by
  by_cases he : x.ep = [48]
  · by_cases hc : x.c = 0
    · cases hb : x.b
      · cases hd : x.d
        · by_cases hl : x.loc = []
          · exact (by simpa only [hb, hd] using Text_z0000 x r1 q1 c1 d1 w rr ll k1 k2 hx hf he hc hb hd hl)
          · exact (by simpa only [hb, hd] using Text_z0001 x r1 q1 c1 d1 w rr ll k1 k2 hx hf he hc hb hd hl)
        · by_cases hl : x.loc = []
          · exact (by simpa only [hb, hd] using Text_z0010 x r1 q1 c1 d1 w rr ll k1 k2 hx hf he hc hb hd hl)
          · exact (by simpa only [hb, hd] using Text_z0011 x r1 q1 c1 d1 w rr ll k1 k2 hx hf he hc hb hd hl)
      · cases hd : x.d
        · by_cases hl : x.loc = []
          · exact (by simpa only [hb, hd] using Text_z0100 x r1 q1 c1 d1 w rr ll k1 k2 hx hf he hc hb hd hl)
          · exact (by simpa only [hb, hd] using Text_z0101 x r1 q1 c1 d1 w rr ll k1 k2 hx hf he hc hb hd hl)
        · by_cases hl : x.loc = []
          · exact (by simpa only [hb, hd] using Text_z0110 x r1 q1 c1 d1 w rr ll k1 k2 hx hf he hc hb hd hl)
          · exact (by simpa only [hb, hd] using Text_z0111 x r1 q1 c1 d1 w rr ll k1 k2 hx hf he hc hb hd hl)
    · cases hb : x.b
      · cases hd : x.d
        · by_cases hl : x.loc = []
          · exact (by simpa only [hb, hd] using Text_z1000 x r1 q1 c1 d1 w rr ll k1 k2 hx hf he hc hb hd hl)
          · exact (by simpa only [hb, hd] using Text_z1001 x r1 q1 c1 d1 w rr ll k1 k2 hx hf he hc hb hd hl)
        · by_cases hl : x.loc = []
          · exact (by simpa only [hb, hd] using Text_z1010 x r1 q1 c1 d1 w rr ll k1 k2 hx hf he hc hb hd hl)
          · exact (by simpa only [hb, hd] using Text_z1011 x r1 q1 c1 d1 w rr ll k1 k2 hx hf he hc hb hd hl)
      · cases hd : x.d
        · by_cases hl : x.loc = []
          · exact (by simpa only [hb, hd] using Text_z1100 x r1 q1 c1 d1 w rr ll k1 k2 hx hf he hc hb hd hl)
          · exact (by simpa only [hb, hd] using Text_z1101 x r1 q1 c1 d1 w rr ll k1 k2 hx hf he hc hb hd hl)
        · by_cases hl : x.loc = []
          · exact (by simpa only [hb, hd] using Text_z1110 x r1 q1 c1 d1 w rr ll k1 k2 hx hf he hc hb hd hl)
          · exact (by simpa only [hb, hd] using Text_z1111 x r1 q1 c1 d1 w rr ll k1 k2 hx hf he hc hb hd hl)
  · by_cases hc : x.c = 0
    · cases hb : x.b
      · cases hd : x.d
        · by_cases hl : x.loc = []
          · exact (by simpa only [hb, hd] using Text_e0000 x r1 q1 c1 d1 w rr ll k1 k2 hx hf he hc hb hd hl)
          · exact (by simpa only [hb, hd] using Text_e0001 x r1 q1 c1 d1 w rr ll k1 k2 hx hf he hc hb hd hl)
        · by_cases hl : x.loc = []
          · exact (by simpa only [hb, hd] using Text_e0010 x r1 q1 c1 d1 w rr ll k1 k2 hx hf he hc hb hd hl)
          · exact (by simpa only [hb, hd] using Text_e0011 x r1 q1 c1 d1 w rr ll k1 k2 hx hf he hc hb hd hl)
      · cases hd : x.d
        · by_cases hl : x.loc = []
          · exact (by simpa only [hb, hd] using Text_e0100 x r1 q1 c1 d1 w rr ll k1 k2 hx hf he hc hb hd hl)
          · exact (by simpa only [hb, hd] using Text_e0101 x r1 q1 c1 d1 w rr ll k1 k2 hx hf he hc hb hd hl)
        · by_cases hl : x.loc = []
          · exact (by simpa only [hb, hd] using Text_e0110 x r1 q1 c1 d1 w rr ll k1 k2 hx hf he hc hb hd hl)
          · exact (by simpa only [hb, hd] using Text_e0111 x r1 q1 c1 d1 w rr ll k1 k2 hx hf he hc hb hd hl)
    · cases hb : x.b
      · cases hd : x.d
        · by_cases hl : x.loc = []
          · exact (by simpa only [hb, hd] using Text_e1000 x r1 q1 c1 d1 w rr ll k1 k2 hx hf he hc hb hd hl)
          · exact (by simpa only [hb, hd] using Text_e1001 x r1 q1 c1 d1 w rr ll k1 k2 hx hf he hc hb hd hl)
        · by_cases hl : x.loc = []
          · exact (by simpa only [hb, hd] using Text_e1010 x r1 q1 c1 d1 w rr ll k1 k2 hx hf he hc hb hd hl)
          · exact (by simpa only [hb, hd] using Text_e1011 x r1 q1 c1 d1 w rr ll k1 k2 hx hf he hc hb hd hl)
      · cases hd : x.d
        · by_cases hl : x.loc = []
          · exact (by simpa only [hb, hd] using Text_e1100 x r1 q1 c1 d1 w rr ll k1 k2 hx hf he hc hb hd hl)
          · exact (by simpa only [hb, hd] using Text_e1101 x r1 q1 c1 d1 w rr ll k1 k2 hx hf he hc hb hd hl)
        · by_cases hl : x.loc = []
          · exact (by simpa only [hb, hd] using Text_e1110 x r1 q1 c1 d1 w rr ll k1 k2 hx hf he hc hb hd hl)
          · exact (by simpa only [hb, hd] using Text_e1111 x r1 q1 c1 d1 w rr ll k1 k2 hx hf he hc hb hd hl)

theorem low_ok {l : List UInt8} (h : okP l = true) : (verX (lowL l)).1 = 0 ∧ l.length ≤ 64 := by
  unfold okP at h
  simp only [Bool.and_eq_true, decide_eq_true_eq] at h
  exact ⟨h.2, h.1⟩
theorem ok_fit {l : List UInt8} (h : okP l = true) : FitT (pepOf (lowL l)) := read_fit _ (low_idem l) (low_ok h).1

set_option maxRecDepth 100000 in
set_option maxHeartbeats 2000000 in
theorem Normal_ok (s : ByteArray) (X : PepL) (w : World) (h : okP s.data.toList = true) (hX : pepOf (lowL s.data.toList) = X) :
    Calls Try.prog 13 #[.string s] w fun e w' => e = .returned (.string (ofL (textP X))) ∧ Below w.heap.size w w' := by
  have P1 := fun w => Parse_ok s w h
  have SX : SmallP X := by
    rw [← hX]
    exact pep_small _ (by rw [lowL_len]; exact (low_ok h).2)
  have hf : FitT X := by rw [← hX]; exact ok_fit h
  rw [hX] at P1
  have TX := fun r1 q1 c1 d1 w rr ll k1 k2 => Text_any X r1 q1 c1 d1 w rr ll k1 k2 SX hf
  have P1 := hide P1
  have TX := hide TX
  generalize textP X = RS at *
  clear h hX SX hf
  go_enter Try.func13, Try.ntmps13
  go_wp2_with fail
  refine (P1.out _).mono ?_
  rintro e w1 ⟨vr, vl, rfl, t1, t2, k1, k2, b1⟩
  obtain ⟨r1, c1, rfl, _⟩ := id t1
  obtain ⟨q1, d1, rfl, _⟩ := id t2
  have k1 := k1 _ _ _ rfl
  have k2 := k2 _ _ _ rfl
  have bb : Below w1.heap.size w1 ((w1.alloc (.cells #[.string (ofL X.ep), .slice r1 X.rel.length c1, .int .u8 X.c, .string (ofL X.n), .bool X.b, .string (ofL X.m), .bool X.d, .string (ofL X.k), .slice q1 X.loc.length d1] 25)).alloc (.cells #[.int .i64 0, .int .i64 0] 28)) := ((Below.refl _ w1).alloc (Nat.le_refl _) _).alloc (by simp) _
  have T2 := hide (TX.out r1 q1 c1 d1 _ (t1.below bb) (t2.below bb) k1 k2)
  have B1 := b1.trans (bb.mono b1.size)
  clear t1 t2 b1
  try unfold pepV
  go_wp2_with fail
  refine T2.out.mono ?_
  rintro e w2 ⟨rfl, b2⟩
  go_wp2_with fail
  go_ret
  exact ⟨rfl, B1.trans (b2.mono B1.size)⟩

theorem trimB_nil : trimB [] = false := rfl
set_option maxRecDepth 100000 in
set_option maxHeartbeats 1000000 in
theorem Fit_zero (w : World) : Calls Try.prog 22 #[.agg pepZ] w fun e w' => e = .returned (.bool false) ∧ Below w.heap.size w w' := by
  have C1 := fun w => isTrimmed_any [] w (by simp)
  rw [trimB_nil] at C1
  have C1 := hide C1
  unfold pepZ
  go_enter Try.func22, Try.ntmps22
  go_wp2_with fail
  refine (C1.out _).mono ?_
  rintro e w' ⟨rfl, hw'⟩
  rw [hw']
  clear hw' w'
  go_wp2_with fail
  go_ret
  exact ⟨rfl, (Below.refl _ w).alloc (Nat.le_refl _) _⟩
set_option maxRecDepth 100000 in
set_option maxHeartbeats 1000000 in
theorem Text_zero (w : World) : Calls Try.prog 11 #[.agg pepZ] w fun e w' => e = .returned (.string ⟨#[]⟩) ∧ Below w.heap.size w w' := by
  have F := hide (fun w => Fit_zero w)
  unfold pepZ at *
  go_enter Try.func11, Try.ntmps11
  go_wp2_with fail
  refine (F.out _).mono ?_
  rintro e w1 ⟨rfl, b1⟩
  go_wp2_with fail
  go_ret
  exact ⟨rfl, ((Below.refl _ w).alloc (Nat.le_refl _) _).trans (b1.mono (by simp))⟩
set_option maxRecDepth 100000 in
set_option maxHeartbeats 1000000 in
theorem Normal_no (s : ByteArray) (w : World) (hs : s.size ≤ 140737488351232) (h : okP s.data.toList = false) :
    Calls Try.prog 13 #[.string s] w fun e w' => e = .returned (.string ⟨#[]⟩) ∧ Below w.heap.size w w' := by
  have P1 := hide (fun w => Parse_no s w hs h)
  have TX := hide (fun w => Text_zero w)
  generalize (errX s.data.toList).1 = E1 at *
  generalize ((errX s.data.toList).2 : Int) = E2 at *
  unfold pepZ at *
  clear h
  go_enter Try.func13, Try.ntmps13
  go_wp2_with fail
  refine (P1.out _).mono ?_
  rintro e w1 ⟨rfl, b1⟩
  go_wp2_with fail
  refine (TX.out _).mono ?_
  rintro e w2 ⟨rfl, b2⟩
  go_wp2_with fail
  go_ret
  exact ⟨rfl, b1.trans ((((Below.refl _ w1).alloc (Nat.le_refl _) _).alloc (by simp) _).trans (b2.mono (by simp; omega)) |>.mono b1.size)⟩

end Go.Proofs.Ytagnikhkmaplpaa
