/-
  Walks: tokens that are a version's.
-/
import Derived.Test.YtpedljmpobhimaaGreatDoorDs
import Derived.Test.YtpedljmpobhimaaGreatDoorLc
import Derived.Test.YtpedljmpobhimaaGreatDoorEc
namespace Go.Proofs.YtpedljmpobhimaaGreatDoor
open Go.RowKit Go.Shelf
set_option linter.unusedVariables false

end Go.Proofs.YtpedljmpobhimaaGreatDoor

/-
  Walks: whether a token is one, at any token; two rows of tokens compared.
-/
namespace Go.Proofs.YtpedljmpobhimaaGreatDoor
open Go.RowKit Go.Shelf
set_option linter.unusedVariables false

set_option maxRecDepth 100000 in
set_option maxHeartbeats 1000000 in
theorem token_gen (s : ByteArray) (turns : Bool) (w : World) (hs : s.size ≤ maxLen) :
    Calls Tryz.prog 97 #[.string s, .bool turns] w fun e w' => e = .returned (tokV (tokL false s.data.toList turns)) ∧ Below w.heap.size w w' := by
  have eR := World.alloc_heap_new w (.cells #[.bool false, .bool false, .string ⟨#[]⟩] 91)
  have b0 : Below w.heap.size w (w.alloc (.cells #[.bool false, .bool false, .string ⟨#[]⟩] 91)) := (Below.refl _ w).alloc (Nat.le_refl _) _
  by_cases h0 : 0 < s.size
  · have hne := eqE s h0
    have hne' : s.toList.isEmpty = false := by rw [toL]; exact emp s h0
    have HN : Hid (numB s.data.toList = isC (s[0].toNat : Int) 1) := by
      show _ = _
      have := drop_at s 0 h0
      rw [List.drop_zero] at this
      rw [this]; rfl
    cases h1 : isC (s[0].toNat : Int) 1
    · have HV : Hid (tokV (tokL false s.data.toList turns) = .agg #[.bool false, .bool false, .string (ofL (qualL (s.data.toList.map lowC) turns))]) := by
        show _ = _
        unfold tokL tokV
        rw [HN.out, h1]; rfl
      have CL := hide (fun w => Lower_any s w hs)
      have CQ := fun w => qualifier_any (ofL (s.data.toList.map lowC)) turns w
      rw [ofL_data] at CQ
      have CQ := hide CQ
      generalize tokV (tokL false s.data.toList turns) = TV at *
      generalize ofL (qualL (s.data.toList.map lowC) turns) = Q at *
      generalize ofL (s.data.toList.map lowC) = L at *
      go_enter Tryz.func97, Tryz.ntmps97
      go_wp2_with fail
      refine (Is_any _ _ _).mono ?_
      rintro e w' ⟨rfl, hw'⟩
      rw [hw']; clear hw' w'
      go_wp2_with fail
      refine (CL.out _).mono ?_
      rintro e w1 ⟨rfl, b1⟩
      have eR1 := (b1.block w.heap.size (by simp)).trans eR
      have bw := b0.trans (b1.mono (by simp))
      clear b1
      go_wp2_with fail
      refine (CQ.out _).mono ?_
      rintro e w' ⟨rfl, hw'⟩
      rw [hw']; clear hw' w'
      have z0 := one_free 0 eR1
      have z1 := one_free 1 eR1
      have z2 := one_free 2 eR1
      have r0 := cell_at 0 eR1 rfl
      have r1 := cell_at 1 eR1 rfl
      have r2 := cell_at 2 eR1 rfl
      go_wp2_with fail
      exact fin51 _ _ w.heap.size _ _ _ rfl (three_lies _ _ _ eR1) ⟨by rw [HV.out], bw.trans (three_below _ (Nat.le_refl _) _ _ _)⟩
    · have HV : Hid (tokV (tokL false s.data.toList turns) = .agg #[.bool false, .bool true, .string (ofL (trimL s.data.toList))]) := by
        show _ = _
        unfold tokL tokV
        rw [HN.out, h1]; rfl
      have CT := hide (fun w => Trim_any s w hs)
      generalize tokV (tokL false s.data.toList turns) = TV at *
      generalize ofL (trimL s.data.toList) = L at *
      go_enter Tryz.func97, Tryz.ntmps97
      go_wp2_with fail
      refine (Is_any _ _ _).mono ?_
      rintro e w' ⟨rfl, hw'⟩
      rw [hw']; clear hw' w'
      go_wp2_with fail
      refine (CT.out _).mono ?_
      rintro e w' ⟨rfl, hw'⟩
      rw [hw']; clear hw' w'
      go_wp2_with fail
      exact fin51 _ _ w.heap.size _ _ _ rfl (World.alloc_heap_new w _) ⟨by rw [HV.out], (Below.refl _ w).alloc (Nat.le_refl _) _⟩
  · obtain rfl := size0 s h0
    have CT := hide (fun w => Trim_any ⟨#[]⟩ w (by unfold maxLen; simp [ByteArray.size]))
    have HV : Hid (tokV (tokL false (⟨#[]⟩ : ByteArray).data.toList turns) = .agg #[.bool false, .bool true, .string (ofL (trimL (⟨#[]⟩ : ByteArray).data.toList))]) := rfl
    generalize tokV (tokL false (⟨#[]⟩ : ByteArray).data.toList turns) = TV at *
    generalize ofL (trimL (⟨#[]⟩ : ByteArray).data.toList) = L at *
    clear h0 hs
    go_enter Tryz.func97, Tryz.ntmps97
    go_wp2_with fail
    refine (CT.out _).mono ?_
    rintro e w' ⟨rfl, hw'⟩
    rw [hw']; clear hw' w'
    go_wp2_with fail
    exact fin51 _ _ w.heap.size _ _ _ rfl (World.alloc_heap_new w _) ⟨by rw [HV.out], (Below.refl _ w).alloc (Nat.le_refl _) _⟩


/-- Is a token as its text would be read again? -/
def isTokB (t : Tok) : Bool := (!t.num && (t.text == [])) || ((((tkN t.text : Int) == (t.text.length : Int)) && ((tokL false t.text false).num == t.num)) && ((tokL false t.text false).text == t.text))

end Go.Proofs.YtpedljmpobhimaaGreatDoor

/-
  Walks: two rows of tokens compared; whether tokens are a version's; their order.
-/
namespace Go.Proofs.YtpedljmpobhimaaGreatDoor
open Go.RowKit Go.Shelf
set_option linter.unusedVariables false

theorem toks_at {W : World} {a : Option Addr} {n cap : Nat} {ts : List Tok} (h : Toks W (.slice a n cap) ts) (hne : 0 < ts.length) : ∃ b off, a = some ⟨b, off, none⟩ ∧ b < W.heap.size ∧ TRow W b off ts := by
  obtain ⟨a', cap', hv, h0 | ⟨b, off, ha, hlt, hc⟩⟩ := h
  · subst h0; simp at hne
  · cases hv
    exact ⟨b, off, ha, hlt, hc⟩
theorem toks_n {W : World} {a : Option Addr} {n cap : Nat} {ts : List Tok} (h : Toks W (.slice a n cap) ts) : ts.length = n := by
  obtain ⟨a', cap', hv, _⟩ := h
  cases hv; rfl

/-- Are tokens a version's? -/
def fitB (ts : List Tok) : Bool := ts.all isTokB && decide (trimT ts = ts)

/-- The order of tokens, nought where one of the rows is no version's. -/
def ordF (xs ys : List Tok) : Int := if fitB xs && fitB ys then ordL xs ys else 0

end Go.Proofs.YtpedljmpobhimaaGreatDoor

/-
  Walks: which tokens are a version's, as the document says.
-/
namespace Go.Proofs.YtpedljmpobhimaaGreatDoor
open Go.RowKit Go.Shelf
set_option linter.unusedVariables false

set_option maxRecDepth 100000 in
set_option maxHeartbeats 2000000 in
theorem Rloose_t (g off n cap : Nat) (ts : List Tok) (hn0 : ts.length = n) (i : Nat) (w : World) (hgl : g < w.heap.size) (hW : TRow w g off ts) (hi : i < n) (hl : n ≤ 1000000000000) :
    Calls Tryz.prog 82 #[.slice (some ⟨g, off, none⟩) n cap, .int .i64 (i : Int)] w fun e w' => e = .returned (.bool (looseAt ts i)) ∧ Below w.heap.size w w' := by
  have hit : i < ts.length := by rw [hn0]; exact hi
  obtain ⟨c0, c1, c2⟩ := hW i hit
  have hgd : ts.getD i nilT = ts[i] := by rw [List.getD_eq_getElem?_getD, List.getElem?_eq_getElem hit]; rfl
  rw [← hgd] at c0 c1 c2
  clear hgd hit
  have NU := fun w => Rnull_any (ts.getD i nilT) w
  unfold tokV at NU
  have NU := hide NU
  have HLA : Hid (looseAt ts i = (nullB (ts.getD i nilT) && looseB (ts.getD (i + 1) nilT))) := rfl
  generalize looseAt ts i = R at *
  generalize ts.getD i nilT = t at *
  have HN0 := hide hn0
  clear hn0
  have hi' : (i : Int) < (n : Int) := by omega
  cases hn : nullB t
  · rw [hn] at NU
    go_enter Tryz.func82, Tryz.ntmps82
    go_wp2_with fail
    refine (NU.out _).mono ?_
    rintro e w1 ⟨rfl, b1⟩
    go_wp2_with fail
    go_ret
    exact ⟨by rw [HLA.out, hn]; rfl, b1⟩
  · rw [hn] at NU
    by_cases he : i + 1 = n
    · have heb : ((i : Int) + 1 == (n : Int)) = true := by simp; omega
      have hq : ts.getD (i + 1) nilT = nilT := by rw [List.getD_eq_getElem?_getD, List.getElem?_eq_none (by rw [HN0.out]; omega)]; rfl
      rw [hq] at HLA
      clear he hq
      go_enter Tryz.func82, Tryz.ntmps82
      go_wp2_with fail
      refine (NU.out _).mono ?_
      rintro e w1 ⟨rfl, b1⟩
      go_wp2_with fail
      go_ret
      exact ⟨by rw [HLA.out, hn]; rfl, b1⟩
    · have heb : ((i : Int) + 1 == (n : Int)) = false := by rw [beq_eq_false_iff_ne]; omega
      obtain ⟨k, hkk⟩ : ∃ k, k = i + 1 := ⟨_, rfl⟩
      have hkl : k < n := by omega
      have hki : (i : Int) + 1 = (k : Int) := by omega
      have hkl' : (k : Int) < (n : Int) := by omega
      have SE : Hid (∀ W, Below w.heap.size w W → W.cell? ⟨g, off + k * 3, none⟩ = some (.bool (ts.getD (i + 1) nilT).dash) ∧ W.cell? ⟨g, off + k * 3 + 1, none⟩ = some (.bool (ts.getD (i + 1) nilT).num)) := by
        intro W hb
        have hkt : k < ts.length := by rw [HN0.out]; exact hkl
        obtain ⟨q0, q1, _⟩ := (hW.of_block (hb.block g hgl)) k hkt
        have hgd : ts.getD (i + 1) nilT = ts[k] := by rw [← hkk, List.getD_eq_getElem?_getD, List.getElem?_eq_getElem hkt]; rfl
        rw [hgd]
        exact ⟨q0, q1⟩
      have HKK := hide hkk
      rw [hki] at heb
      clear hkk
      generalize ts.getD (i + 1) nilT = u at *
      cases hd : u.dash
      · cases hm : u.num
        · go_enter Tryz.func82, Tryz.ntmps82
          go_wp2_with fail
          refine (NU.out _).mono ?_
          rintro e w1 ⟨rfl, b1⟩
          obtain ⟨q0, q1⟩ := SE.out w1 b1
          rw [hd] at q0
          rw [hm] at q1
          go_wp2_with fail
          go_ret
          exact ⟨by rw [HLA.out, hn]; unfold looseB; rw [hd, hm]; rfl, b1⟩
        · go_enter Tryz.func82, Tryz.ntmps82
          go_wp2_with fail
          refine (NU.out _).mono ?_
          rintro e w1 ⟨rfl, b1⟩
          obtain ⟨q0, q1⟩ := SE.out w1 b1
          rw [hd] at q0
          rw [hm] at q1
          go_wp2_with fail
          go_ret
          exact ⟨by rw [HLA.out, hn]; unfold looseB; rw [hd, hm]; rfl, b1⟩
      · go_enter Tryz.func82, Tryz.ntmps82
        go_wp2_with fail
        refine (NU.out _).mono ?_
        rintro e w1 ⟨rfl, b1⟩
        obtain ⟨q0, q1⟩ := SE.out w1 b1
        rw [hd] at q0
        go_wp2_with fail
        go_ret
        exact ⟨by rw [HLA.out, hn]; unfold looseB; rw [hd]; rfl, b1⟩


/-- May a token's text have a byte? -/
def okC (num : Bool) (c : UInt8) : Bool := if num then isC (c.toNat : Int) 1 else (((decide (97 ≤ (c.toNat : Int)) && decide ((c.toNat : Int) ≤ 122)) || ((c.toNat : Int) == 95)) || ((c.toNat : Int) == 43))
/-- Is a token's text none that a token has? -/
def badN (x : List UInt8) : Bool := x.isEmpty || !(trimL x == x)
def badQ (x : List UInt8) : Bool := (((x == [99, 114]) || (x == [102, 105, 110, 97, 108])) || (x == [103, 97])) || (x == [114, 101, 108, 101, 97, 115, 101])
def badB (t : Tok) : Bool := if t.num then badN t.text else badQ t.text
/-- May a token stand at a place? -/
def oneR (ts : List Tok) (i : Nat) : Bool := ((ts.getD i nilT).text.all (okC (ts.getD i nilT).num) && !badB (ts.getD i nilT)) && !looseAt ts i
/-- Are tokens a version's, as the document says? -/
def fitR (ts : List Tok) : Bool := match ts with
  | [] => false
  | t :: r => !t.dash && ((r.isEmpty && t.num && (t.text == [48])) || (List.range (r.length + 1)).all (oneR (t :: r)))
theorem fitR_no (ts : List Tok) (t : Tok) (h0 : ts[0]? = some t) (h1 : (ts.length == 1 && t.num && (t.text == [48])) = false) (i : Nat) (hi : i < ts.length) (h : oneR ts i = false) : fitR ts = false := by
  cases ts with
  | nil => rfl
  | cons x r =>
    simp at h0
    subst h0
    dsimp only [fitR]
    have : (List.range (r.length + 1)).all (oneR (x :: r)) = false := by
      rw [List.all_eq_false]
      exact ⟨i, by rw [List.mem_range]; simpa using hi, by rw [h]; simp⟩
    rw [this]
    have e : r.isEmpty = ((x :: r).length == 1) := by cases r <;> simp
    rw [e, h1]; simp
theorem fitR_yes (ts : List Tok) (t : Tok) (h0 : ts[0]? = some t) (hd : t.dash = false) (h : ∀ i, i < ts.length → oneR ts i = true) : fitR ts = true := by
  cases ts with
  | nil => simp at h0
  | cons x r =>
    simp at h0
    subst h0
    dsimp only [fitR]
    have : (List.range (r.length + 1)).all (oneR (x :: r)) = true := by
      rw [List.all_eq_true]
      intro i hi
      exact h i (by rw [List.mem_range] at hi; simpa using hi)
    rw [this, hd]; simp

set_option maxRecDepth 100000 in
set_option maxHeartbeats 8000000 in
theorem RFit_any (a : Option Addr) (n cap : Nat) (ts : List Tok) (w : World) (hT : Toks w (.slice a n cap) ts) (hl : n ≤ 1048576) (hf : ∀ t ∈ ts, t.text.length ≤ 1048576) :
    Calls Tryz.prog 66 #[.slice a n cap] w fun e w' => e = .returned (.bool (fitR ts)) ∧ Below w.heap.size w w' := by
  have HL := hide (toks_n hT)
  have HT := hide hT
  have HF := hide hf
  clear hf hT
  cases hn0 : ((n : Int) == 0)
  · have hpos : 0 < n := by rw [beq_eq_false_iff_ne] at hn0; omega
    have htp : 0 < ts.length := by rw [HL.out]; exact hpos
    obtain ⟨b, off, rfl, hlb, hc⟩ := toks_at HT.out htp
    obtain ⟨t0, ht0⟩ := some_at ts 0 htp
    have h00 := hc 0 htp
    have he0 : ts[0] = t0 := by rw [List.getElem?_eq_getElem htp] at ht0; exact Option.some.inj ht0
    rw [he0] at h00
    obtain ⟨c0, c1, c2⟩ := h00
    simp only [Nat.zero_mul, Nat.add_zero] at c0 c1 c2
    have HC := hide hc
    have HT0 := hide ht0
    have hpos' : (0 : Int) < (n : Int) := by omega
    clear htp ht0 he0 hc HT
    obtain ⟨d0, m0, x0⟩ := t0
    dsimp only at c0 c1 c2
    cases d0
    · cases hn1 : ((n : Int) == 1)
      · have HNO : Hid (∀ i, i < ts.length → oneR ts i = false → fitR ts = false) := fun i hi h => fitR_no ts _ HT0.out (by
          have : (ts.length == 1) = false := by rw [HL.out, beq_eq_false_iff_ne]; rw [beq_eq_false_iff_ne] at hn1; omega
          rw [this]; rfl) i hi h
        go_enter Tryz.func66, Tryz.ntmps66
        go_wp2_with fail
        clear c0 c1 c2
        go_loopw [3] (fun y wr => ∃ i : Nat, i ≤ n ∧ y = .int .i64 i ∧ Below w.heap.size w wr ∧ Hid (∀ j, j < i → oneR ts j = true)) (fun y _ => n - (intOf y).toNat)
        case atStart => exact ⟨0, by omega, rfl, Below.refl _ _, fun j hj => by omega⟩
        case round =>
          obtain ⟨i, hi, rfl, hB, HD⟩ := hrel
          by_cases hin : i < n
          · have hin' : (i : Int) < (n : Int) := by omega
            have hit : i < ts.length := by rw [HL.out]; exact hin
            obtain ⟨c0, c1, c2⟩ := (HC.out.of_block (hB.block b hlb)) i hit
            have LO := hide (fun W (hW : Below w.heap.size w W) => Rloose_t b off n cap ts HL.out i W (Nat.lt_of_lt_of_le hlb hW.size) (HC.out.of_block (hW.block b hlb)) hin (by omega))
            have hgd : ts.getD i nilT = ts[i] := by rw [List.getD_eq_getElem?_getD, List.getElem?_eq_getElem hit]; rfl
            have HO : Hid (oneR ts i = ((ts[i].text.all (okC ts[i].num) && !badB ts[i]) && !looseAt ts i)) := by show _ = _; unfold oneR; rw [hgd]
            have hsl := HF.out ts[i] (List.getElem_mem hit)
            clear hgd
            generalize ts[i] = t at *
            obtain ⟨td, tn, tx⟩ := t
            dsimp only at c0 c1 c2 HO hsl
            obtain ⟨s, hs⟩ : ∃ s, s = ofL tx := ⟨_, rfl⟩
            have hsx : tx = s.data.toList := by rw [hs, ofL_data]
            rw [← hs] at c2
            have hsz : s.size ≤ 1048576 := by rw [hs, ofL_size]; exact hsl
            rw [hsx] at HO
            clear hsl hs hsx
            have TM := hide (fun w => RTrim_any s w (by unfold maxLen; omega))
            have HBN : Hid (badB ⟨td, true, s.data.toList⟩ = (s.toList.isEmpty || !((ofL (trimL s.data.toList)).toList == s.toList))) := by
              show _ = _
              rw [toL, toL, ofL_data]; rfl
            have HBQ : Hid (badB ⟨td, false, s.data.toList⟩ = ((((s.toList == [99, 114]) || (s.toList == [102, 105, 110, 97, 108])) || (s.toList == [103, 97])) || (s.toList == [114, 101, 108, 101, 97, 115, 101]))) := by
              show _ = _
              rw [toL]; rfl
            generalize ofL (trimL s.data.toList) = q at *
            cases tn
            · obtain ⟨p, HP⟩ : ∃ p, Hid (p = okC false) := ⟨_, rfl⟩
              rw [← HP.out] at HO
              go_wp2_with fail
              go_loop [5] (fun y => ∃ k : Nat, k ≤ s.size ∧ y = .int .i64 k ∧ Hid (s.data.toList.all p = (s.data.toList.drop k).all p)) (fun y => s.size - (intOf y).toNat)
              case atStart => exact ⟨0, by omega, rfl, rfl⟩
              case round =>
                obtain ⟨k, hk, rfl, HR⟩ := hrel
                by_cases hlt : k < s.size
                · have hlt' : (k : Int) < (s.size : Int) := by omega
                  by_cases h1 : 97 ≤ (s[k].toNat : Int)
                  · by_cases h2 : (s[k].toNat : Int) ≤ 122
                    · skip
                      have HX : Hid (p s[k] = true) := by show _ = _; rw [HP.out]; unfold okC; simp [h1, h2]
                      go_wp2_with fail
                      go_round
                      case rel => exact ⟨k + 1, by omega, by go_num, by show _ = _; rw [HR.out, drop_at s k hlt, List.all_cons, HX.out, Bool.true_and]⟩
                      case measure => simp [intOf]; omega
                    · cases h3 : ((s[k].toNat : Int) == 95)
                      · cases h4 : ((s[k].toNat : Int) == 43)
                        · skip
                          have HX : Hid (oneR ts i = false) := by show _ = _; rw [HO.out, HR.out, drop_at s k hlt, List.all_cons, show p s[k] = false by rw [HP.out]; unfold okC; simp [h1, h2, h3, h4]]; simp
                          go_wp2_with fail
                          go_ret
                          exact ⟨ret_b (HNO.out i hit HX.out).symm, hB⟩
                        · skip
                          have HX : Hid (p s[k] = true) := by show _ = _; rw [HP.out]; unfold okC; simp [h1, h2, h3, h4]
                          go_wp2_with fail
                          go_round
                          case rel => exact ⟨k + 1, by omega, by go_num, by show _ = _; rw [HR.out, drop_at s k hlt, List.all_cons, HX.out, Bool.true_and]⟩
                          case measure => simp [intOf]; omega
                      · skip
                        have HX : Hid (p s[k] = true) := by show _ = _; rw [HP.out]; unfold okC; simp [h1, h2, h3]
                        go_wp2_with fail
                        go_round
                        case rel => exact ⟨k + 1, by omega, by go_num, by show _ = _; rw [HR.out, drop_at s k hlt, List.all_cons, HX.out, Bool.true_and]⟩
                        case measure => simp [intOf]; omega
                  · cases h3 : ((s[k].toNat : Int) == 95)
                    · cases h4 : ((s[k].toNat : Int) == 43)
                      · skip
                        have HX : Hid (oneR ts i = false) := by show _ = _; rw [HO.out, HR.out, drop_at s k hlt, List.all_cons, show p s[k] = false by rw [HP.out]; unfold okC; simp [h1, h3, h4]]; simp
                        go_wp2_with fail
                        go_ret
                        exact ⟨ret_b (HNO.out i hit HX.out).symm, hB⟩
                      · skip
                        have HX : Hid (p s[k] = true) := by show _ = _; rw [HP.out]; unfold okC; simp [h1, h3, h4]
                        go_wp2_with fail
                        go_round
                        case rel => exact ⟨k + 1, by omega, by go_num, by show _ = _; rw [HR.out, drop_at s k hlt, List.all_cons, HX.out, Bool.true_and]⟩
                        case measure => simp [intOf]; omega
                    · skip
                      have HX : Hid (p s[k] = true) := by show _ = _; rw [HP.out]; unfold okC; simp [h1, h3]
                      go_wp2_with fail
                      go_round
                      case rel => exact ⟨k + 1, by omega, by go_num, by show _ = _; rw [HR.out, drop_at s k hlt, List.all_cons, HX.out, Bool.true_and]⟩
                      case measure => simp [intOf]; omega
                · have hlt' : ¬ (k : Int) < (s.size : Int) := by omega
                  have HA : Hid (s.data.toList.all p = true) := by show _ = _; rw [HR.out, drop_end s k (by omega)]; rfl
                  cases g1 : (s.toList == [99, 114])
                  · cases g2 : (s.toList == [102, 105, 110, 97, 108])
                    · cases g3 : (s.toList == [103, 97])
                      · cases g4 : (s.toList == [114, 101, 108, 101, 97, 115, 101])
                        · cases hL : looseAt ts i
                          · have HX : Hid (oneR ts i = true) := by show _ = _; rw [HO.out, HA.out, hL]; rw [HBQ.out]; simp [g1, g2, g3, g4]
                            go_wp2_with fail
                            refine (LO.out wr hB).mono ?_
                            rintro e w2 ⟨rfl, b2⟩
                            rw [hL]
                            have hB2 := hB.trans (b2.mono hB.size)
                            go_wp2_with fail
                            go_roundw
                            case rel => exact ⟨i + 1, by omega, by go_num, hB2, fun j hj => by by_cases e : j = i; subst e; exact HX.out; exact HD.out j (by omega)⟩
                            case measure => simp [intOf]; omega
                          · have HX : Hid (oneR ts i = false) := by show _ = _; rw [HO.out, hL]; simp
                            go_wp2_with fail
                            refine (LO.out wr hB).mono ?_
                            rintro e w2 ⟨rfl, b2⟩
                            rw [hL]
                            have hB2 := hB.trans (b2.mono hB.size)
                            go_wp2_with fail
                            go_ret
                            exact ⟨ret_b (HNO.out i hit HX.out).symm, hB2⟩
                        · have HX : Hid (oneR ts i = false) := by show _ = _; rw [HO.out]; rw [HBQ.out]; simp [g1, g2, g3, g4]
                          go_wp2_with fail
                          go_ret
                          exact ⟨ret_b (HNO.out i hit HX.out).symm, hB⟩
                      · have HX : Hid (oneR ts i = false) := by show _ = _; rw [HO.out]; rw [HBQ.out]; simp [g1, g2, g3]
                        go_wp2_with fail
                        go_ret
                        exact ⟨ret_b (HNO.out i hit HX.out).symm, hB⟩
                    · have HX : Hid (oneR ts i = false) := by show _ = _; rw [HO.out]; rw [HBQ.out]; simp [g1, g2]
                      go_wp2_with fail
                      go_ret
                      exact ⟨ret_b (HNO.out i hit HX.out).symm, hB⟩
                  · have HX : Hid (oneR ts i = false) := by show _ = _; rw [HO.out]; rw [HBQ.out]; simp [g1]
                    go_wp2_with fail
                    go_ret
                    exact ⟨ret_b (HNO.out i hit HX.out).symm, hB⟩
            · obtain ⟨p, HP⟩ : ∃ p, Hid (p = okC true) := ⟨_, rfl⟩
              rw [← HP.out] at HO
              go_wp2_with fail
              go_loop [5] (fun y => ∃ k : Nat, k ≤ s.size ∧ y = .int .i64 k ∧ Hid (s.data.toList.all p = (s.data.toList.drop k).all p)) (fun y => s.size - (intOf y).toNat)
              case atStart => exact ⟨0, by omega, rfl, rfl⟩
              case round =>
                obtain ⟨k, hk, rfl, HR⟩ := hrel
                by_cases hlt : k < s.size
                · have hlt' : (k : Int) < (s.size : Int) := by omega
                  cases h1 : isC (s[k].toNat : Int) 1
                  · skip
                    have HX : Hid (oneR ts i = false) := by show _ = _; rw [HO.out, HR.out, drop_at s k hlt, List.all_cons, show p s[k] = false by rw [HP.out]; unfold okC; rw [if_pos rfl, h1]]; simp
                    go_wp2_with fail
                    refine (Rdigit_any _ _).mono ?_
                    rintro e w' ⟨rfl, rfl⟩
                    go_wp2_with fail
                    go_ret
                    exact ⟨ret_b (HNO.out i hit HX.out).symm, hB⟩
                  · skip
                    have HX : Hid (p s[k] = true) := by show _ = _; rw [HP.out]; unfold okC; rw [if_pos rfl, h1]
                    go_wp2_with fail
                    refine (Rdigit_any _ _).mono ?_
                    rintro e w' ⟨rfl, rfl⟩
                    go_wp2_with fail
                    go_round
                    case rel => exact ⟨k + 1, by omega, by go_num, by show _ = _; rw [HR.out, drop_at s k hlt, List.all_cons, HX.out, Bool.true_and]⟩
                    case measure => simp [intOf]; omega
                · have hlt' : ¬ (k : Int) < (s.size : Int) := by omega
                  have HA : Hid (s.data.toList.all p = true) := by show _ = _; rw [HR.out, drop_end s k (by omega)]; rfl
                  cases hem : s.toList.isEmpty
                  · cases hq : (q.toList == s.toList)
                    · have HX : Hid (oneR ts i = false) := by show _ = _; rw [HO.out]; rw [HBN.out]; simp [hem, hq]
                      go_wp2_with fail
                      refine (TM.out _).mono ?_
                      rintro e w' ⟨rfl, hw'⟩
                      rw [hw']; clear hw' w'
                      go_wp2_with fail
                      go_ret
                      exact ⟨ret_b (HNO.out i hit HX.out).symm, hB⟩
                    · cases hL : looseAt ts i
                      · have HX : Hid (oneR ts i = true) := by show _ = _; rw [HO.out, HA.out, hL]; rw [HBN.out]; simp [hem, hq]
                        go_wp2_with fail
                        refine (TM.out _).mono ?_
                        rintro e w' ⟨rfl, hw'⟩
                        rw [hw']; clear hw' w'
                        go_wp2_with fail
                        refine (LO.out wr hB).mono ?_
                        rintro e w2 ⟨rfl, b2⟩
                        rw [hL]
                        have hB2 := hB.trans (b2.mono hB.size)
                        go_wp2_with fail
                        go_roundw
                        case rel => exact ⟨i + 1, by omega, by go_num, hB2, fun j hj => by by_cases e : j = i; subst e; exact HX.out; exact HD.out j (by omega)⟩
                        case measure => simp [intOf]; omega
                      · have HX : Hid (oneR ts i = false) := by show _ = _; rw [HO.out, hL]; simp
                        go_wp2_with fail
                        refine (TM.out _).mono ?_
                        rintro e w' ⟨rfl, hw'⟩
                        rw [hw']; clear hw' w'
                        go_wp2_with fail
                        refine (LO.out wr hB).mono ?_
                        rintro e w2 ⟨rfl, b2⟩
                        rw [hL]
                        have hB2 := hB.trans (b2.mono hB.size)
                        go_wp2_with fail
                        go_ret
                        exact ⟨ret_b (HNO.out i hit HX.out).symm, hB2⟩
                  · have HX : Hid (oneR ts i = false) := by show _ = _; rw [HO.out]; rw [HBN.out]; simp [hem]
                    go_wp2_with fail
                    go_ret
                    exact ⟨ret_b (HNO.out i hit HX.out).symm, hB⟩
          · have hin' : ¬ (i : Int) < (n : Int) := by omega
            have HV := hide (fitR_yes ts _ HT0.out rfl (fun j hj => HD.out j (by rw [HL.out] at hj; omega)))
            go_wp2_with fail
            go_ret
            exact ⟨ret_b HV.out.symm, hB⟩
      · cases m0
        · have HNO : Hid (∀ i, i < ts.length → oneR ts i = false → fitR ts = false) := fun i hi h => fitR_no ts _ HT0.out (by simp) i hi h
          go_enter Tryz.func66, Tryz.ntmps66
          go_wp2_with fail
          clear c0 c1 c2
          go_loopw [3] (fun y wr => ∃ i : Nat, i ≤ n ∧ y = .int .i64 i ∧ Below w.heap.size w wr ∧ Hid (∀ j, j < i → oneR ts j = true)) (fun y _ => n - (intOf y).toNat)
          case atStart => exact ⟨0, by omega, rfl, Below.refl _ _, fun j hj => by omega⟩
          case round =>
            obtain ⟨i, hi, rfl, hB, HD⟩ := hrel
            by_cases hin : i < n
            · have hin' : (i : Int) < (n : Int) := by omega
              have hit : i < ts.length := by rw [HL.out]; exact hin
              obtain ⟨c0, c1, c2⟩ := (HC.out.of_block (hB.block b hlb)) i hit
              have LO := hide (fun W (hW : Below w.heap.size w W) => Rloose_t b off n cap ts HL.out i W (Nat.lt_of_lt_of_le hlb hW.size) (HC.out.of_block (hW.block b hlb)) hin (by omega))
              have hgd : ts.getD i nilT = ts[i] := by rw [List.getD_eq_getElem?_getD, List.getElem?_eq_getElem hit]; rfl
              have HO : Hid (oneR ts i = ((ts[i].text.all (okC ts[i].num) && !badB ts[i]) && !looseAt ts i)) := by show _ = _; unfold oneR; rw [hgd]
              have hsl := HF.out ts[i] (List.getElem_mem hit)
              clear hgd
              generalize ts[i] = t at *
              obtain ⟨td, tn, tx⟩ := t
              dsimp only at c0 c1 c2 HO hsl
              obtain ⟨s, hs⟩ : ∃ s, s = ofL tx := ⟨_, rfl⟩
              have hsx : tx = s.data.toList := by rw [hs, ofL_data]
              rw [← hs] at c2
              have hsz : s.size ≤ 1048576 := by rw [hs, ofL_size]; exact hsl
              rw [hsx] at HO
              clear hsl hs hsx
              have TM := hide (fun w => RTrim_any s w (by unfold maxLen; omega))
              have HBN : Hid (badB ⟨td, true, s.data.toList⟩ = (s.toList.isEmpty || !((ofL (trimL s.data.toList)).toList == s.toList))) := by
                show _ = _
                rw [toL, toL, ofL_data]; rfl
              have HBQ : Hid (badB ⟨td, false, s.data.toList⟩ = ((((s.toList == [99, 114]) || (s.toList == [102, 105, 110, 97, 108])) || (s.toList == [103, 97])) || (s.toList == [114, 101, 108, 101, 97, 115, 101]))) := by
                show _ = _
                rw [toL]; rfl
              generalize ofL (trimL s.data.toList) = q at *
              cases tn
              · obtain ⟨p, HP⟩ : ∃ p, Hid (p = okC false) := ⟨_, rfl⟩
                rw [← HP.out] at HO
                go_wp2_with fail
                go_loop [5] (fun y => ∃ k : Nat, k ≤ s.size ∧ y = .int .i64 k ∧ Hid (s.data.toList.all p = (s.data.toList.drop k).all p)) (fun y => s.size - (intOf y).toNat)
                case atStart => exact ⟨0, by omega, rfl, rfl⟩
                case round =>
                  obtain ⟨k, hk, rfl, HR⟩ := hrel
                  by_cases hlt : k < s.size
                  · have hlt' : (k : Int) < (s.size : Int) := by omega
                    by_cases h1 : 97 ≤ (s[k].toNat : Int)
                    · by_cases h2 : (s[k].toNat : Int) ≤ 122
                      · skip
                        have HX : Hid (p s[k] = true) := by show _ = _; rw [HP.out]; unfold okC; simp [h1, h2]
                        go_wp2_with fail
                        go_round
                        case rel => exact ⟨k + 1, by omega, by go_num, by show _ = _; rw [HR.out, drop_at s k hlt, List.all_cons, HX.out, Bool.true_and]⟩
                        case measure => simp [intOf]; omega
                      · cases h3 : ((s[k].toNat : Int) == 95)
                        · cases h4 : ((s[k].toNat : Int) == 43)
                          · skip
                            have HX : Hid (oneR ts i = false) := by show _ = _; rw [HO.out, HR.out, drop_at s k hlt, List.all_cons, show p s[k] = false by rw [HP.out]; unfold okC; simp [h1, h2, h3, h4]]; simp
                            go_wp2_with fail
                            go_ret
                            exact ⟨ret_b (HNO.out i hit HX.out).symm, hB⟩
                          · skip
                            have HX : Hid (p s[k] = true) := by show _ = _; rw [HP.out]; unfold okC; simp [h1, h2, h3, h4]
                            go_wp2_with fail
                            go_round
                            case rel => exact ⟨k + 1, by omega, by go_num, by show _ = _; rw [HR.out, drop_at s k hlt, List.all_cons, HX.out, Bool.true_and]⟩
                            case measure => simp [intOf]; omega
                        · skip
                          have HX : Hid (p s[k] = true) := by show _ = _; rw [HP.out]; unfold okC; simp [h1, h2, h3]
                          go_wp2_with fail
                          go_round
                          case rel => exact ⟨k + 1, by omega, by go_num, by show _ = _; rw [HR.out, drop_at s k hlt, List.all_cons, HX.out, Bool.true_and]⟩
                          case measure => simp [intOf]; omega
                    · cases h3 : ((s[k].toNat : Int) == 95)
                      · cases h4 : ((s[k].toNat : Int) == 43)
                        · skip
                          have HX : Hid (oneR ts i = false) := by show _ = _; rw [HO.out, HR.out, drop_at s k hlt, List.all_cons, show p s[k] = false by rw [HP.out]; unfold okC; simp [h1, h3, h4]]; simp
                          go_wp2_with fail
                          go_ret
                          exact ⟨ret_b (HNO.out i hit HX.out).symm, hB⟩
                        · skip
                          have HX : Hid (p s[k] = true) := by show _ = _; rw [HP.out]; unfold okC; simp [h1, h3, h4]
                          go_wp2_with fail
                          go_round
                          case rel => exact ⟨k + 1, by omega, by go_num, by show _ = _; rw [HR.out, drop_at s k hlt, List.all_cons, HX.out, Bool.true_and]⟩
                          case measure => simp [intOf]; omega
                      · skip
                        have HX : Hid (p s[k] = true) := by show _ = _; rw [HP.out]; unfold okC; simp [h1, h3]
                        go_wp2_with fail
                        go_round
                        case rel => exact ⟨k + 1, by omega, by go_num, by show _ = _; rw [HR.out, drop_at s k hlt, List.all_cons, HX.out, Bool.true_and]⟩
                        case measure => simp [intOf]; omega
                  · have hlt' : ¬ (k : Int) < (s.size : Int) := by omega
                    have HA : Hid (s.data.toList.all p = true) := by show _ = _; rw [HR.out, drop_end s k (by omega)]; rfl
                    cases g1 : (s.toList == [99, 114])
                    · cases g2 : (s.toList == [102, 105, 110, 97, 108])
                      · cases g3 : (s.toList == [103, 97])
                        · cases g4 : (s.toList == [114, 101, 108, 101, 97, 115, 101])
                          · cases hL : looseAt ts i
                            · have HX : Hid (oneR ts i = true) := by show _ = _; rw [HO.out, HA.out, hL]; rw [HBQ.out]; simp [g1, g2, g3, g4]
                              go_wp2_with fail
                              refine (LO.out wr hB).mono ?_
                              rintro e w2 ⟨rfl, b2⟩
                              rw [hL]
                              have hB2 := hB.trans (b2.mono hB.size)
                              go_wp2_with fail
                              go_roundw
                              case rel => exact ⟨i + 1, by omega, by go_num, hB2, fun j hj => by by_cases e : j = i; subst e; exact HX.out; exact HD.out j (by omega)⟩
                              case measure => simp [intOf]; omega
                            · have HX : Hid (oneR ts i = false) := by show _ = _; rw [HO.out, hL]; simp
                              go_wp2_with fail
                              refine (LO.out wr hB).mono ?_
                              rintro e w2 ⟨rfl, b2⟩
                              rw [hL]
                              have hB2 := hB.trans (b2.mono hB.size)
                              go_wp2_with fail
                              go_ret
                              exact ⟨ret_b (HNO.out i hit HX.out).symm, hB2⟩
                          · have HX : Hid (oneR ts i = false) := by show _ = _; rw [HO.out]; rw [HBQ.out]; simp [g1, g2, g3, g4]
                            go_wp2_with fail
                            go_ret
                            exact ⟨ret_b (HNO.out i hit HX.out).symm, hB⟩
                        · have HX : Hid (oneR ts i = false) := by show _ = _; rw [HO.out]; rw [HBQ.out]; simp [g1, g2, g3]
                          go_wp2_with fail
                          go_ret
                          exact ⟨ret_b (HNO.out i hit HX.out).symm, hB⟩
                      · have HX : Hid (oneR ts i = false) := by show _ = _; rw [HO.out]; rw [HBQ.out]; simp [g1, g2]
                        go_wp2_with fail
                        go_ret
                        exact ⟨ret_b (HNO.out i hit HX.out).symm, hB⟩
                    · have HX : Hid (oneR ts i = false) := by show _ = _; rw [HO.out]; rw [HBQ.out]; simp [g1]
                      go_wp2_with fail
                      go_ret
                      exact ⟨ret_b (HNO.out i hit HX.out).symm, hB⟩
              · obtain ⟨p, HP⟩ : ∃ p, Hid (p = okC true) := ⟨_, rfl⟩
                rw [← HP.out] at HO
                go_wp2_with fail
                go_loop [5] (fun y => ∃ k : Nat, k ≤ s.size ∧ y = .int .i64 k ∧ Hid (s.data.toList.all p = (s.data.toList.drop k).all p)) (fun y => s.size - (intOf y).toNat)
                case atStart => exact ⟨0, by omega, rfl, rfl⟩
                case round =>
                  obtain ⟨k, hk, rfl, HR⟩ := hrel
                  by_cases hlt : k < s.size
                  · have hlt' : (k : Int) < (s.size : Int) := by omega
                    cases h1 : isC (s[k].toNat : Int) 1
                    · skip
                      have HX : Hid (oneR ts i = false) := by show _ = _; rw [HO.out, HR.out, drop_at s k hlt, List.all_cons, show p s[k] = false by rw [HP.out]; unfold okC; rw [if_pos rfl, h1]]; simp
                      go_wp2_with fail
                      refine (Rdigit_any _ _).mono ?_
                      rintro e w' ⟨rfl, rfl⟩
                      go_wp2_with fail
                      go_ret
                      exact ⟨ret_b (HNO.out i hit HX.out).symm, hB⟩
                    · skip
                      have HX : Hid (p s[k] = true) := by show _ = _; rw [HP.out]; unfold okC; rw [if_pos rfl, h1]
                      go_wp2_with fail
                      refine (Rdigit_any _ _).mono ?_
                      rintro e w' ⟨rfl, rfl⟩
                      go_wp2_with fail
                      go_round
                      case rel => exact ⟨k + 1, by omega, by go_num, by show _ = _; rw [HR.out, drop_at s k hlt, List.all_cons, HX.out, Bool.true_and]⟩
                      case measure => simp [intOf]; omega
                  · have hlt' : ¬ (k : Int) < (s.size : Int) := by omega
                    have HA : Hid (s.data.toList.all p = true) := by show _ = _; rw [HR.out, drop_end s k (by omega)]; rfl
                    cases hem : s.toList.isEmpty
                    · cases hq : (q.toList == s.toList)
                      · have HX : Hid (oneR ts i = false) := by show _ = _; rw [HO.out]; rw [HBN.out]; simp [hem, hq]
                        go_wp2_with fail
                        refine (TM.out _).mono ?_
                        rintro e w' ⟨rfl, hw'⟩
                        rw [hw']; clear hw' w'
                        go_wp2_with fail
                        go_ret
                        exact ⟨ret_b (HNO.out i hit HX.out).symm, hB⟩
                      · cases hL : looseAt ts i
                        · have HX : Hid (oneR ts i = true) := by show _ = _; rw [HO.out, HA.out, hL]; rw [HBN.out]; simp [hem, hq]
                          go_wp2_with fail
                          refine (TM.out _).mono ?_
                          rintro e w' ⟨rfl, hw'⟩
                          rw [hw']; clear hw' w'
                          go_wp2_with fail
                          refine (LO.out wr hB).mono ?_
                          rintro e w2 ⟨rfl, b2⟩
                          rw [hL]
                          have hB2 := hB.trans (b2.mono hB.size)
                          go_wp2_with fail
                          go_roundw
                          case rel => exact ⟨i + 1, by omega, by go_num, hB2, fun j hj => by by_cases e : j = i; subst e; exact HX.out; exact HD.out j (by omega)⟩
                          case measure => simp [intOf]; omega
                        · have HX : Hid (oneR ts i = false) := by show _ = _; rw [HO.out, hL]; simp
                          go_wp2_with fail
                          refine (TM.out _).mono ?_
                          rintro e w' ⟨rfl, hw'⟩
                          rw [hw']; clear hw' w'
                          go_wp2_with fail
                          refine (LO.out wr hB).mono ?_
                          rintro e w2 ⟨rfl, b2⟩
                          rw [hL]
                          have hB2 := hB.trans (b2.mono hB.size)
                          go_wp2_with fail
                          go_ret
                          exact ⟨ret_b (HNO.out i hit HX.out).symm, hB2⟩
                    · have HX : Hid (oneR ts i = false) := by show _ = _; rw [HO.out]; rw [HBN.out]; simp [hem]
                      go_wp2_with fail
                      go_ret
                      exact ⟨ret_b (HNO.out i hit HX.out).symm, hB⟩
            · have hin' : ¬ (i : Int) < (n : Int) := by omega
              have HV := hide (fitR_yes ts _ HT0.out rfl (fun j hj => HD.out j (by rw [HL.out] at hj; omega)))
              go_wp2_with fail
              go_ret
              exact ⟨ret_b HV.out.symm, hB⟩
        · cases hx0 : ((ofL x0).toList == [48])
          · have HNO : Hid (∀ i, i < ts.length → oneR ts i = false → fitR ts = false) := fun i hi h => fitR_no ts _ HT0.out (by
              rw [toL, ofL_data] at hx0
              dsimp only
              rw [hx0]; simp) i hi h
            go_enter Tryz.func66, Tryz.ntmps66
            go_wp2_with fail
            clear c0 c1 c2
            go_loopw [3] (fun y wr => ∃ i : Nat, i ≤ n ∧ y = .int .i64 i ∧ Below w.heap.size w wr ∧ Hid (∀ j, j < i → oneR ts j = true)) (fun y _ => n - (intOf y).toNat)
            case atStart => exact ⟨0, by omega, rfl, Below.refl _ _, fun j hj => by omega⟩
            case round =>
              obtain ⟨i, hi, rfl, hB, HD⟩ := hrel
              by_cases hin : i < n
              · have hin' : (i : Int) < (n : Int) := by omega
                have hit : i < ts.length := by rw [HL.out]; exact hin
                obtain ⟨c0, c1, c2⟩ := (HC.out.of_block (hB.block b hlb)) i hit
                have LO := hide (fun W (hW : Below w.heap.size w W) => Rloose_t b off n cap ts HL.out i W (Nat.lt_of_lt_of_le hlb hW.size) (HC.out.of_block (hW.block b hlb)) hin (by omega))
                have hgd : ts.getD i nilT = ts[i] := by rw [List.getD_eq_getElem?_getD, List.getElem?_eq_getElem hit]; rfl
                have HO : Hid (oneR ts i = ((ts[i].text.all (okC ts[i].num) && !badB ts[i]) && !looseAt ts i)) := by show _ = _; unfold oneR; rw [hgd]
                have hsl := HF.out ts[i] (List.getElem_mem hit)
                clear hgd
                generalize ts[i] = t at *
                obtain ⟨td, tn, tx⟩ := t
                dsimp only at c0 c1 c2 HO hsl
                obtain ⟨s, hs⟩ : ∃ s, s = ofL tx := ⟨_, rfl⟩
                have hsx : tx = s.data.toList := by rw [hs, ofL_data]
                rw [← hs] at c2
                have hsz : s.size ≤ 1048576 := by rw [hs, ofL_size]; exact hsl
                rw [hsx] at HO
                clear hsl hs hsx
                have TM := hide (fun w => RTrim_any s w (by unfold maxLen; omega))
                have HBN : Hid (badB ⟨td, true, s.data.toList⟩ = (s.toList.isEmpty || !((ofL (trimL s.data.toList)).toList == s.toList))) := by
                  show _ = _
                  rw [toL, toL, ofL_data]; rfl
                have HBQ : Hid (badB ⟨td, false, s.data.toList⟩ = ((((s.toList == [99, 114]) || (s.toList == [102, 105, 110, 97, 108])) || (s.toList == [103, 97])) || (s.toList == [114, 101, 108, 101, 97, 115, 101]))) := by
                  show _ = _
                  rw [toL]; rfl
                generalize ofL (trimL s.data.toList) = q at *
                cases tn
                · obtain ⟨p, HP⟩ : ∃ p, Hid (p = okC false) := ⟨_, rfl⟩
                  rw [← HP.out] at HO
                  go_wp2_with fail
                  go_loop [5] (fun y => ∃ k : Nat, k ≤ s.size ∧ y = .int .i64 k ∧ Hid (s.data.toList.all p = (s.data.toList.drop k).all p)) (fun y => s.size - (intOf y).toNat)
                  case atStart => exact ⟨0, by omega, rfl, rfl⟩
                  case round =>
                    obtain ⟨k, hk, rfl, HR⟩ := hrel
                    by_cases hlt : k < s.size
                    · have hlt' : (k : Int) < (s.size : Int) := by omega
                      by_cases h1 : 97 ≤ (s[k].toNat : Int)
                      · by_cases h2 : (s[k].toNat : Int) ≤ 122
                        · skip
                          have HX : Hid (p s[k] = true) := by show _ = _; rw [HP.out]; unfold okC; simp [h1, h2]
                          go_wp2_with fail
                          go_round
                          case rel => exact ⟨k + 1, by omega, by go_num, by show _ = _; rw [HR.out, drop_at s k hlt, List.all_cons, HX.out, Bool.true_and]⟩
                          case measure => simp [intOf]; omega
                        · cases h3 : ((s[k].toNat : Int) == 95)
                          · cases h4 : ((s[k].toNat : Int) == 43)
                            · skip
                              have HX : Hid (oneR ts i = false) := by show _ = _; rw [HO.out, HR.out, drop_at s k hlt, List.all_cons, show p s[k] = false by rw [HP.out]; unfold okC; simp [h1, h2, h3, h4]]; simp
                              go_wp2_with fail
                              go_ret
                              exact ⟨ret_b (HNO.out i hit HX.out).symm, hB⟩
                            · skip
                              have HX : Hid (p s[k] = true) := by show _ = _; rw [HP.out]; unfold okC; simp [h1, h2, h3, h4]
                              go_wp2_with fail
                              go_round
                              case rel => exact ⟨k + 1, by omega, by go_num, by show _ = _; rw [HR.out, drop_at s k hlt, List.all_cons, HX.out, Bool.true_and]⟩
                              case measure => simp [intOf]; omega
                          · skip
                            have HX : Hid (p s[k] = true) := by show _ = _; rw [HP.out]; unfold okC; simp [h1, h2, h3]
                            go_wp2_with fail
                            go_round
                            case rel => exact ⟨k + 1, by omega, by go_num, by show _ = _; rw [HR.out, drop_at s k hlt, List.all_cons, HX.out, Bool.true_and]⟩
                            case measure => simp [intOf]; omega
                      · cases h3 : ((s[k].toNat : Int) == 95)
                        · cases h4 : ((s[k].toNat : Int) == 43)
                          · skip
                            have HX : Hid (oneR ts i = false) := by show _ = _; rw [HO.out, HR.out, drop_at s k hlt, List.all_cons, show p s[k] = false by rw [HP.out]; unfold okC; simp [h1, h3, h4]]; simp
                            go_wp2_with fail
                            go_ret
                            exact ⟨ret_b (HNO.out i hit HX.out).symm, hB⟩
                          · skip
                            have HX : Hid (p s[k] = true) := by show _ = _; rw [HP.out]; unfold okC; simp [h1, h3, h4]
                            go_wp2_with fail
                            go_round
                            case rel => exact ⟨k + 1, by omega, by go_num, by show _ = _; rw [HR.out, drop_at s k hlt, List.all_cons, HX.out, Bool.true_and]⟩
                            case measure => simp [intOf]; omega
                        · skip
                          have HX : Hid (p s[k] = true) := by show _ = _; rw [HP.out]; unfold okC; simp [h1, h3]
                          go_wp2_with fail
                          go_round
                          case rel => exact ⟨k + 1, by omega, by go_num, by show _ = _; rw [HR.out, drop_at s k hlt, List.all_cons, HX.out, Bool.true_and]⟩
                          case measure => simp [intOf]; omega
                    · have hlt' : ¬ (k : Int) < (s.size : Int) := by omega
                      have HA : Hid (s.data.toList.all p = true) := by show _ = _; rw [HR.out, drop_end s k (by omega)]; rfl
                      cases g1 : (s.toList == [99, 114])
                      · cases g2 : (s.toList == [102, 105, 110, 97, 108])
                        · cases g3 : (s.toList == [103, 97])
                          · cases g4 : (s.toList == [114, 101, 108, 101, 97, 115, 101])
                            · cases hL : looseAt ts i
                              · have HX : Hid (oneR ts i = true) := by show _ = _; rw [HO.out, HA.out, hL]; rw [HBQ.out]; simp [g1, g2, g3, g4]
                                go_wp2_with fail
                                refine (LO.out wr hB).mono ?_
                                rintro e w2 ⟨rfl, b2⟩
                                rw [hL]
                                have hB2 := hB.trans (b2.mono hB.size)
                                go_wp2_with fail
                                go_roundw
                                case rel => exact ⟨i + 1, by omega, by go_num, hB2, fun j hj => by by_cases e : j = i; subst e; exact HX.out; exact HD.out j (by omega)⟩
                                case measure => simp [intOf]; omega
                              · have HX : Hid (oneR ts i = false) := by show _ = _; rw [HO.out, hL]; simp
                                go_wp2_with fail
                                refine (LO.out wr hB).mono ?_
                                rintro e w2 ⟨rfl, b2⟩
                                rw [hL]
                                have hB2 := hB.trans (b2.mono hB.size)
                                go_wp2_with fail
                                go_ret
                                exact ⟨ret_b (HNO.out i hit HX.out).symm, hB2⟩
                            · have HX : Hid (oneR ts i = false) := by show _ = _; rw [HO.out]; rw [HBQ.out]; simp [g1, g2, g3, g4]
                              go_wp2_with fail
                              go_ret
                              exact ⟨ret_b (HNO.out i hit HX.out).symm, hB⟩
                          · have HX : Hid (oneR ts i = false) := by show _ = _; rw [HO.out]; rw [HBQ.out]; simp [g1, g2, g3]
                            go_wp2_with fail
                            go_ret
                            exact ⟨ret_b (HNO.out i hit HX.out).symm, hB⟩
                        · have HX : Hid (oneR ts i = false) := by show _ = _; rw [HO.out]; rw [HBQ.out]; simp [g1, g2]
                          go_wp2_with fail
                          go_ret
                          exact ⟨ret_b (HNO.out i hit HX.out).symm, hB⟩
                      · have HX : Hid (oneR ts i = false) := by show _ = _; rw [HO.out]; rw [HBQ.out]; simp [g1]
                        go_wp2_with fail
                        go_ret
                        exact ⟨ret_b (HNO.out i hit HX.out).symm, hB⟩
                · obtain ⟨p, HP⟩ : ∃ p, Hid (p = okC true) := ⟨_, rfl⟩
                  rw [← HP.out] at HO
                  go_wp2_with fail
                  go_loop [5] (fun y => ∃ k : Nat, k ≤ s.size ∧ y = .int .i64 k ∧ Hid (s.data.toList.all p = (s.data.toList.drop k).all p)) (fun y => s.size - (intOf y).toNat)
                  case atStart => exact ⟨0, by omega, rfl, rfl⟩
                  case round =>
                    obtain ⟨k, hk, rfl, HR⟩ := hrel
                    by_cases hlt : k < s.size
                    · have hlt' : (k : Int) < (s.size : Int) := by omega
                      cases h1 : isC (s[k].toNat : Int) 1
                      · skip
                        have HX : Hid (oneR ts i = false) := by show _ = _; rw [HO.out, HR.out, drop_at s k hlt, List.all_cons, show p s[k] = false by rw [HP.out]; unfold okC; rw [if_pos rfl, h1]]; simp
                        go_wp2_with fail
                        refine (Rdigit_any _ _).mono ?_
                        rintro e w' ⟨rfl, rfl⟩
                        go_wp2_with fail
                        go_ret
                        exact ⟨ret_b (HNO.out i hit HX.out).symm, hB⟩
                      · skip
                        have HX : Hid (p s[k] = true) := by show _ = _; rw [HP.out]; unfold okC; rw [if_pos rfl, h1]
                        go_wp2_with fail
                        refine (Rdigit_any _ _).mono ?_
                        rintro e w' ⟨rfl, rfl⟩
                        go_wp2_with fail
                        go_round
                        case rel => exact ⟨k + 1, by omega, by go_num, by show _ = _; rw [HR.out, drop_at s k hlt, List.all_cons, HX.out, Bool.true_and]⟩
                        case measure => simp [intOf]; omega
                    · have hlt' : ¬ (k : Int) < (s.size : Int) := by omega
                      have HA : Hid (s.data.toList.all p = true) := by show _ = _; rw [HR.out, drop_end s k (by omega)]; rfl
                      cases hem : s.toList.isEmpty
                      · cases hq : (q.toList == s.toList)
                        · have HX : Hid (oneR ts i = false) := by show _ = _; rw [HO.out]; rw [HBN.out]; simp [hem, hq]
                          go_wp2_with fail
                          refine (TM.out _).mono ?_
                          rintro e w' ⟨rfl, hw'⟩
                          rw [hw']; clear hw' w'
                          go_wp2_with fail
                          go_ret
                          exact ⟨ret_b (HNO.out i hit HX.out).symm, hB⟩
                        · cases hL : looseAt ts i
                          · have HX : Hid (oneR ts i = true) := by show _ = _; rw [HO.out, HA.out, hL]; rw [HBN.out]; simp [hem, hq]
                            go_wp2_with fail
                            refine (TM.out _).mono ?_
                            rintro e w' ⟨rfl, hw'⟩
                            rw [hw']; clear hw' w'
                            go_wp2_with fail
                            refine (LO.out wr hB).mono ?_
                            rintro e w2 ⟨rfl, b2⟩
                            rw [hL]
                            have hB2 := hB.trans (b2.mono hB.size)
                            go_wp2_with fail
                            go_roundw
                            case rel => exact ⟨i + 1, by omega, by go_num, hB2, fun j hj => by by_cases e : j = i; subst e; exact HX.out; exact HD.out j (by omega)⟩
                            case measure => simp [intOf]; omega
                          · have HX : Hid (oneR ts i = false) := by show _ = _; rw [HO.out, hL]; simp
                            go_wp2_with fail
                            refine (TM.out _).mono ?_
                            rintro e w' ⟨rfl, hw'⟩
                            rw [hw']; clear hw' w'
                            go_wp2_with fail
                            refine (LO.out wr hB).mono ?_
                            rintro e w2 ⟨rfl, b2⟩
                            rw [hL]
                            have hB2 := hB.trans (b2.mono hB.size)
                            go_wp2_with fail
                            go_ret
                            exact ⟨ret_b (HNO.out i hit HX.out).symm, hB2⟩
                      · have HX : Hid (oneR ts i = false) := by show _ = _; rw [HO.out]; rw [HBN.out]; simp [hem]
                        go_wp2_with fail
                        go_ret
                        exact ⟨ret_b (HNO.out i hit HX.out).symm, hB⟩
              · have hin' : ¬ (i : Int) < (n : Int) := by omega
                have HV := hide (fitR_yes ts _ HT0.out rfl (fun j hj => HD.out j (by rw [HL.out] at hj; omega)))
                go_wp2_with fail
                go_ret
                exact ⟨ret_b HV.out.symm, hB⟩
          · have HV : Hid (fitR ts = true) := by
              rw [toL, ofL_data] at hx0
              have hn : ts.length = 1 := by rw [HL.out]; have := beq_iff_eq.1 hn1; omega
              show _ = _
              cases ts with
              | nil => simp at hn
              | cons y r =>
                have h0 := HT0.out
                simp at h0
                subst h0
                have : r = [] := List.length_eq_zero_iff.1 (by simpa using hn)
                subst this
                unfold fitR
                dsimp only
                rw [hx0]; rfl
            go_enter Tryz.func66, Tryz.ntmps66
            go_wp2_with fail
            go_ret
            exact ⟨ret_b HV.out.symm, Below.refl _ _⟩
    · have HV : Hid (fitR ts = false) := by
        show _ = _
        cases ts with
        | nil => rfl
        | cons y r =>
          have h0 := HT0.out
          simp at h0
          subst h0
          rfl
      go_enter Tryz.func66, Tryz.ntmps66
      go_wp2_with fail
      go_ret
      exact ⟨ret_b HV.out.symm, Below.refl _ _⟩
  · have HV : Hid (fitR ts = false) := by
      have h0 := HL.out
      have : ts = [] := List.length_eq_zero_iff.1 (by rw [h0]; simpa using hn0)
      rw [this]; rfl
    go_enter Tryz.func66, Tryz.ntmps66
    go_wp2_with fail
    go_ret
    exact ⟨ret_b HV.out.symm, Below.refl _ _⟩

end Go.Proofs.YtpedljmpobhimaaGreatDoor
