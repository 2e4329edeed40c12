/-
  Walks: the document's trimming.
-/
import Derived.Test.YtpedljmpobhimaaGreatDoorEc
import Derived.Test.YtpedljmpobhimaaGreatDoorEb
namespace Go.Proofs.YtpedljmpobhimaaGreatDoor
open Go.RowKit Go.Shelf
set_option linter.unusedVariables false

theorem own_kw2 {W : World} {B0 : Nat} {ao : Option Addr} {cv : Nat} {xs : List Tok} (h : W.ownsRow B0 91 3 (.slice ao xs.length cv) xs.length (flatT xs)) (h0 : 0 < xs.length) : ∃ g sp, ao = some ⟨g, 0, none⟩ ∧ B0 ≤ g ∧ W.heap[g]? = some (.cells (flatT xs ++ sp).toArray 91 (0, 0)) ∧ xs.length ≤ cv ∧ ((flatT xs ++ sp).length = cv * 3 ∧ cv ≤ maxLen) := by
  rcases h.2 with ⟨_, h1⟩ | ⟨g, cap, cur, hv, hg, hh, hle, hmx, hsz, ht⟩
  · omega
  · cases hv
    have e : cur.toList = flatT xs ++ cur.toList.drop (xs.length * 3) := by rw [← ht, List.take_append_drop]
    refine ⟨g, cur.toList.drop (xs.length * 3), rfl, hg, by rw [← e]; simpa using hh, hle, ?_, hmx⟩
    rw [← e]
    simpa using hsz
theorem kw_own {W : World} {B0 g cv : Nat} {xs : List Tok} {sp : List Value} (hh : W.heap[g]? = some (.cells (flatT xs ++ sp).toArray 91 (0, 0))) (hg : B0 ≤ g) (hle : xs.length ≤ cv) (hsz : (flatT xs ++ sp).length = cv * 3) (hmx : cv ≤ maxLen) : W.ownsRow B0 91 3 (.slice (some ⟨g, 0, none⟩) xs.length cv) xs.length (flatT xs) := by
  refine ⟨flatT_len xs, .inr ⟨g, cv, _, rfl, hg, hh, hle, hmx, by simpa using hsz, ?_⟩⟩
  have e := flatT_len xs
  simp [← e]
theorem cut_done {w w1 w2 w3 : World} {B0 : Nat} {xs : List Tok} (k : Nat) {ao1 ao2 : Option Addr} {cv1 cv2 n1 n2 : Nat} (own1 : w2.ownsRow w1.heap.size 91 3 (.slice ao1 n1 cv1) n1 (flatT ([] ++ xs.take k))) (grow1 : w1.grownBy w2 ((none : Option Addr).map (·.block)))
    (own2 : w3.ownsRow w1.heap.size 91 3 (.slice ao2 n2 cv2) n2 (flatT (xs.take k ++ xs.drop (k + 1)))) (grow2 : w2.grownBy w3 (ao1.map (·.block))) (hB : Below B0 w w1) (hB1 : B0 ≤ w1.heap.size) (hcut : (cutAt xs k).length + 1 = xs.length) :
    w3.ownsRow B0 91 3 (.slice ao2 (cutAt xs k).length cv2) (cutAt xs k).length (flatT (cutAt xs k)) ∧ Below B0 w w3 := by
  have hn : n2 = (cutAt xs k).length := by
    have h1 := own2.1
    rw [flatT_len] at h1
    have : (xs.take k ++ xs.drop (k + 1)).length = (cutAt xs k).length := rfl
    omega
  subst hn
  refine ⟨own_weak own2 hB1, hB.trans ?_⟩
  have s1 := grow1.size
  have s2 := grow2.size
  refine ⟨grow2.os.trans grow1.os, grow2.tape.trans grow1.tape, grow2.output.trans grow1.output, by omega, fun q hq => ?_⟩
  refine (grow2.block q (by omega) (fun e => ?_)).trans (grow1.block q (by omega) (by simp))
  have := (own1.lt q (by rw [own_blockT]; exact e.symm)).1
  omega
def boolOf : Value → Bool
  | .bool b => b
  | _ => false
def lenOf : Value → Nat
  | .slice _ n _ => n
  | _ => 0

set_option maxRecDepth 100000 in
set_option maxHeartbeats 2000000 in
theorem Rtrim_any (v : Value) (ts : List Tok) (B0 : Nat) (w : World) (hown : w.ownsRow B0 91 3 v ts.length (flatT ts)) (hB0 : B0 ≤ w.heap.size) (hl : ts.length ≤ 1000000) :
    Calls Tryz.prog 64 #[v] w fun e w' => ∃ v', e = .returned v' ∧ w'.ownsRow B0 91 3 v' (trimT ts).length (flatT (trimT ts)) ∧ Below B0 w w' := by
  obtain ⟨a0, c0, rfl⟩ := own_shapeT hown
  have OW0 := hide hown
  clear hown
  go_enter Tryz.func64, Tryz.ntmps64
  go_wp2_with fail
  go_loopw [0, 3] (fun v0 v3 wr => ∃ (xs : List Tok) (ao : Option Addr) (cv : Nat) (b : Bool), v0 = .slice ao xs.length cv ∧ v3 = .bool b ∧ xs.length ≤ ts.length ∧ Hid (wr.ownsRow B0 91 3 (.slice ao xs.length cv) xs.length (flatT xs)) ∧ Hid (Below B0 w wr) ∧ Hid (trimR xs = trimR ts) ∧ Hid (b = false → ∀ j, j < xs.length → looseAt xs j = false))
    (fun v0 v3 _ => lenOf v0 * 2 + (if boolOf v3 then 1 else 0))
  case atStart => exact ⟨ts, a0, c0, true, rfl, rfl, Nat.le_refl _, OW0, Below.refl _ _, rfl, fun h => by cases h⟩
  case round =>
    obtain ⟨xs, ao, cv, b, rfl, rfl, hxl, OW, HB, HTR, HNL⟩ := hrel
    rename World => wo
    cases b
    · have HX : Hid (trimT ts = headL xs) := by
        show _ = _
        unfold trimT
        rw [← HTR.out, trim_none xs (HNL.out rfl)]
      clear HNL
      have hwo : B0 ≤ wo.heap.size := Nat.le_trans hB0 HB.out.size
      cases xs with
      | nil =>
        go_wp2_with fail
        go_ret
        refine ⟨_, rfl, ?_, HB.out.alloc hwo _⟩
        rw [HX.out]
        exact kw_own (xs := [zeroT]) (sp := []) (World.alloc_heap_new wo _) hwo (by simp) (by simp [flatT, rowT]) (by unfold maxLen; omega)
      | cons t r =>
        obtain ⟨g, sp, rfl, hgB, hgh, hcx, hcl⟩ := own_kw2 OW.out (by simp)
        have hk : KW wo g sp (t :: r) wo := ⟨Turn.refl _ _, hgh⟩
        obtain ⟨p0, p1, p2⟩ := hk.seen 0 t rfl
        have z0 := hk.free 0
        simp only [Nat.zero_mul, Nat.zero_add] at p0 p1 p2
        have h5 := hk.undash
        have hne : (((t :: r).length : Int) == 0) = false := by rw [beq_eq_false_iff_ne]; simp only [List.length_cons]; omega
        have hnl : (0 : Int) < ((t :: r).length : Int) := by simp only [List.length_cons]; omega
        have H5 := hide h5
        have HCL := hide hcl
        have hln : (headL (t :: r)).length = (t :: r).length := rfl
        have HFL : Hid ((flatT (headL (t :: r)) ++ sp).length = cv * 3) := by
          show _ = _
          rw [← hcl.1, List.length_append, List.length_append, flatT_len, flatT_len, hln]
        clear h5 hk hgh hcl OW
        go_wp2_with fail
        go_ret
        refine ⟨_, rfl, ?_, HB.out.setCell (p := ⟨g, 0, none⟩) hgB _⟩
        rw [HX.out]
        exact kw_own H5.out.cells hgB hcx HFL.out HCL.out.2
    · have hnl : (xs.length : Int) - 1 = (xs.length : Int) - 1 := rfl
      clear hnl HNL
      go_wp2_with fail
      go_loopw [0, 3, 4, 5] (fun v0 v3 v4 v5 wr => (∃ (k : Nat) , k ≤ xs.length ∧ v0 = .slice ao xs.length cv ∧ v3 = .bool false ∧ v4 = .int .i64 ((k : Int) - 1) ∧ Hid (Below wo.heap.size wo wr) ∧ Hid (∀ j, k ≤ j → j < xs.length → looseAt xs j = false)) ∨
          (∃ (ys : List Tok) (ao2 : Option Addr) (cv2 : Nat) (q : Int), v0 = .slice ao2 ys.length cv2 ∧ v3 = .bool true ∧ v4 = .int .i64 q ∧ -1 ≤ q ∧ q ≤ 1000000 ∧ Hid (ys.length + 1 = xs.length) ∧ Hid (wr.ownsRow B0 91 3 (.slice ao2 ys.length cv2) ys.length (flatT ys)) ∧ Hid (Below B0 w wr) ∧ Hid (trimR ys = trimR ts)))
        (fun _ v3 v4 _ _ => if boolOf v3 then 0 else (intOf v4 + 1).toNat + 1)
      case atStart => exact .inl ⟨xs.length, Nat.le_refl _, rfl, rfl, rfl, Below.refl _ _, fun j h1 h2 => by omega⟩
      case round =>
        rcases hrel with ⟨k, hk, rfl, rfl, rfl, HBW, HN⟩ | ⟨ys, ao2, cv2, q, rfl, rfl, rfl, hq1, hq2, HYL, OWY, HBY, HTY⟩
        · cases k with
          | zero =>
            have OWX := hide (own_below OW.out HBW.out)
            have hwo : B0 ≤ wo.heap.size := Nat.le_trans hB0 HB.out.size
            have HBX := hide (HB.out.trans (HBW.out.mono hwo))
            go_wp2_with fail
            go_roundw
            case rel => exact ⟨xs, ao, cv, false, rfl, rfl, hxl, OWX, HBX, HTR, fun _ j hj => HN.out j (by omega) hj⟩
            case measure => simp [lenOf, boolOf]
          | succ k =>
            have hkx : k < xs.length := by omega
            have ek : ((k + 1 : Nat) : Int) - 1 = (k : Int) := by omega
            rw [ek]
            clear ek
            have hwo : B0 ≤ wo.heap.size := Nat.le_trans hB0 HB.out.size
            obtain ⟨g, sp, rfl, hgB, hgh, hcx, hcl⟩ := own_kw2 OW.out (by omega)
            have hglt : g < wo.heap.size := (Array.getElem?_eq_some_iff.1 hgh).1
            have hghr := (HBW.out.block g hglt).trans hgh
            have LO := Rloose_any g cv sp xs k wr hghr hkx (by omega)
            cases hlo : looseAt xs k
            · rw [hlo] at LO
              have LO := hide LO
              have HN2 : Hid (∀ j, k ≤ j → j < xs.length → looseAt xs j = false) := fun j h1 h2 => by
                by_cases e : j = k
                · rw [e]; exact hlo
                · exact HN.out j (by omega) h2
              clear hlo
              go_wp2_with fail
              refine LO.out.mono ?_
              rintro e w1 ⟨rfl, b1⟩
              have HB1 := hide (HBW.out.trans (b1.mono HBW.out.size))
              go_wp2_with fail
              go_roundw
              case rel => exact .inl ⟨k, by omega, rfl, rfl, by first | rfl | go_num, HB1, HN2⟩
              case measure => simp [boolOf, intOf]
            · rw [hlo] at LO
              have LO := hide LO
              have HTC : Hid (trimR (cutAt xs k) = trimR ts) := by
                show _ = _
                rw [trim_cut xs k hkx hlo (fun j h1 h2 => HN.out j (by omega) h2)]
                exact HTR.out
              have hcut := cut_len xs k hkx
              clear hlo
              by_cases hcv : k + 1 = cv
              · subst hcv
                have HXK : Hid (xs.length = k + 1) := by show _ = _; omega
                go_wp2_with fail
                refine LO.out.mono ?_
                rintro e w1 ⟨rfl, b1⟩
                have HB1 := hide (HBW.out.trans (b1.mono HBW.out.size))
                have gh1 := (b1.block g (Nat.lt_of_lt_of_le hglt HBW.out.size)).trans hghr
                have hgl1 : g < w1.heap.size := (Array.getElem?_eq_some_iff.1 gh1).1
                have H1 : Hid (∀ ad, some (⟨g, 0, none⟩ : Addr) = some ad → ∀ j u, (flatT (xs.take k))[j]? = some u → w1.cell? (ad.add j) = some u) := fun ad h => by cases h; exact kw_take gh1 k
                have HGH := hide gh1
                have HW1 := hide (HB.out.trans (HB1.out.mono hwo))
                clear gh1
                go_wp2_with (first
                  | (have hq := own1; at_builtin; refine app_tok rfl (.tmp 26) (.tmp 30) rfl w1.heap.size ao1 k cv1 (xs.take k) rfl (by simpa using own1) (some ⟨g, 0, none⟩) 0 0 (xs.drop (k + 1)) rfl (by rw [List.length_drop]; have := HXK.out; omega) (fun h => by cases h) (fun ad h => by cases h; exact fun j u hu => absurd hu (by rw [List.drop_eq_nil_of_le (by have := HXK.out; omega)]; simp [flatT])) (by omega) (by have := grow1.size; omega) ?_; intro ao2 cv2 w3 own2 grow2)
                  | (at_builtin; refine app_tok rfl (.tmp 21) (.tmp 24) rfl w1.heap.size none 0 0 [] rfl (World.ownsRow_nil _ _ _ _) (some ⟨g, 0, none⟩) k (k + 1) (xs.take k) rfl (by rw [List.length_take]; omega) (fun h => by cases h) H1.out (by omega) (Nat.le_refl _) ?_; intro ao1 cv1 w2 own1 grow1)
                  | fail)
                obtain ⟨o3, b3⟩ := cut_done k own1 grow1 own2 grow2 HW1.out (Nat.le_trans hwo HB1.out.size) hcut
                have O3 := hide o3
                have B3 := hide b3
                go_roundw
                case rel => exact .inr ⟨cutAt xs k, ao2, cv2, (k : Int) - 1, by congr 1; omega, rfl, by first | rfl | go_num, by omega, by omega, hcut, O3, B3, HTC⟩
                case measure => simp [boolOf]
              · have hcv' : ¬ ((k : Int) + 1 = (cv : Int)) := by omega
                have hcv2 : ((k : Int) + 1 == (cv : Int)) = false := by rw [beq_eq_false_iff_ne]; omega
                go_wp2_with fail
                refine LO.out.mono ?_
                rintro e w1 ⟨rfl, b1⟩
                have HB1 := hide (HBW.out.trans (b1.mono HBW.out.size))
                have gh1 := (b1.block g (Nat.lt_of_lt_of_le hglt HBW.out.size)).trans hghr
                have hgl1 : g < w1.heap.size := (Array.getElem?_eq_some_iff.1 gh1).1
                have H1 : Hid (∀ ad, some (⟨g, 0, none⟩ : Addr) = some ad → ∀ j u, (flatT (xs.take k))[j]? = some u → w1.cell? (ad.add j) = some u) := fun ad h => by cases h; exact kw_take gh1 k
                have HGH := hide gh1
                have HW1 := hide (HB.out.trans (HB1.out.mono hwo))
                clear gh1
                go_wp2_with (first
                  | (have hq := own1; at_builtin; refine app_tok rfl (.tmp 26) (.tmp 30) rfl w1.heap.size ao1 k cv1 (xs.take k) rfl (by simpa using own1) (some ⟨g, (k + 1) * 3, none⟩) (xs.length - (k + 1)) (cv - (k + 1)) (xs.drop (k + 1)) rfl (by rw [List.length_drop]) (fun h => by cases h) (fun ad h => by cases h; exact kw_drop ((grow1.block g hgl1 (by simp)).trans HGH.out) (k + 1) (by omega)) (by omega) (by have := grow1.size; omega) ?_; intro ao2 cv2 w3 own2 grow2)
                  | (at_builtin; refine app_tok rfl (.tmp 21) (.tmp 24) rfl w1.heap.size none 0 0 [] rfl (World.ownsRow_nil _ _ _ _) (some ⟨g, 0, none⟩) k cv (xs.take k) rfl (by rw [List.length_take]; omega) (fun h => by cases h) H1.out (by omega) (Nat.le_refl _) ?_; intro ao1 cv1 w2 own1 grow1)
                  | fail)
                obtain ⟨o3, b3⟩ := cut_done k own1 grow1 own2 grow2 HW1.out (Nat.le_trans hwo HB1.out.size) hcut
                have O3 := hide o3
                have B3 := hide b3
                go_roundw
                case rel => exact .inr ⟨cutAt xs k, ao2, cv2, (k : Int) - 1, by congr 1; omega, rfl, by first | rfl | go_num, by omega, by omega, hcut, O3, B3, HTC⟩
                case measure => simp [boolOf]
        · have hqb : decide (0 ≤ q) = decide (0 ≤ q) := rfl
          have hyl := HYL.out
          by_cases hq0 : 0 ≤ q
          · go_wp2_with fail
            go_roundw
            case rel => exact ⟨ys, ao2, cv2, true, rfl, rfl, by omega, OWY, HBY, HTY, fun h => by cases h⟩
            case measure => simp [lenOf, boolOf]; omega
          · go_wp2_with fail
            go_roundw
            case rel => exact ⟨ys, ao2, cv2, true, rfl, rfl, by omega, OWY, HBY, HTY, fun h => by cases h⟩
            case measure => simp [lenOf, boolOf]; omega

end Go.Proofs.YtpedljmpobhimaaGreatDoor

/-
  Walks: the document's reading.
-/
namespace Go.Proofs.YtpedljmpobhimaaGreatDoor
open Go.RowKit Go.Shelf
set_option linter.unusedVariables false

theorem okM_parts (c : UInt8) : okM c = (isC (c.toNat : Int) 1 || isC (c.toNat : Int) 4 || markB c || ((c.toNat : Int) == 95) || ((c.toNat : Int) == 43)) := by
  rw [show (95 : Int) = ((95 : UInt8).toNat : Int) from rfl, show (43 : Int) = ((43 : UInt8).toNat : Int) from rfl, u8_beq, u8_beq]
  unfold okM wordB
  cases isC (c.toNat : Int) 1 <;> cases isC (c.toNat : Int) 4 <;> cases markB c <;> cases c == 95 <;> cases c == 43 <;> rfl

/-- What the document's reading leaves. -/
def RPost (l : List UInt8) (w : World) (r : Ending) (w' : World) : Prop := (∃ x, toksL l = .error x ∧ r = .returned (.tuple #[.slice none 0 0, .int .i64 x.1, .int .i64 (x.2 : Int)]) ∧ Below w.heap.size w w') ∨
  (∃ ts ao cv, toksL l = .ok ts ∧ r = .returned (.tuple #[.slice ao ts.length cv, .int .i64 0, .int .i64 0]) ∧ Toks w' (.slice ao ts.length cv) ts ∧ Below w.heap.size w w')

set_option maxRecDepth 100000 in
set_option maxHeartbeats 4000000 in
theorem Rtokens_any (s : ByteArray) (w : World) : Calls Tryz.prog 40 #[.string s] w (RPost s.data.toList w) := by
  by_cases h1 : 64 < s.size
  · have h1' : (64 : Int) < (s.size : Int) := by omega
    have HX : Hid (toksL s.data.toList = .error (12, 64)) := by show _ = _; unfold toksL; rw [len_data, if_pos h1]
    go_enter Tryz.func40, Tryz.ntmps40
    go_wp2_with fail
    go_ret3
    exact .inl ⟨_, HX.out, rfl, Below.refl _ _⟩
  · have h1' : ¬ (64 : Int) < (s.size : Int) := by omega
    by_cases h2 : 0 < s.size
    · have hne : s.data.toList ≠ [] := by intro e; have := len_data s; rw [e] at this; simp at this; omega
      have hem := eqE s h2
      have hem' : s.toList.isEmpty = false := by rw [toL]; exact emp s h2
      have HERR : Hid (∀ k, k < s.size → okN s.data.toList = k → toksL s.data.toList = .error (10, k)) := by
        intro k hk he
        unfold toksL
        rw [len_data, if_neg h1, if_neg hne, if_pos (by omega), he]
      have HOKK : Hid (okN s.data.toList = s.size → toksL s.data.toList = .ok (trimT (splitL s.data.toList)) ∧ ∀ c ∈ s.data.toList, okM c = true) := by
        intro he
        have ha := okN_all s.data.toList (by rw [len_data]; omega)
        exact ⟨toks_mk hne ha (by rw [len_data]; omega), ha⟩
      have hs64 : s.size ≤ 64 := by omega
      clear hne
      go_enter Tryz.func40, Tryz.ntmps40
      go_wp2_with fail
      go_loop [5] (fun i => ∃ j : Nat, j ≤ s.size ∧ i = .int .i64 j ∧ Hid (okN s.data.toList = j + okN (s.data.toList.drop j))) (fun i => s.size - (intOf i).toNat)
      case atStart => exact ⟨0, by omega, rfl, by show _ = _; rw [List.drop_zero]; omega⟩
      case round =>
        obtain ⟨j, hjs, rfl, HR⟩ := hrel
        by_cases hlt : j < s.size
        · have hlt' : (j : Int) < (s.size : Int) := by omega
          have HH := hide (okN_hit s j hlt)
          have HM := hide (okN_miss s j hlt)
          have HO := hide (okM_parts s[j])
          have SP := fun w => Rsep_any s[j] w
          have DG := fun w => Rdigit_any (s[j].toNat : Int) w
          have LT := fun w => Rletter_any (s[j].toNat : Int) w
          cases c1 : isC (s[j].toNat : Int) 1
          · rw [c1] at DG
            cases c2 : isC (s[j].toNat : Int) 4
            · rw [c2] at LT
              cases c3 : markB s[j]
              · rw [c3] at SP
                cases c4 : ((s[j].toNat : Int) == 95)
                · have c4n : ((s[j].toNat : Int) != 95) = true := by simp only [bne, c4]; rfl
                  cases c5 : ((s[j].toNat : Int) == 43)
                  · have c5n : ((s[j].toNat : Int) != 43) = true := by simp only [bne, c5]; rfl
                    have HXX := hide (HM.out (by rw [HO.out, c1, c2, c3, c4, c5]; rfl))
                    have DG := hide DG
                    have LT := hide LT
                    have SP := hide SP
                    clear HH HM HO
                    go_wp2_with fail
                    refine (DG.out _).mono ?_
                    rintro e w' ⟨rfl, rfl⟩
                    go_wp2_with fail
                    refine (LT.out _).mono ?_
                    rintro e w' ⟨rfl, rfl⟩
                    go_wp2_with fail
                    refine (SP.out _).mono ?_
                    rintro e w' ⟨rfl, rfl⟩
                    go_wp2_with fail
                    go_ret3
                    exact .inl ⟨_, HERR.out j hlt (by rw [HR.out, HXX.out]; rfl), rfl, Below.refl _ _⟩
                  · have c5n : ((s[j].toNat : Int) != 43) = false := by simp only [bne, c5]; rfl
                    have HXX := hide (HH.out (by rw [HO.out, c1, c2, c3, c4, c5]; first | rfl | simp))
                    have DG := hide DG
                    have LT := hide LT
                    have SP := hide SP
                    clear HH HM HO
                    go_wp2_with fail
                    refine (DG.out _).mono ?_
                    rintro e w' ⟨rfl, rfl⟩
                    go_wp2_with fail
                    refine (LT.out _).mono ?_
                    rintro e w' ⟨rfl, rfl⟩
                    go_wp2_with fail
                    refine (SP.out _).mono ?_
                    rintro e w' ⟨rfl, rfl⟩
                    go_wp2_with fail
                    go_round
                    case rel => exact ⟨j + 1, by omega, by go_num, by have a := HR.out; have b := HXX.out; show _ = _; omega⟩
                    case measure => simp [intOf]; omega
                · have c4n : ((s[j].toNat : Int) != 95) = false := by simp only [bne, c4]; rfl
                  have HXX := hide (HH.out (by rw [HO.out, c1, c2, c3, c4]; first | rfl | simp))
                  have DG := hide DG
                  have LT := hide LT
                  have SP := hide SP
                  clear HH HM HO
                  go_wp2_with fail
                  refine (DG.out _).mono ?_
                  rintro e w' ⟨rfl, rfl⟩
                  go_wp2_with fail
                  refine (LT.out _).mono ?_
                  rintro e w' ⟨rfl, rfl⟩
                  go_wp2_with fail
                  refine (SP.out _).mono ?_
                  rintro e w' ⟨rfl, rfl⟩
                  go_wp2_with fail
                  go_round
                  case rel => exact ⟨j + 1, by omega, by go_num, by have a := HR.out; have b := HXX.out; show _ = _; omega⟩
                  case measure => simp [intOf]; omega
              · rw [c3] at SP
                have HXX := hide (HH.out (by rw [HO.out, c1, c2, c3]; first | rfl | simp))
                have DG := hide DG
                have LT := hide LT
                have SP := hide SP
                clear HH HM HO
                go_wp2_with fail
                refine (DG.out _).mono ?_
                rintro e w' ⟨rfl, rfl⟩
                go_wp2_with fail
                refine (LT.out _).mono ?_
                rintro e w' ⟨rfl, rfl⟩
                go_wp2_with fail
                refine (SP.out _).mono ?_
                rintro e w' ⟨rfl, rfl⟩
                go_wp2_with fail
                go_round
                case rel => exact ⟨j + 1, by omega, by go_num, by have a := HR.out; have b := HXX.out; show _ = _; omega⟩
                case measure => simp [intOf]; omega
            · rw [c2] at LT
              have HXX := hide (HH.out (by rw [HO.out, c1, c2]; first | rfl | simp))
              have DG := hide DG
              have LT := hide LT
              clear HH HM HO
              go_wp2_with fail
              refine (DG.out _).mono ?_
              rintro e w' ⟨rfl, rfl⟩
              go_wp2_with fail
              refine (LT.out _).mono ?_
              rintro e w' ⟨rfl, rfl⟩
              go_wp2_with fail
              go_round
              case rel => exact ⟨j + 1, by omega, by go_num, by have a := HR.out; have b := HXX.out; show _ = _; omega⟩
              case measure => simp [intOf]; omega
          · rw [c1] at DG
            have HXX := hide (HH.out (by rw [HO.out, c1]; first | rfl | simp))
            have DG := hide DG
            clear HH HM HO
            go_wp2_with fail
            refine (DG.out _).mono ?_
            rintro e w' ⟨rfl, rfl⟩
            go_wp2_with fail
            go_round
            case rel => exact ⟨j + 1, by omega, by go_num, by have a := HR.out; have b := HXX.out; show _ = _; omega⟩
            case measure => simp [intOf]; omega
        · have hlt' : ¬ (j : Int) < (s.size : Int) := by omega
          obtain rfl : j = s.size := by omega
          have HX := hide (okN_end s s.size (Nat.le_refl _))
          obtain ⟨htk, hall⟩ := HOKK.out (by rw [HR.out, HX.out]; rfl)
          have CS := hide (Rsplit_any s w hs64 hall)
          have hsl : (splitL s.data.toList).length ≤ 65 := by
            have := splitN_len (s.data.toList.length + 1) false s.data.toList
            rw [len_data] at this
            unfold splitL
            rw [len_data]
            omega
          have HTK := hide htk
          clear htk hall
          go_wp2_with fail
          refine CS.out.mono ?_
          rintro e w1 ⟨v1, rfl, own1, b1⟩
          have CT := hide (Rtrim_any v1 _ w.heap.size w1 own1 b1.size (by omega))
          obtain ⟨a1, c1, rfl⟩ := own_shapeT own1
          go_wp2_with fail
          refine CT.out.mono ?_
          rintro e w2 ⟨v2, rfl, own2, b2⟩
          have HT2 := hide (own_toks own2)
          obtain ⟨a2, c2, rfl⟩ := own_shapeT own2
          have B2 := hide (b1.trans b2)
          go_wp2_with fail
          go_ret3
          exact .inr ⟨_, a2, c2, HTK.out, rfl, HT2.out, B2.out⟩
    · obtain rfl := size0 s h2
      have HX : Hid (toksL (⟨#[]⟩ : ByteArray).data.toList = .error (11, 0)) := rfl
      clear h1 h1' h2
      go_enter Tryz.func40, Tryz.ntmps40
      go_wp2_with fail
      go_ret3
      exact .inl ⟨_, HX.out, rfl, Below.refl _ _⟩

end Go.Proofs.YtpedljmpobhimaaGreatDoor
