/-
  Walks: the pre-release, the post-release, the development release.
-/
import Derived.Test.YtagnikhkmaplpaaGreatPe
namespace Go.Proofs.YtagnikhkmaplpaaGreat
open Go.RowKit Go.Shelf
set_option linter.unusedVariables false

/-- The words of pre-releases. -/
def preWs : List (List UInt8) := [[97, 108, 112, 104, 97], [97], [98, 101, 116, 97], [98], [112, 114, 101, 118, 105, 101, 119], [112, 114, 101], [99], [114, 99]]
/-- The words of post-releases. -/
def postWs : List (List UInt8) := [[112, 111, 115, 116], [114, 101, 118], [114]]
/-- The word of development releases. -/
def devWs : List (List UInt8) := [[100, 101, 118]]
/-- A stage's number, and the place behind it. -/
def stN (l : List UInt8) (a : Nat) (ws : List (List UInt8)) : List UInt8 := match wordL l a ws with | none => [] | some x => trimL (digT l (markL l a + x.length))
def stP (l : List UInt8) (a : Nat) (ws : List (List UInt8)) : Nat := match wordL l a ws with | none => a | some x => digP l (markL l a + x.length)
/-- A pre-release's letter. -/
def preC (l : List UInt8) (a : Nat) : Int := match wordL l a preWs with | none => 0 | some x => if x = [97, 108, 112, 104, 97] ∨ x = [97] then 97 else if x = [98, 101, 116, 97] ∨ x = [98] then 98 else 114

theorem digE_le (l : List UInt8) (a : Nat) (h : a ≤ l.length) : markL l a ≤ digE l a ∧ digE l a ≤ l.length := by
  have := mark_le l a h
  have hr := runL_le 1 (l.drop (markL l a))
  rw [List.length_drop] at hr
  unfold digE
  omega
theorem digP_le (l : List UInt8) (a : Nat) (h : a ≤ l.length) : a ≤ digP l a ∧ digP l a ≤ l.length := by
  have := digE_le l a h
  have := mark_le l a h
  unfold digP
  split <;> omega
theorem stP_le (l : List UInt8) (a : Nat) (ws : List (List UInt8)) (h : a ≤ l.length) : a ≤ stP l a ws ∧ stP l a ws ≤ l.length := by
  unfold stP
  cases hw : wordL l a ws with
  | none => simp only; omega
  | some x =>
    simp only
    unfold wordL at hw
    have hx := List.find?_some hw
    have hl := (List.isPrefixOf_iff_prefix.1 hx).length_le
    rw [List.length_drop] at hl
    have hm := mark_le l a h
    have := digP_le l (markL l a + x.length) (by omega)
    omega

/-- A stage, whatever its words. -/
theorem stage_two (B : Nat) (s : ByteArray) (a A c : Nat) (ws : List (List UInt8)) (w : World) (h : RdAt w B s a) (ha : a ≤ s.size) (hs : s.size ≤ 64) (hA : WordsAt w A ws) (hws : ws.length ≤ 64) (hwl : ∀ x ∈ ws, x.length ≤ 64) (hAB : A ≠ B) :
    Calls Tryz.prog 91 #[.pointer (some ⟨B, 0, none⟩), .slice (some ⟨A, 0, none⟩) ws.length c] w fun r w' => r = .returned (.tuple #[.string (ofL ((wordL s.data.toList a ws).getD [])), .string (ofL (stN s.data.toList a ws))]) ∧ RdAt w' B s (stP s.data.toList a ws) ∧ Turn B w w' := by
  refine (stage_any B s a A c ws w h ha hs hA hws hwl hAB).mono ?_
  intro r w' hp
  unfold StPost at hp
  unfold stN stP
  cases hw : wordL s.data.toList a ws with
  | none => rw [hw] at hp; exact hp
  | some x => rw [hw] at hp; exact hp

set_option maxRecDepth 100000 in
set_option maxHeartbeats 1000000 in
theorem pre_any (B : Nat) (s : ByteArray) (a : Nat) (w : World) (h : RdAt w B s a) (ha : a ≤ s.size) (hs : s.size ≤ 64) :
    Calls Tryz.prog 58 #[.pointer (some ⟨B, 0, none⟩)] w fun r w' => r = .returned (.tuple #[.int .u8 (preC s.data.toList a), .string (ofL (stN s.data.toList a preWs))]) ∧ RdAt w' B s (stP s.data.toList a preWs) ∧ Turn B w w' := by
  have hBl := h.lt
  have b1 := (Below.refl w.heap.size w).alloc (Nat.le_refl _) (.cells #[.string ⟨#[97, 108, 112, 104, 97]⟩, .string ⟨#[97]⟩, .string ⟨#[98, 101, 116, 97]⟩, .string ⟨#[98]⟩, .string ⟨#[112, 114, 101, 118, 105, 101, 119]⟩, .string ⟨#[112, 114, 101]⟩, .string ⟨#[99]⟩, .string ⟨#[114, 99]⟩] 9)
  have S1 := hide (stage_two B s a w.heap.size 8 preWs _ (h.below b1) ha hs (World.alloc_heap_new w _) (by decide) (by decide) (by omega))
  have HC : Hid (preC s.data.toList a = match wordL s.data.toList a preWs with | none => 0 | some x => if x = [97, 108, 112, 104, 97] ∨ x = [97] then 97 else if x = [98, 101, 116, 97] ∨ x = [98] then 98 else 114) := rfl
  have HN : Hid (wordL s.data.toList a preWs = none → stN s.data.toList a preWs = []) := by
    intro hw
    unfold stN
    rw [hw]
  generalize stN s.data.toList a preWs = T at *
  generalize stP s.data.toList a preWs = P at *
  generalize preC s.data.toList a = C at *
  have hl8 : preWs.length = 8 := rfl
  rw [hl8] at S1
  cases hw : wordL s.data.toList a preWs with
  | none =>
    have hC := HC.out
    rw [hw] at hC S1
    simp only at hC
    subst hC
    have hT := HN.out hw
    subst hT
    go_enter Tryz.func58, Tryz.ntmps58
    go_wp2_with fail
    refine S1.out.mono ?_
    rintro r w2 ⟨rfl, h2, t2⟩
    rw [show (Option.getD (none : Option (List UInt8)) []) = [] from rfl, show ofL [] = ⟨#[]⟩ from rfl]
    go_wp2_with fail
    go_ret2
    exact ⟨rfl, h2, (Turn.ofBelow b1).trans t2⟩
  | some x =>
    have hx : x ∈ preWs := List.mem_of_find?_eq_some hw
    have hC := HC.out
    rw [hw] at hC S1
    simp only at hC
    clear hw HC HN
    simp only [preWs, List.mem_cons, List.not_mem_nil, or_false] at hx
    rcases hx with rfl | rfl | rfl | rfl | rfl | rfl | rfl | rfl
    all_goals
      subst hC
      go_enter Tryz.func58, Tryz.ntmps58
      go_wp2_with fail
      refine S1.out.mono ?_
      rintro r w2 ⟨rfl, h2, t2⟩
      simp only [Option.getD_some, ofL]
      go_wp2_with fail
      go_ret2
      exact ⟨rfl, h2, (Turn.ofBelow b1).trans t2⟩

theorem word_ne {l : List UInt8} {a : Nat} {ws : List (List UInt8)} {x : List UInt8} (h : wordL l a ws = some x) (hn : [] ∉ ws) : x ≠ [] := by
  rintro rfl
  exact hn (List.mem_of_find?_eq_some h)
theorem ofL_ne {x : List UInt8} (h : x ≠ []) : ((ofL x).toList == []) = false := eqE (ofL x) (by rw [ofL_size]; exact List.length_pos_iff.2 h)

/-- The bytes that a stage without a word leaves. -/
theorem stN_none {l : List UInt8} {a : Nat} {ws : List (List UInt8)} (h : wordL l a ws = none) : stN l a ws = [] := by unfold stN; rw [h]

set_option maxRecDepth 100000 in
set_option maxHeartbeats 1000000 in
theorem dev_any (B : Nat) (s : ByteArray) (a : Nat) (w : World) (h : RdAt w B s a) (ha : a ≤ s.size) (hs : s.size ≤ 64) :
    Calls Tryz.prog 60 #[.pointer (some ⟨B, 0, none⟩)] w fun r w' => r = .returned (.tuple #[.bool (wordL s.data.toList a devWs).isSome, .string (ofL (stN s.data.toList a devWs))]) ∧ RdAt w' B s (stP s.data.toList a devWs) ∧ Turn B w w' := by
  have hBl := h.lt
  have b1 := (Below.refl w.heap.size w).alloc (Nat.le_refl _) (.cells #[.string ⟨#[100, 101, 118]⟩] 9)
  have S1 := hide (stage_two B s a w.heap.size 1 devWs _ (h.below b1) ha hs (World.alloc_heap_new w _) (by decide) (by decide) (by omega))
  generalize stN s.data.toList a devWs = T at *
  generalize stP s.data.toList a devWs = P at *
  have hl8 : devWs.length = 1 := rfl
  rw [hl8] at S1
  cases hw : wordL s.data.toList a devWs with
  | none =>
    rw [hw] at S1
    go_enter Tryz.func60, Tryz.ntmps60
    go_wp2_with fail
    refine S1.out.mono ?_
    rintro r w2 ⟨rfl, h2, t2⟩
    rw [show (Option.getD (none : Option (List UInt8)) []) = [] from rfl, show ofL [] = ⟨#[]⟩ from rfl]
    go_wp2_with fail
    go_ret2
    exact ⟨rfl, h2, (Turn.ofBelow b1).trans t2⟩
  | some x =>
    have hne := ofL_ne (word_ne hw (by decide))
    rw [hw] at S1
    clear hw
    go_enter Tryz.func60, Tryz.ntmps60
    go_wp2_with fail
    refine S1.out.mono ?_
    rintro r w2 ⟨rfl, h2, t2⟩
    rw [Option.getD_some]
    go_wp2_with fail
    go_ret2
    refine ⟨?_, h2, (Turn.ofBelow b1).trans t2⟩
    simp

/-- Does a - with digits behind it stand there? -/
def dashB (l : List UInt8) (a : Nat) : Bool := pfxB (l.drop a) [45] && !(digT l a).isEmpty
/-- A post-release. -/
def posB (l : List UInt8) (a : Nat) : Bool := if dashB l a then true else (wordL l a postWs).isSome
def posN (l : List UInt8) (a : Nat) : List UInt8 := if dashB l a then trimL (digT l a) else stN l a postWs
def posP (l : List UInt8) (a : Nat) : Nat := if dashB l a then digP l a else stP l a postWs
theorem digP_none {l : List UInt8} {a : Nat} (ha : a ≤ l.length) (h : digT l a = []) : digP l a = a := by
  have hm := digE_le l a ha
  have : (digT l a).length = digE l a - markL l a := seg_len l _ _ hm.2
  rw [h] at this
  unfold digP
  rw [if_neg (by simp at this; omega)]
theorem digT_len (l : List UInt8) (a : Nat) : (digT l a).length ≤ l.length := by unfold digT seg; simp only [List.length_drop, List.length_take]; omega
theorem posP_le (l : List UInt8) (a : Nat) (h : a ≤ l.length) : a ≤ posP l a ∧ posP l a ≤ l.length := by
  unfold posP
  split
  · exact digP_le l a h
  · exact stP_le l a postWs h

set_option maxRecDepth 100000 in
set_option maxHeartbeats 1000000 in
/-- What post does where no - with digits stands, from the world behind. -/
theorem post_any (B : Nat) (s : ByteArray) (a : Nat) (w : World) (h : RdAt w B s a) (ha : a ≤ s.size) (hs : s.size ≤ 64) :
    Calls Tryz.prog 59 #[.pointer (some ⟨B, 0, none⟩)] w fun r w' => r = .returned (.tuple #[.bool (posB s.data.toList a), .string (ofL (posN s.data.toList a))]) ∧ RdAt w' B s (posP s.data.toList a) ∧ Turn B w w' := by
  have hBl := h.lt
  have R1 := hide (rest_any B s a w h ha)
  have H := hide h
  have P1 := hide (fun W => HasPrefix_any (ofL (s.data.toList.drop a)) ⟨#[45]⟩ W (by rw [ofL_size, List.length_drop, len_data]; unfold maxLen; omega) (by decide))
  rw [ofL_data] at P1
  have hdl := digT_len s.data.toList a
  rw [len_data] at hdl
  have D1 := hide (fun W (hW : RdAt W B s a) => digits_any B s a W hW ha hs)
  have T1 := hide (fun W => Trim_any (ofL (digT s.data.toList a)) W (by rw [ofL_size]; unfold maxLen; omega))
  rw [ofL_data] at T1
  have S1 := hide (fun (W : World) (hW : RdAt W B s a) => (show Calls Tryz.prog 91 #[.pointer (some ⟨B, 0, none⟩), .slice (some ⟨W.heap.size, 0, none⟩) 3 3] (W.alloc (.cells #[.string ⟨#[112, 111, 115, 116]⟩, .string ⟨#[114, 101, 118]⟩, .string ⟨#[114]⟩] 9)) _ from stage_two B s a W.heap.size 3 postWs _ (hW.below ((Below.refl W.heap.size W).alloc (Nat.le_refl _) _)) ha hs (World.alloc_heap_new W _) (by decide) (by decide) (by have := hW.lt; omega)))
  have HB : Hid (posB s.data.toList a = if dashB s.data.toList a then true else (wordL s.data.toList a postWs).isSome) := rfl
  have HN : Hid (posN s.data.toList a = if dashB s.data.toList a then trimL (digT s.data.toList a) else stN s.data.toList a postWs) := rfl
  have HP : Hid (posP s.data.toList a = if dashB s.data.toList a then digP s.data.toList a else stP s.data.toList a postWs) := rfl
  have HD : Hid (dashB s.data.toList a = (pfxB (s.data.toList.drop a) [45] && !(digT s.data.toList a).isEmpty)) := rfl
  have HZ := hide (fun h => digP_none (l := s.data.toList) (a := a) (by rw [len_data]; exact ha) h)
  generalize posB s.data.toList a = rB at *
  generalize posN s.data.toList a = rN at *
  generalize posP s.data.toList a = rP at *
  have hpd : (⟨#[45]⟩ : ByteArray).data.toList = [45] := rfl
  rw [hpd] at P1
  clear hpd
  cases hd : pfxB (s.data.toList.drop a) [45]
  · have hdash : dashB s.data.toList a = false := by rw [HD.out, hd]; rfl
    have hN := HN.out
    have hP := HP.out
    rw [hdash, if_neg (by simp)] at hN hP
    rw [hd] at P1
    clear hd
    go_enter Tryz.func59, Tryz.ntmps59
    go_wp2_with fail
    refine R1.out.mono ?_
    rintro r w1 ⟨rfl, n1, hw1⟩
    have H1 := hide (H.out.drewN n1)
    have t1 := Turn.drewN B w n1
    rw [← hw1] at H1 t1
    clear hw1
    go_wp2_with fail
    refine (P1.out _).mono ?_
    rintro r w2 ⟨rfl, hw2⟩
    rw [hw2]
    clear hw2 w2

    obtain ⟨WS, hWS⟩ : ∃ WS, WS = w1 := ⟨_, rfl⟩
    subst hWS
    have HS := H1
    have tS := t1
    have S2 := hide (S1.out _ HS.out)
    have bS := (Below.refl WS.heap.size WS).alloc (Nat.le_refl _) (.cells #[.string ⟨#[112, 111, 115, 116]⟩, .string ⟨#[114, 101, 118]⟩, .string ⟨#[114]⟩] 9)
    cases hw : wordL s.data.toList a postWs with
    | none =>
      have hB := HB.out
      rw [hdash, hw] at hB
      rw [hw] at S2
      clear hw
      go_wp2_with fail
      refine S2.out.mono ?_
      rintro r w5 ⟨rfl, h5, t5⟩
      rw [show (Option.getD (none : Option (List UInt8)) []) = [] from rfl, show ofL [] = ⟨#[]⟩ from rfl]
      go_wp2_with fail
      go_ret2
      refine ⟨?_, by rw [hP]; exact h5, tS.trans ((Turn.ofBelow bS).trans t5)⟩
      rw [hB, hN]
      rfl
    | some x =>
      have hne := ofL_ne (word_ne hw (by decide))
      have hB := HB.out
      rw [hdash, hw] at hB
      rw [hw] at S2
      clear hw
      go_wp2_with fail
      refine S2.out.mono ?_
      rintro r w5 ⟨rfl, h5, t5⟩
      rw [Option.getD_some]
      go_wp2_with fail
      go_ret2
      refine ⟨?_, by rw [hP]; exact h5, tS.trans ((Turn.ofBelow bS).trans t5)⟩
      rw [hB, hN]
      simp

  · rw [hd] at P1
    by_cases hdt : digT s.data.toList a = []
    · have hdash : dashB s.data.toList a = false := by rw [HD.out, hd, hdt]; rfl
      have hN := HN.out
      have hP := HP.out
      rw [hdash, if_neg (by simp)] at hN hP
      have D2 := hide (fun W (hW : RdAt W B s a) => D1.out W hW)
      rw [hdt, HZ.out hdt, show ofL [] = ⟨#[]⟩ from rfl] at D2
      clear hd hdt
      go_enter Tryz.func59, Tryz.ntmps59
      go_wp2_with fail
      refine R1.out.mono ?_
      rintro r w1 ⟨rfl, n1, hw1⟩
      have H1 := hide (H.out.drewN n1)
      have t1 := Turn.drewN B w n1
      rw [← hw1] at H1 t1
      clear hw1
      go_wp2_with fail
      refine (P1.out _).mono ?_
      rintro r w2 ⟨rfl, hw2⟩
      rw [hw2]
      clear hw2 w2

      go_wp2_with fail
      refine (D2.out _ H1.out).mono ?_
      rintro r w3 ⟨rfl, h3, t3⟩
      obtain ⟨WS, hWS⟩ : ∃ WS, WS = w3 := ⟨_, rfl⟩
      subst hWS
      have HS := hide h3
      have tS := t1.trans t3
      have S2 := hide (S1.out _ HS.out)
      have bS := (Below.refl WS.heap.size WS).alloc (Nat.le_refl _) (.cells #[.string ⟨#[112, 111, 115, 116]⟩, .string ⟨#[114, 101, 118]⟩, .string ⟨#[114]⟩] 9)
      cases hw : wordL s.data.toList a postWs with
      | none =>
        have hB := HB.out
        rw [hdash, hw] at hB
        rw [hw] at S2
        clear hw
        go_wp2_with fail
        refine S2.out.mono ?_
        rintro r w5 ⟨rfl, h5, t5⟩
        rw [show (Option.getD (none : Option (List UInt8)) []) = [] from rfl, show ofL [] = ⟨#[]⟩ from rfl]
        go_wp2_with fail
        go_ret2
        refine ⟨?_, by rw [hP]; exact h5, tS.trans ((Turn.ofBelow bS).trans t5)⟩
        rw [hB, hN]
        rfl
      | some x =>
        have hne := ofL_ne (word_ne hw (by decide))
        have hB := HB.out
        rw [hdash, hw] at hB
        rw [hw] at S2
        clear hw
        go_wp2_with fail
        refine S2.out.mono ?_
        rintro r w5 ⟨rfl, h5, t5⟩
        rw [Option.getD_some]
        go_wp2_with fail
        go_ret2
        refine ⟨?_, by rw [hP]; exact h5, tS.trans ((Turn.ofBelow bS).trans t5)⟩
        rw [hB, hN]
        simp

    · have hdash : dashB s.data.toList a = true := by
        rw [HD.out, hd]
        cases hx : digT s.data.toList a with
        | nil => exact absurd hx hdt
        | cons _ _ => rfl
      have hB := HB.out
      have hN := HN.out
      have hP := HP.out
      rw [hdash, if_pos rfl] at hB hN hP
      have hne := ofL_ne hdt
      clear hd hdt
      go_enter Tryz.func59, Tryz.ntmps59
      go_wp2_with fail
      refine R1.out.mono ?_
      rintro r w1 ⟨rfl, n1, hw1⟩
      have H1 := hide (H.out.drewN n1)
      have t1 := Turn.drewN B w n1
      rw [← hw1] at H1 t1
      clear hw1
      go_wp2_with fail
      refine (P1.out _).mono ?_
      rintro r w2 ⟨rfl, hw2⟩
      rw [hw2]
      clear hw2 w2

      go_wp2_with fail
      refine (D1.out _ H1.out).mono ?_
      rintro r w3 ⟨rfl, h3, t3⟩
      go_wp2_with fail
      refine (T1.out _).mono ?_
      rintro r w4 ⟨rfl, hw4⟩
      rw [hw4]
      clear hw4 w4
      go_wp2_with fail
      go_ret2
      refine ⟨?_, by rw [hP]; exact h3, t1.trans t3⟩
      rw [hB, hN]
      rfl

end Go.Proofs.YtagnikhkmaplpaaGreat
