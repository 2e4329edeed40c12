/-
  Walks: the pre-release, the post-release, the development release. · Walks: the iterator over runs of a class with separators between.
-/
import Derived.Test.YtabmfdedbpmfmaaGreatBPe
namespace Go.Proofs.YtabmfdedbpmfmaaGreat
open Go.RowKit Go.Shelf
set_option linter.unusedVariables false

def preWs : List (List UInt8) := [[97, 108, 112, 104, 97], [97], [98, 101, 116, 97], [98], [112, 114, 101, 118, 105, 101, 119], [112, 114, 101], [99], [114, 99]]
def postWs : List (List UInt8) := [[112, 111, 115, 116], [114, 101, 118], [114]]
def devWs : List (List UInt8) := [[100, 101, 118]]
def stN (l : List UInt8) (a : Nat) (ws : List (List UInt8)) : List UInt8 := match wordL l a ws with | none => [] | some x => trimL (digT l (markL l a + x.length))
def stP (l : List UInt8) (a : Nat) (ws : List (List UInt8)) : Nat := match wordL l a ws with | none => a | some x => digP l (markL l a + x.length)
def preC (l : List UInt8) (a : Nat) : Int := match wordL l a preWs with | none => 0 | some x => if x = [97, 108, 112, 104, 97] ∨ x = [97] then 97 else if x = [98, 101, 116, 97] ∨ x = [98] then 98 else 114

theorem digE_le (l : List UInt8) (a : Nat) (h : a ≤ l.length) : markL l a ≤ digE l a ∧ digE l a ≤ l.length := by
  have := mark_le l a h
  have hr := runL_le 1 (l.drop (markL l a))
  rw [List.length_drop] at hr
  unfold digE
  omega
theorem digP_le (l : List UInt8) (a : Nat) (h : a ≤ l.length) : a ≤ digP l a ∧ digP l a ≤ l.length := by
  have := digE_le l a h
  have := mark_le l a h
  unfold digP
  split <;> omega
theorem stP_le (l : List UInt8) (a : Nat) (ws : List (List UInt8)) (h : a ≤ l.length) : a ≤ stP l a ws ∧ stP l a ws ≤ l.length := by
  unfold stP
  cases hw : wordL l a ws with
  | none => simp only; omega
  | some x =>
    simp only
    unfold wordL at hw
    have hx := List.find?_some hw
    have hl := (List.isPrefixOf_iff_prefix.1 hx).length_le
    rw [List.length_drop] at hl
    have hm := mark_le l a h
    have := digP_le l (markL l a + x.length) (by omega)
    omega

theorem stage_two (B : Nat) (s : ByteArray) (a A c : Nat) (ws : List (List UInt8)) (w : World) (h : RdAt w B s a) (ha : a ≤ s.size) (hs : s.size ≤ 64) (hA : WordsAt w A ws) (hws : ws.length ≤ 64) (hwl : ∀ x ∈ ws, x.length ≤ 64) (hAB : A ≠ B) :
    Calls Tryz.prog 144 #[.pointer (some ⟨B, 0, none⟩), .slice (some ⟨A, 0, none⟩) ws.length c] w fun r w' => r = .returned (.tuple #[.string (ofL ((wordL s.data.toList a ws).getD [])), .string (ofL (stN s.data.toList a ws))]) ∧ RdAt w' B s (stP s.data.toList a ws) ∧ Turn B w w' := by
  refine (stage_any B s a A c ws w h ha hs hA hws hwl hAB).mono ?_
  intro r w' hp
  unfold StPost at hp
  unfold stN stP
  cases hw : wordL s.data.toList a ws with
  | none => rw [hw] at hp; exact hp
  | some x => rw [hw] at hp; exact hp

set_option maxRecDepth 100000 in
set_option maxHeartbeats 1000000 in
theorem pre_any (B : Nat) (s : ByteArray) (a : Nat) (w : World) (h : RdAt w B s a) (ha : a ≤ s.size) (hs : s.size ≤ 64) :
    Calls Tryz.prog 124 #[.pointer (some ⟨B, 0, none⟩)] w fun r w' => r = .returned (.tuple #[.int .u8 (preC s.data.toList a), .string (ofL (stN s.data.toList a preWs))]) ∧ RdAt w' B s (stP s.data.toList a preWs) ∧ Turn B w w' := by
  have hBl := h.lt
  have b1 := (Below.refl w.heap.size w).alloc (Nat.le_refl _) (.cells #[.string ⟨#[97, 108, 112, 104, 97]⟩, .string ⟨#[97]⟩, .string ⟨#[98, 101, 116, 97]⟩, .string ⟨#[98]⟩, .string ⟨#[112, 114, 101, 118, 105, 101, 119]⟩, .string ⟨#[112, 114, 101]⟩, .string ⟨#[99]⟩, .string ⟨#[114, 99]⟩] 9)
  have S1 := hide (stage_two B s a w.heap.size 8 preWs _ (h.below b1) ha hs (World.alloc_heap_new w _) (by decide) (by decide) (by omega))
  have HC : Hid (preC s.data.toList a = match wordL s.data.toList a preWs with | none => 0 | some x => if x = [97, 108, 112, 104, 97] ∨ x = [97] then 97 else if x = [98, 101, 116, 97] ∨ x = [98] then 98 else 114) := rfl
  have HN : Hid (wordL s.data.toList a preWs = none → stN s.data.toList a preWs = []) := by
    intro hw
    unfold stN
    rw [hw]
  generalize stN s.data.toList a preWs = T at *
  generalize stP s.data.toList a preWs = P at *
  generalize preC s.data.toList a = C at *
  have hl8 : preWs.length = 8 := rfl
  rw [hl8] at S1
  cases hw : wordL s.data.toList a preWs with
  | none =>
    have hC := HC.out
    rw [hw] at hC S1
    simp only at hC
    subst hC
    have hT := HN.out hw
    subst hT
    go_enter Tryz.func124, Tryz.ntmps124
    go_wp2_with fail
    refine S1.out.mono ?_
    rintro r w2 ⟨rfl, h2, t2⟩
    rw [show (Option.getD (none : Option (List UInt8)) []) = [] from rfl, show ofL [] = ⟨#[]⟩ from rfl]
    go_wp2_with fail
    go_ret2
    exact ⟨rfl, h2, (Turn.ofBelow b1).trans t2⟩
  | some x =>
    have hx : x ∈ preWs := List.mem_of_find?_eq_some hw
    have hC := HC.out
    rw [hw] at hC S1
    simp only at hC
    clear hw HC HN
    simp only [preWs, List.mem_cons, List.not_mem_nil, or_false] at hx
    rcases hx with rfl | rfl | rfl | rfl | rfl | rfl | rfl | rfl
    all_goals
      subst hC
      go_enter Tryz.func124, Tryz.ntmps124
      go_wp2_with fail
      refine S1.out.mono ?_
      rintro r w2 ⟨rfl, h2, t2⟩
      simp only [Option.getD_some, ofL]
      go_wp2_with fail
      go_ret2
      exact ⟨rfl, h2, (Turn.ofBelow b1).trans t2⟩

theorem word_ne {l : List UInt8} {a : Nat} {ws : List (List UInt8)} {x : List UInt8} (h : wordL l a ws = some x) (hn : [] ∉ ws) : x ≠ [] := by
  rintro rfl
  exact hn (List.mem_of_find?_eq_some h)
theorem ofL_ne {x : List UInt8} (h : x ≠ []) : ((ofL x).toList == []) = false := eqE (ofL x) (by rw [ofL_size]; exact List.length_pos_iff.2 h)

set_option maxRecDepth 100000 in
set_option maxHeartbeats 1000000 in
theorem dev_any (B : Nat) (s : ByteArray) (a : Nat) (w : World) (h : RdAt w B s a) (ha : a ≤ s.size) (hs : s.size ≤ 64) :
    Calls Tryz.prog 126 #[.pointer (some ⟨B, 0, none⟩)] w fun r w' => r = .returned (.tuple #[.bool (wordL s.data.toList a devWs).isSome, .string (ofL (stN s.data.toList a devWs))]) ∧ RdAt w' B s (stP s.data.toList a devWs) ∧ Turn B w w' := by
  have hBl := h.lt
  have b1 := (Below.refl w.heap.size w).alloc (Nat.le_refl _) (.cells #[.string ⟨#[100, 101, 118]⟩] 9)
  have S1 := hide (stage_two B s a w.heap.size 1 devWs _ (h.below b1) ha hs (World.alloc_heap_new w _) (by decide) (by decide) (by omega))
  generalize stN s.data.toList a devWs = T at *
  generalize stP s.data.toList a devWs = P at *
  have hl8 : devWs.length = 1 := rfl
  rw [hl8] at S1
  cases hw : wordL s.data.toList a devWs with
  | none =>
    rw [hw] at S1
    go_enter Tryz.func126, Tryz.ntmps126
    go_wp2_with fail
    refine S1.out.mono ?_
    rintro r w2 ⟨rfl, h2, t2⟩
    rw [show (Option.getD (none : Option (List UInt8)) []) = [] from rfl, show ofL [] = ⟨#[]⟩ from rfl]
    go_wp2_with fail
    go_ret2
    exact ⟨rfl, h2, (Turn.ofBelow b1).trans t2⟩
  | some x =>
    have hne := ofL_ne (word_ne hw (by decide))
    rw [hw] at S1
    clear hw
    go_enter Tryz.func126, Tryz.ntmps126
    go_wp2_with fail
    refine S1.out.mono ?_
    rintro r w2 ⟨rfl, h2, t2⟩
    rw [Option.getD_some]
    go_wp2_with fail
    go_ret2
    refine ⟨?_, h2, (Turn.ofBelow b1).trans t2⟩
    simp

def dashB (l : List UInt8) (a : Nat) : Bool := pfxB (l.drop a) [45] && !(digT l a).isEmpty
def posB (l : List UInt8) (a : Nat) : Bool := if dashB l a then true else (wordL l a postWs).isSome
def posN (l : List UInt8) (a : Nat) : List UInt8 := if dashB l a then trimL (digT l a) else stN l a postWs
def posP (l : List UInt8) (a : Nat) : Nat := if dashB l a then digP l a else stP l a postWs
theorem digP_none {l : List UInt8} {a : Nat} (ha : a ≤ l.length) (h : digT l a = []) : digP l a = a := by
  have hm := digE_le l a ha
  have : (digT l a).length = digE l a - markL l a := seg_len l _ _ hm.2
  rw [h] at this
  unfold digP
  rw [if_neg (by simp at this; omega)]
theorem digT_len (l : List UInt8) (a : Nat) : (digT l a).length ≤ l.length := by unfold digT seg; simp only [List.length_drop, List.length_take]; omega
theorem posP_le (l : List UInt8) (a : Nat) (h : a ≤ l.length) : a ≤ posP l a ∧ posP l a ≤ l.length := by
  unfold posP
  split
  · exact digP_le l a h
  · exact stP_le l a postWs h

set_option maxRecDepth 100000 in
set_option maxHeartbeats 1000000 in
theorem post_any (B : Nat) (s : ByteArray) (a : Nat) (w : World) (h : RdAt w B s a) (ha : a ≤ s.size) (hs : s.size ≤ 64) :
    Calls Tryz.prog 125 #[.pointer (some ⟨B, 0, none⟩)] w fun r w' => r = .returned (.tuple #[.bool (posB s.data.toList a), .string (ofL (posN s.data.toList a))]) ∧ RdAt w' B s (posP s.data.toList a) ∧ Turn B w w' := by
  have hBl := h.lt
  have R1 := hide (rest_any B s a w h ha)
  have H := hide h
  have P1 := hide (fun W => HasPrefix_any (ofL (s.data.toList.drop a)) ⟨#[45]⟩ W (by rw [ofL_size, List.length_drop, len_data]; unfold maxLen; omega) (by decide))
  rw [ofL_data] at P1
  have hdl := digT_len s.data.toList a
  rw [len_data] at hdl
  have D1 := hide (fun W (hW : RdAt W B s a) => digits_any B s a W hW ha hs)
  have T1 := hide (fun W => Trim_any (ofL (digT s.data.toList a)) W (by rw [ofL_size]; unfold maxLen; omega))
  rw [ofL_data] at T1
  have S1 := hide (fun (W : World) (hW : RdAt W B s a) => (show Calls Tryz.prog 144 #[.pointer (some ⟨B, 0, none⟩), .slice (some ⟨W.heap.size, 0, none⟩) 3 3] (W.alloc (.cells #[.string ⟨#[112, 111, 115, 116]⟩, .string ⟨#[114, 101, 118]⟩, .string ⟨#[114]⟩] 9)) _ from stage_two B s a W.heap.size 3 postWs _ (hW.below ((Below.refl W.heap.size W).alloc (Nat.le_refl _) _)) ha hs (World.alloc_heap_new W _) (by decide) (by decide) (by have := hW.lt; omega)))
  have HB : Hid (posB s.data.toList a = if dashB s.data.toList a then true else (wordL s.data.toList a postWs).isSome) := rfl
  have HN : Hid (posN s.data.toList a = if dashB s.data.toList a then trimL (digT s.data.toList a) else stN s.data.toList a postWs) := rfl
  have HP : Hid (posP s.data.toList a = if dashB s.data.toList a then digP s.data.toList a else stP s.data.toList a postWs) := rfl
  have HD : Hid (dashB s.data.toList a = (pfxB (s.data.toList.drop a) [45] && !(digT s.data.toList a).isEmpty)) := rfl
  have HZ := hide (fun h => digP_none (l := s.data.toList) (a := a) (by rw [len_data]; exact ha) h)
  generalize posB s.data.toList a = rB at *
  generalize posN s.data.toList a = rN at *
  generalize posP s.data.toList a = rP at *
  have hpd : (⟨#[45]⟩ : ByteArray).data.toList = [45] := rfl
  rw [hpd] at P1
  clear hpd
  cases hd : pfxB (s.data.toList.drop a) [45]
  · have hdash : dashB s.data.toList a = false := by rw [HD.out, hd]; rfl
    have hN := HN.out
    have hP := HP.out
    rw [hdash, if_neg (by simp)] at hN hP
    rw [hd] at P1
    clear hd
    go_enter Tryz.func125, Tryz.ntmps125
    go_wp2_with fail
    refine R1.out.mono ?_
    rintro r w1 ⟨rfl, n1, hw1⟩
    have H1 := hide (H.out.drewN n1)
    have t1 := Turn.drewN B w n1
    rw [← hw1] at H1 t1
    clear hw1
    go_wp2_with fail
    refine (P1.out _).mono ?_
    rintro r w2 ⟨rfl, hw2⟩
    rw [hw2]
    clear hw2 w2

    obtain ⟨WS, hWS⟩ : ∃ WS, WS = w1 := ⟨_, rfl⟩
    subst hWS
    have HS := H1
    have tS := t1
    have S2 := hide (S1.out _ HS.out)
    have bS := (Below.refl WS.heap.size WS).alloc (Nat.le_refl _) (.cells #[.string ⟨#[112, 111, 115, 116]⟩, .string ⟨#[114, 101, 118]⟩, .string ⟨#[114]⟩] 9)
    cases hw : wordL s.data.toList a postWs with
    | none =>
      have hB := HB.out
      rw [hdash, hw] at hB
      rw [hw] at S2
      clear hw
      go_wp2_with fail
      refine S2.out.mono ?_
      rintro r w5 ⟨rfl, h5, t5⟩
      rw [show (Option.getD (none : Option (List UInt8)) []) = [] from rfl, show ofL [] = ⟨#[]⟩ from rfl]
      go_wp2_with fail
      go_ret2
      refine ⟨?_, by rw [hP]; exact h5, tS.trans ((Turn.ofBelow bS).trans t5)⟩
      rw [hB, hN]
      rfl
    | some x =>
      have hne := ofL_ne (word_ne hw (by decide))
      have hB := HB.out
      rw [hdash, hw] at hB
      rw [hw] at S2
      clear hw
      go_wp2_with fail
      refine S2.out.mono ?_
      rintro r w5 ⟨rfl, h5, t5⟩
      rw [Option.getD_some]
      go_wp2_with fail
      go_ret2
      refine ⟨?_, by rw [hP]; exact h5, tS.trans ((Turn.ofBelow bS).trans t5)⟩
      rw [hB, hN]
      simp

  · rw [hd] at P1
    by_cases hdt : digT s.data.toList a = []
    · have hdash : dashB s.data.toList a = false := by rw [HD.out, hd, hdt]; rfl
      have hN := HN.out
      have hP := HP.out
      rw [hdash, if_neg (by simp)] at hN hP
      have D2 := hide (fun W (hW : RdAt W B s a) => D1.out W hW)
      rw [hdt, HZ.out hdt, show ofL [] = ⟨#[]⟩ from rfl] at D2
      clear hd hdt
      go_enter Tryz.func125, Tryz.ntmps125
      go_wp2_with fail
      refine R1.out.mono ?_
      rintro r w1 ⟨rfl, n1, hw1⟩
      have H1 := hide (H.out.drewN n1)
      have t1 := Turn.drewN B w n1
      rw [← hw1] at H1 t1
      clear hw1
      go_wp2_with fail
      refine (P1.out _).mono ?_
      rintro r w2 ⟨rfl, hw2⟩
      rw [hw2]
      clear hw2 w2

      go_wp2_with fail
      refine (D2.out _ H1.out).mono ?_
      rintro r w3 ⟨rfl, h3, t3⟩
      obtain ⟨WS, hWS⟩ : ∃ WS, WS = w3 := ⟨_, rfl⟩
      subst hWS
      have HS := hide h3
      have tS := t1.trans t3
      have S2 := hide (S1.out _ HS.out)
      have bS := (Below.refl WS.heap.size WS).alloc (Nat.le_refl _) (.cells #[.string ⟨#[112, 111, 115, 116]⟩, .string ⟨#[114, 101, 118]⟩, .string ⟨#[114]⟩] 9)
      cases hw : wordL s.data.toList a postWs with
      | none =>
        have hB := HB.out
        rw [hdash, hw] at hB
        rw [hw] at S2
        clear hw
        go_wp2_with fail
        refine S2.out.mono ?_
        rintro r w5 ⟨rfl, h5, t5⟩
        rw [show (Option.getD (none : Option (List UInt8)) []) = [] from rfl, show ofL [] = ⟨#[]⟩ from rfl]
        go_wp2_with fail
        go_ret2
        refine ⟨?_, by rw [hP]; exact h5, tS.trans ((Turn.ofBelow bS).trans t5)⟩
        rw [hB, hN]
        rfl
      | some x =>
        have hne := ofL_ne (word_ne hw (by decide))
        have hB := HB.out
        rw [hdash, hw] at hB
        rw [hw] at S2
        clear hw
        go_wp2_with fail
        refine S2.out.mono ?_
        rintro r w5 ⟨rfl, h5, t5⟩
        rw [Option.getD_some]
        go_wp2_with fail
        go_ret2
        refine ⟨?_, by rw [hP]; exact h5, tS.trans ((Turn.ofBelow bS).trans t5)⟩
        rw [hB, hN]
        simp

    · have hdash : dashB s.data.toList a = true := by
        rw [HD.out, hd]
        cases hx : digT s.data.toList a with
        | nil => exact absurd hx hdt
        | cons _ _ => rfl
      have hB := HB.out
      have hN := HN.out
      have hP := HP.out
      rw [hdash, if_pos rfl] at hB hN hP
      have hne := ofL_ne hdt
      clear hd hdt
      go_enter Tryz.func125, Tryz.ntmps125
      go_wp2_with fail
      refine R1.out.mono ?_
      rintro r w1 ⟨rfl, n1, hw1⟩
      have H1 := hide (H.out.drewN n1)
      have t1 := Turn.drewN B w n1
      rw [← hw1] at H1 t1
      clear hw1
      go_wp2_with fail
      refine (P1.out _).mono ?_
      rintro r w2 ⟨rfl, hw2⟩
      rw [hw2]
      clear hw2 w2

      go_wp2_with fail
      refine (D1.out _ H1.out).mono ?_
      rintro r w3 ⟨rfl, h3, t3⟩
      go_wp2_with fail
      refine (T1.out _).mono ?_
      rintro r w4 ⟨rfl, hw4⟩
      rw [hw4]
      clear hw4 w4
      go_wp2_with fail
      go_ret2
      refine ⟨?_, by rw [hP]; exact h3, t1.trans t3⟩
      rw [hB, hN]
      rfl

end Go.Proofs.YtabmfdedbpmfmaaGreat

namespace Go.Proofs.YtabmfdedbpmfmaaGreat
open Go.RowKit Go.Shelf
set_option linter.unusedVariables false

attribute [local go_sem] Oper.semAt_some

def runsL (l : List UInt8) (k : Int) (seps : List UInt8) (a : Nat) : List (Nat × Nat) :=
  if runL k (l.drop a) = 0 then [] else
    (a, a + runL k (l.drop a)) :: if h : ∃ c, l[a + runL k (l.drop a)]? = some c ∧ seps.contains c = true then runsL l k seps (a + runL k (l.drop a) + 1) else []
  termination_by l.length - a
  decreasing_by
    obtain ⟨c, hc, _⟩ := h
    have := (List.getElem?_eq_some_iff.1 hc).1
    omega
theorem runs_none (l : List UInt8) (k : Int) (seps : List UInt8) (a : Nat) (h : runL k (l.drop a) = 0) : runsL l k seps a = [] := by
  rw [runsL, if_pos h]
theorem runs_more (l : List UInt8) (k : Int) (seps : List UInt8) (a e : Nat) (he : a + runL k (l.drop a) = e) (hn : e ≠ a) (c : UInt8) (hc : l[e]? = some c) (hs : seps.contains c = true) : runsL l k seps a = (a, e) :: runsL l k seps (e + 1) := by
  subst he
  rw [runsL, if_neg (by omega), dif_pos ⟨c, hc, hs⟩]
theorem runs_last (l : List UInt8) (k : Int) (seps : List UInt8) (a e : Nat) (he : a + runL k (l.drop a) = e) (hn : e ≠ a) (h : ∀ c, l[e]? = some c → seps.contains c = false) : runsL l k seps a = [(a, e)] := by
  subst he
  rw [runsL, if_neg (by omega), dif_neg]
  rintro ⟨c, hc, hs⟩
  rw [h c hc] at hs
  cases hs
theorem runs_len (l : List UInt8) (k : Int) (seps : List UInt8) : ∀ (n a : Nat), l.length - a = n → (runsL l k seps a).length ≤ l.length - a := by
  intro n
  induction n using Nat.strongRecOn with
  | _ n ih =>
    intro a hn
    by_cases h0 : runL k (l.drop a) = 0
    · rw [runs_none l k seps a h0]; simp
    · have hle := runL_le k (l.drop a)
      rw [List.length_drop] at hle
      by_cases h : ∃ c, l[a + runL k (l.drop a)]? = some c ∧ seps.contains c = true
      · obtain ⟨c, hc, hs⟩ := h
        have hlt := (List.getElem?_eq_some_iff.1 hc).1
        rw [runs_more l k seps a _ rfl (by omega) c hc hs]
        have := ih (l.length - (a + runL k (l.drop a) + 1)) (by omega) (a + runL k (l.drop a) + 1) rfl
        simp only [List.length_cons]
        omega
      · rw [runs_last l k seps a _ rfl (by omega) (fun c hc => by
          cases hs : seps.contains c
          · rfl
          · exact absurd ⟨c, hc, hs⟩ h)]
        simp only [List.length_cons, List.length_nil]
        omega

def Three (b c d : Nat) (W W' : World) : Prop := W'.heap[b]? = W.heap[b]? ∧ W'.heap[c]? = W.heap[c]? ∧ W'.heap[d]? = W.heap[d]?
theorem Three.refl (b c d : Nat) (W : World) : Three b c d W W := ⟨rfl, rfl, rfl⟩
theorem Three.trans {b c d : Nat} {A B C : World} (h : Three b c d A B) (k : Three b c d B C) : Three b c d A C := ⟨k.1.trans h.1, k.2.1.trans h.2.1, k.2.2.trans h.2.2⟩
theorem three_b {b c d : Nat} {w : World} (hb : b < w.heap.size) (hc : c < w.heap.size) (hd : d < w.heap.size) : ∀ (W : World) (l : Nat) (o o' : Obj), w.heap.size ≤ l → W.heap[l]? = some o → o.isCells = false → o.isWalk = false → Three b c d W (W.putObj l o') :=
  fun W l o o' hl _ _ _ => ⟨World.putObj_heap_other (by omega), World.putObj_heap_other (by omega), World.putObj_heap_other (by omega)⟩

theorem index_in : ∀ (seps : List UInt8) (c : UInt8), (0 ≤ Lib.indexByte seps c) ↔ seps.contains c = true
  | [], c => by simp [Lib.indexByte]
  | d :: r, c => by
    have ih := index_in r c
    have hge := Lib.indexByte_ge r c
    unfold Lib.indexByte
    by_cases hd : (d == c) = true
    · rw [if_pos hd]
      obtain rfl : d = c := by simpa using hd
      simp
    · rw [if_neg hd]
      have hd' : (c == d) = false := by rw [beq_eq_false_iff_ne]; rintro rfl; exact hd (by simp)
      rw [List.contains_cons, hd', Bool.false_or, ← ih]
      by_cases hi : (Lib.indexByte r c == -1) = true
      · rw [if_pos hi]
        have : Lib.indexByte r c = -1 := by simpa using hi
        rw [this]
      · rw [if_neg hi]
        have : ¬ Lib.indexByte r c = -1 := by simpa using hi
        omega
theorem at_some (s : ByteArray) (e : Nat) (h : e < s.size) : s.data.toList[e]? = some s[e] := by
  rw [List.getElem?_eq_getElem (by rw [len_data]; exact h)]; rfl
theorem at_none (s : ByteArray) (e : Nat) (h : ¬ e < s.size) : s.data.toList[e]? = none := List.getElem?_eq_none (by rw [len_data]; omega)

theorem grown_drewN (W : World) (m : Nat) : W.grownBy (W.drewN m) none := ⟨rfl, rfl, rfl, Nat.le_refl _, fun _ _ _ => rfl⟩
theorem abides_drewN {β : Type} {B : Nat} {J : β → World → Prop} (h : AbidesFrom B J) {s : β} {W : World} (hs : J s W) (m : Nat) : J s (W.drewN m) := h s W (W.drewN m) none hs (grown_drewN W m) (fun r e => by cases e)
theorem boxed_drewN {W : World} {B : Nat} {t : TypeId} {v : Value} (h : Boxed W B t v) (m : Nat) : Boxed (W.drewN m) B t v := h.kept (grown_drewN W m) (by simp)

set_option maxRecDepth 100000 in
set_option maxHeartbeats 2000000 in
theorem runs1_in (n : Nat) (hn : 1 ≤ n) (l Ba Bs Bc Bp : Nat) (s p : ByteArray) (a : Nat) (kc : Int) (ha : a ≤ s.size) (hs : s.size ≤ 64) (J Jx : List (Nat × Nat) → World → Prop) (B0 : Nat) (hJ : AbidesFrom B0 J)
    (hY : ∀ pre x W, J pre W → pre.length < (runsL s.data.toList kc p.data.toList a).length → YieldAt Fence.wide (n - 1) Tryz.prog l #[.string (s.extract x.1 x.2), .int .i64 (x.2 : Int)] W fun e W' =>
      (e = .returned (.bool true) ∧ J (pre ++ [x]) W' ∧ Three Bs Bc Bp W W') ∨ (e = .returned (.bool false) ∧ Jx (pre ++ [x]) W'))
    (W : World) (hBa : Boxed W Ba 3 (.int .i64 (a : Int))) (hBs : Boxed W Bs 9 (.string s)) (hBc : Boxed W Bc 3 (.int .i64 kc)) (hBp : Boxed W Bp 9 (.string p)) (h0 : J [] W) :
    CallsIn Fence.wide n Tryz.prog 163 #[.func (.yield l) #[] #[], .pointer (some ⟨Ba, 0, none⟩), .pointer (some ⟨Bs, 0, none⟩), .pointer (some ⟨Bc, 0, none⟩), .pointer (some ⟨Bp, 0, none⟩)] W fun e W' => (∃ v, e = .returned v) ∧
      ((∃ ys, ys = runsL s.data.toList kc p.data.toList a ∧ J ys W') ∨ (∃ pre, pre <+: runsL s.data.toList kc p.data.toList a ∧ Jx pre W')) := by
  have cA0 := hBa.cell
  refine callsIn_of_wp Tryz.func163 rfl trivial ?_ rfl
  simp only [Tryz.ntmps163, List.size_toArray, List.length_cons, List.length_nil, Nat.reduceAdd, Nat.reduceSub, Array.replicate_succ, Array.replicate_zero, List.push_toArray, List.append_toArray, List.nil_append, List.cons_append]
  gi_wp2
  gi_loopw [6] (fun i wr => ∃ (k : Nat) (pre : List (Nat × Nat)), k ≤ s.size ∧ i = .int .i64 k ∧ J pre wr ∧ Boxed wr Bs 9 (.string s) ∧ Boxed wr Bc 3 (.int .i64 kc) ∧ Boxed wr Bp 9 (.string p) ∧
      Hid (runsL s.data.toList kc p.data.toList a = pre ++ runsL s.data.toList kc p.data.toList k))
    (fun i _ => s.size - (intOf i).toNat)
  case atStart => exact ⟨a, [], ha, rfl, h0, hBs, hBc, hBp, rfl⟩
  case round =>
    obtain ⟨k, pre, hk, rfl, hJs, bS, bC, bP, HR⟩ := hrel
    have cS := bS.cell
    have cC := bC.cell
    have cP := bP.cell
    have hle := runL_drop_le kc s k hk
    have C := Run_any s (k : Int) kc wr (by unfold maxLen; omega)
    rw [runI_in s k kc hk] at C
    have HN := hide (runs_none s.data.toList kc p.data.toList k)
    have HM := hide (runs_more s.data.toList kc p.data.toList k)
    have HL := hide (runs_last s.data.toList kc p.data.toList k)
    have hke : k ≤ k + runL kc (s.data.toList.drop k) := by omega
    have hcast : (k : Int) + (runL kc (s.data.toList.drop k) : Int) = ((k + runL kc (s.data.toList.drop k) : Nat) : Int) := by omega
    rw [hcast] at C
    clear hcast
    have HE : Hid (∀ e, k + runL kc (s.data.toList.drop k) = e → (e = k ↔ runL kc (s.data.toList.drop k) = 0)) := by intro e he; omega
    generalize he : k + runL kc (s.data.toList.drop k) = e at *
    have HC := hide C
    have HE2 := hide (HE.out e rfl)
    have HHe := hide he
    clear C HE he
    by_cases hek : e = k
    · have HX := hide (HN.out (HE2.out.1 hek))
      have hb : ((e : Int) == (k : Int)) = true := by simp [hek]
      clear hek
      gi_wp2_with (refine ⟨trivial, ?_⟩; gi_at_call 60; refine (callsIn_wide.2 HC.out).mono ?_; rintro e w' ⟨rfl, hw'⟩; rw [hw']; clear hw' w')
      refine ⟨fun _ h => (by cases h), ?_⟩
      gi_wp2
      refine bodyPost_ret (results_none rfl _ _ _) rfl ?_
      exact ⟨⟨_, rfl⟩, .inl ⟨pre, by rw [HR.out, HX.out]; simp, hJs⟩⟩
    · have hb : ((e : Int) == (k : Int)) = false := by rw [beq_eq_false_iff_ne]; omega
      by_cases hlt : e < s.size
      · have hne : ((e : Int) == (s.size : Int)) = false := by rw [beq_eq_false_iff_ne]; omega
        have hc : ((s[e].toNat : Int)).toNat.toUInt8 = s[e] := by simp
        have hI := fun W => IndexByteS_any p (s[e].toNat : Int) W
        rw [hc] at hI
        have hin := index_in p.data.toList s[e]
        have HI := hide hI
        clear hI hc
        generalize Lib.indexByte p.data.toList s[e] = ix at *
        cases hcon : p.data.toList.contains s[e]
        · rw [hcon] at hin
          have hix : ¬ 0 ≤ ix := fun h => by have := hin.1 h; cases this
          have hix' : ix < 0 := by omega
          have HX := hide (HL.out e rfl hek (fun c hc => by rw [at_some s e hlt] at hc; cases hc; exact hcon))
          clear hin hcon hix
          obtain ⟨fn, tmps, assign, body, hy, hR⟩ := hY pre (k, e) wr hJs (by rw [HR.out, HX.out]; simp)
          dsimp only at hy
          gi_wp2_with (refine ⟨trivial, ?_⟩; gi_at_call 60; refine (callsIn_wide.2 HC.out).mono ?_; rintro e w' ⟨rfl, hw'⟩; rw [hw']; clear hw' w')
          refine hR.mono ?_
          rintro e' W3 (⟨rfl, hJ3, hk3⟩ | ⟨rfl, hJx3⟩)
          · have bS3 : Boxed W3 Bs 9 (.string s) := hk3.1.trans bS
            have bC3 : Boxed W3 Bc 3 (.int .i64 kc) := hk3.2.1.trans bC
            have bP3 : Boxed W3 Bp 9 (.string p) := hk3.2.2.trans bP
            clear cS cC cP
            have cS := bS3.cell
            have cC := bC3.cell
            have cP := bP3.cell

            gi_wp2
            refine wpIn_wide.2 ?_
            go_quiet ((go_at_call 164; exact Calls.quiet_of_same (HI.out _)))
            gi_wp2
            refine bodyPost_ret (results_none rfl _ _ _) rfl ?_
            exact ⟨⟨_, rfl⟩, .inl ⟨pre ++ [(k, e)], by rw [HR.out, HX.out], abides_drewN hJ hJ3 _⟩⟩
          · gi_wp2
            refine bodyPost_ret (results_none rfl _ _ _) rfl ?_
            exact ⟨⟨_, rfl⟩, .inr ⟨pre ++ [(k, e)], by rw [HR.out, HX.out]; exact List.prefix_refl _, hJx3⟩⟩

        · rw [hcon] at hin
          have hix : 0 ≤ ix := hin.2 rfl
          have hix' : ¬ ix < 0 := by omega
          have HX := hide (HM.out e rfl hek s[e] (at_some s e hlt) hcon)
          clear hin hcon hix
          obtain ⟨fn, tmps, assign, body, hy, hR⟩ := hY pre (k, e) wr hJs (by rw [HR.out, HX.out]; simp)
          dsimp only at hy
          gi_wp2_with (refine ⟨trivial, ?_⟩; gi_at_call 60; refine (callsIn_wide.2 HC.out).mono ?_; rintro e w' ⟨rfl, hw'⟩; rw [hw']; clear hw' w')
          refine hR.mono ?_
          rintro e' W3 (⟨rfl, hJ3, hk3⟩ | ⟨rfl, hJx3⟩)
          · have bS3 : Boxed W3 Bs 9 (.string s) := hk3.1.trans bS
            have bC3 : Boxed W3 Bc 3 (.int .i64 kc) := hk3.2.1.trans bC
            have bP3 : Boxed W3 Bp 9 (.string p) := hk3.2.2.trans bP
            clear cS cC cP
            have cS := bS3.cell
            have cC := bC3.cell
            have cP := bP3.cell

            gi_wp2
            refine wpIn_wide.2 ?_
            go_quiet ((go_at_call 164; exact Calls.quiet_of_same (HI.out _)))
            gi_wp2
            go_roundw
            case rel => exact ⟨e + 1, pre ++ [(k, e)], by omega, by go_num, abides_drewN hJ hJ3 _, boxed_drewN bS3 _, boxed_drewN bC3 _, boxed_drewN bP3 _, by rw [HR.out, HX.out]; simp [Hid]⟩
            case measure => simp [intOf]; omega
          · gi_wp2
            refine bodyPost_ret (results_none rfl _ _ _) rfl ?_
            exact ⟨⟨_, rfl⟩, .inr ⟨pre ++ [(k, e)], by rw [HR.out, HX.out]; exact ⟨_, by simp; rfl⟩, hJx3⟩⟩

      · have hne : ((e : Int) == (s.size : Int)) = true := by simp; omega
        have HX := hide (HL.out e rfl hek (fun c hc => by rw [at_none s e hlt] at hc; cases hc))
        obtain ⟨fn, tmps, assign, body, hy, hR⟩ := hY pre (k, e) wr hJs (by rw [HR.out, HX.out]; simp)
        dsimp only at hy
        gi_wp2_with (refine ⟨trivial, ?_⟩; gi_at_call 60; refine (callsIn_wide.2 HC.out).mono ?_; rintro e w' ⟨rfl, hw'⟩; rw [hw']; clear hw' w')
        refine hR.mono ?_
        rintro e' W3 (⟨rfl, hJ3, hk3⟩ | ⟨rfl, hJx3⟩)
        · have bS3 : Boxed W3 Bs 9 (.string s) := hk3.1.trans bS
          have bC3 : Boxed W3 Bc 3 (.int .i64 kc) := hk3.2.1.trans bC
          have bP3 : Boxed W3 Bp 9 (.string p) := hk3.2.2.trans bP
          clear cS cC cP
          have cS := bS3.cell
          have cC := bC3.cell
          have cP := bP3.cell

          gi_wp2
          refine wpIn_wide.2 ?_
          go_quiet (fail)
          gi_wp2
          refine bodyPost_ret (results_none rfl _ _ _) rfl ?_
          exact ⟨⟨_, rfl⟩, .inl ⟨pre ++ [(k, e)], by rw [HR.out, HX.out], abides_drewN hJ hJ3 _⟩⟩
        · gi_wp2
          refine bodyPost_ret (results_none rfl _ _ _) rfl ?_
          exact ⟨⟨_, rfl⟩, .inr ⟨pre ++ [(k, e)], by rw [HR.out, HX.out]; exact List.prefix_refl _, hJx3⟩⟩

theorem runs_stops (n : Nat) (hn : 1 ≤ n) (Ba Bs Bc Bp : Nat) (s p : ByteArray) (a : Nat) (kc : Int) (ha : a ≤ s.size) (hs : s.size ≤ 64) (w : World) (hBa : Boxed w Ba 3 (.int .i64 (a : Int))) (hBs : Boxed w Bs 9 (.string s)) (hBc : Boxed w Bc 3 (.int .i64 kc)) (hBp : Boxed w Bp 9 (.string p)) :
    SeqStopsK Fence.wide n Tryz.prog 163 #[.pointer (some ⟨Ba, 0, none⟩), .pointer (some ⟨Bs, 0, none⟩), .pointer (some ⟨Bc, 0, none⟩), .pointer (some ⟨Bp, 0, none⟩)] (fun x : Nat × Nat => #[Value.string (s.extract x.1 x.2), .int .i64 (x.2 : Int)]) (Three Bs Bc Bp) (fun ys => ys = runsL s.data.toList kc p.data.toList a) (fun pre => pre <+: runsL s.data.toList kc p.data.toList a) (runsL s.data.toList kc p.data.toList a).length w := fun l J Jx W hW hJ _ hY h0 =>
  runs1_in n hn l Ba Bs Bc Bp s p a kc ha hs J Jx W.heap.size hJ hY W ((hW.block Ba hBa.lt).trans hBa) ((hW.block Bs hBs.lt).trans hBs) ((hW.block Bc hBc.lt).trans hBc) ((hW.block Bp hBp.lt).trans hBp) h0

theorem runs_any (s p : ByteArray) (a k : Int) (w : World) :
    Calls Tryz.prog 142 #[.string s, .int .i64 a, .int .i64 k, .string p] w fun e w' => e = .returned (.func (.func 163) #[] #[.pointer (some ⟨w.heap.size + 1, 0, none⟩), .pointer (some ⟨w.heap.size, 0, none⟩), .pointer (some ⟨w.heap.size + 1 + 1, 0, none⟩), .pointer (some ⟨w.heap.size + 1 + 1 + 1, 0, none⟩)]) ∧ w' = (((w.alloc (.cells #[.string s] 9)).alloc (.cells #[.int .i64 a] 3)).alloc (.cells #[.int .i64 k] 3)).alloc (.cells #[.string p] 9) := by
  go_enter Tryz.func142, Tryz.ntmps142
  go_wp2
  go_ret
  exact ⟨rfl, rfl⟩

end Go.Proofs.YtabmfdedbpmfmaaGreat
