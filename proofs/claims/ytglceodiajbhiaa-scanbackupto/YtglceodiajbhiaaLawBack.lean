/-
  Proved: for any text and any byte that hold together at most 1,048,576 values and letters: the program's pieces with their separators between are the text again, each stands where it says, and so do the lines: ScanBack returns true and leaves its arguments as they were. The condition: the bulk of the arguments is at most 1,048,576.
-/
import Derived.Test.YtglceodiajbhiaaLawPieces
import Derived.Test.YtglceodiajbhiaaPlainG
namespace Go.Proofs.Ytglceodiajbhiaa
namespace ScanBackP
open Go.ChangeShapes Go.WideShapes Go.ChangeAt Go.RowKit
open Go.ChangeMaps (open_string shut_string)
set_option linter.unusedVariables false

theorem back_one (u : World) (c : UInt8) : (convert 42 9 (.slice (some ⟨u.heap.size, 0, none⟩) 1 1)).run Try.prog (u.alloc (.cells #[.int .u8 (c.toNat : Int)] 5)) = .ok (.string (ofL [c])) (u.alloc (.cells #[.int .u8 (c.toNat : Int)] 5)) := by
  have h : Bys (u.alloc (.cells #[.int .u8 (c.toNat : Int)] 5)) u.heap.size [c] := by
    refine ⟨fun i hi => ?_, fun i hi => ?_⟩
    · obtain rfl : i = 0 := by simp at hi; exact hi
      rw [World.cell?_alloc_mark]; rfl
    · rw [World.frozen?_alloc_mark]; simp
  exact h.back (P := Try.prog) 42 9 5 1 Try.underlying42 Try.underlying5 Try.underlying9

theorem cat_ofL (a b : List UInt8) : ofL a ++ ofL b = ofL (a ++ b) := by
  apply ba_ext
  rw [ofL_data, ByteArray.data_append]
  simp [ofL]

/-- What holds at the head of a round of the first loop. -/
def Fst (l : List UInt8) (sep : UInt8) (cs : List (Nat × Nat)) (k : Nat) (t : List UInt8) : Prop :=
  ∃ pre rest, cs = pre ++ rest ∧ pre.length = k ∧ ((rest = [] ∧ t = l) ∨ ∃ e, Hang l sep e rest ∧ ((k = 0 ∧ e = 0 ∧ t = []) ∨ (0 < k ∧ 0 < e ∧ e ≤ l.length ∧ l.getD (e - 1) 0 = sep ∧ t = l.take (e - 1))))

theorem fst_parts {l : List UInt8} {sep : UInt8} {cs : List (Nat × Nat)} {k : Nat} {t : List UInt8} (h : Fst l sep cs k t) (hk : k < cs.length) :
    ∃ a b, cs[k]? = some (a, b) ∧ a ≤ b ∧ b ≤ l.length ∧ ((k = 0 ∧ a = 0 ∧ t = []) ∨ (0 < k ∧ 0 < a ∧ l.getD (a - 1) 0 = sep ∧ t = l.take (a - 1))) ∧ Fst l sep cs (k + 1) (l.take b) := by
  obtain ⟨pre, rest, hc, hl, h⟩ := h
  cases rest with
  | nil => rw [hc] at hk; simp at hk; omega
  | cons x r =>
    obtain ⟨a, b⟩ := x
    rcases h with ⟨h, _⟩ | ⟨e, hh, ht⟩
    · cases h
    · obtain ⟨rfl, h1, h2, h3, h4⟩ := hh
      refine ⟨a, b, by rw [hc, List.getElem?_append_right (by omega), hl, Nat.sub_self]; rfl, h1, h2, ?_, pre ++ [(a, b)], r, by rw [hc, List.append_assoc]; rfl, by simp; omega, ?_⟩
      · rcases ht with ⟨q1, q2, q3⟩ | ⟨q1, q2, q3, q4, q5⟩
        · exact .inl ⟨q1, q2, q3⟩
        · exact .inr ⟨q1, q2, q4, q5⟩
      · rcases h4 with ⟨q1, q2⟩ | ⟨q1, q2, q3⟩
        · exact .inl ⟨q1, by rw [q2, List.take_length]⟩
        · exact .inr ⟨b + 1, q3, .inr ⟨by omega, by omega, by omega, by simpa using q2, by simp⟩⟩

theorem fst_end {l : List UInt8} {sep : UInt8} {cs : List (Nat × Nat)} {t : List UInt8} (h : Fst l sep cs cs.length t) : t = l := by
  obtain ⟨pre, rest, hc, hl, h⟩ := h
  have hr : rest = [] := by
    have := congrArg List.length hc
    simp at this
    exact List.eq_nil_of_length_eq_zero (by omega)
  subst hr
  rcases h with ⟨_, h⟩ | ⟨e, hh, _⟩
  · exact h
  · exact hh.elim

/-- What holds at the head of a round of the second loop. -/
def Snd (l : List UInt8) (ls : List (Nat × Nat × Nat)) (k e : Nat) : Prop :=
  ∃ pre rest, ls = pre ++ lns l l.length rest (k + 1) ∧ pre.length = k ∧ ((rest = [] ∧ e = l.length + 1) ∨ Hang l 10 e rest)

theorem snd_start (l : List UInt8) : Snd l (linesL l) 0 0 := ⟨[], cuts 10 l, rfl, rfl, .inr (hang_all l 10)⟩

theorem snd_parts {l : List UInt8} {ls : List (Nat × Nat × Nat)} {k e : Nat} (h : Snd l ls k e) (hk : k < ls.length) :
    ∃ b z, ls[k]? = some (e, z, k + 1) ∧ e ≤ z ∧ z ≤ b ∧ e ≤ b ∧ b ≤ l.length ∧ (∀ i, e ≤ i → i < b → l.getD i 0 ≠ 10) ∧ (b = l.length ∨ (b < l.length ∧ l.getD b 0 = 10)) ∧ Snd l ls (k + 1) (b + 1) := by
  obtain ⟨pre, rest, hc, hl, h⟩ := h
  cases rest with
  | nil => rw [hc, lns] at hk; simp at hk; omega
  | cons x r =>
    obtain ⟨a, b⟩ := x
    rcases h with ⟨h, _⟩ | hh
    · cases h
    · obtain ⟨rfl, h1, h2, h3, h4⟩ := hh
      have hne : a ≠ l.length := fun e => by
        subst e
        rw [hc, lns_stop, List.append_nil] at hk
        omega
      rw [lns_mid _ _ _ _ _ _ hne] at hc
      have hz := crEnd_in l a b h1
      refine ⟨b, crEnd l a b, by rw [hc, List.getElem?_append_right (by omega), hl, Nat.sub_self]; rfl, hz.1, hz.2, h1, h2, h3, ?_, pre ++ [(a, crEnd l a b, k + 1)], r, by rw [hc, List.append_assoc]; rfl, by simp; omega, ?_⟩
      · rcases h4 with ⟨_, q2⟩ | ⟨q1, q2, _⟩
        · exact .inl q2
        · exact .inr ⟨q1, q2⟩
      · rcases h4 with ⟨q1, q2⟩ | ⟨_, _, q3⟩
        · exact .inl ⟨q1, by omega⟩
        · exact .inr q3

theorem snd_end {l : List UInt8} {ls : List (Nat × Nat × Nat)} {e : Nat} (h : Snd l ls ls.length e) : l.length ≤ e := by
  obtain ⟨pre, rest, hc, hl, h⟩ := h
  have hr : lns l l.length rest (ls.length + 1) = [] := by
    have := congrArg List.length hc
    simp at this
    exact List.eq_nil_of_length_eq_zero (by omega)
  rcases h with ⟨_, h⟩ | hh
  · omega
  · cases rest with
    | nil => exact hh.elim
    | cons x r =>
      obtain ⟨a, b⟩ := x
      obtain ⟨rfl, _⟩ := hh
      by_cases hne : a = l.length
      · omega
      · rw [lns_mid _ _ _ _ _ _ hne] at hr
        cases hr

set_option maxHeartbeats 2000000 in
theorem walk1 (s : ByteArray) (sep : UInt8) (w : World) (hs : s.size ≤ 1048576) :
    Calls Try.prog 7 #[.string s, .int .u8 (sep.toNat : Int)] w fun e w' => e = .returned (.bool true) ∧ Below w.heap.size w w' := by
  have S1 := hide (fun w => ScanPiecesP.split_at s sep w hs)
  have L1 := hide (fun w => ScanPiecesP.lines_at s w hs)
  have HS0 := hide (snd_start s.data.toList)
  have hll := ScanPiecesP.lns_len s.data.toList s.data.toList.length (cuts 10 s.data.toList) 1
  have hcl0 := cutsA_len 10 s.data.toList 0 0
  rw [len_data] at hcl0
  have hls : (linesL s.data.toList).length ≤ s.size + 1 := Nat.le_trans (by unfold linesL; exact hll) hcl0
  clear hll hcl0
  generalize linesL s.data.toList = ls at *
  have HH := hide (hang_all s.data.toList sep)
  have hcl := cutsA_len sep s.data.toList 0 0
  rw [len_data] at hcl
  have hcl' : (cuts sep s.data.toList).length ≤ s.size + 1 := hcl
  clear hcl
  generalize cuts sep s.data.toList = cs at *
  have hcp : 0 < cs.length := by
    cases cs with
    | nil => exact HH.out.elim
    | cons x y => simp
  have c41 := Try.cells41
  go_enter Try.func7, Try.ntmps7
  go_wp2_with fail
  refine (S1.out _).mono ?_
  rintro e w1 ⟨v1, rfl, p1, b1⟩
  have hlen : (cs.map fun p => (s.extract p.1 p.2, (p.1 : Int), (0 : Int))).length = cs.length := List.length_map _
  obtain ⟨g1, cp1, rfl, hg1⟩ := p1.some (by rw [hlen]; exact hcp)
  rw [hlen]
  have P1 := hide p1
  clear p1 hlen S1
  go_wp2_with fail
  go_loopw [5, 15] (fun x i wr => ∃ (k : Nat) (t : List UInt8), k ≤ cs.length ∧ i = .int .i64 k ∧ x = .string (ofL t) ∧ Hid (Fst s.data.toList sep cs k t) ∧ Below w1.heap.size w1 wr) (fun _ i _ => cs.length - (intOf i).toNat)
  case atStart => exact ⟨0, [], by omega, rfl, rfl, ⟨[], cs, rfl, rfl, .inr ⟨0, HH.out, .inl ⟨rfl, rfl, rfl⟩⟩⟩, Below.refl _ _⟩
  case round =>
    obtain ⟨k, t, hk, rfl, rfl, HF, hbel⟩ := hrel
    by_cases hlt : k < cs.length
    · obtain ⟨a, b, hab, h1, h2, ht, HF'⟩ := fst_parts HF.out hlt
      have hF' := hide HF'
      clear HF'
      obtain ⟨q1, q2, q3⟩ := (P1.out.below hbel).cells k (by rw [List.length_map]; exact hlt)
      have hx : cs[k] = (a, b) := by rw [List.getElem?_eq_getElem hlt] at hab; exact Option.some.inj hab
      simp only [List.getElem_map, hx] at q1 q2 q3
      clear hab hx
      have hlt' : (k : Int) < (cs.length : Int) := by omega
      have hk0 : (0 : Int) ≤ (k : Int) := by omega
      rcases ht with ⟨rfl, rfl, rfl⟩ | ⟨hk1, ha1, hsep, rfl⟩
      · have sz0 : (ofL []).size = 0 := rfl
        have szb : (s.extract 0 b).size = b := by rw [extract_ofL, ofL_size]; rw [len_data] at h2; simp; omega
        have HC : Hid (ofL [] ++ s.extract 0 b = ofL (s.data.toList.take b)) := by
          show _ = _
          rw [extract_ofL, cat_ofL]; simp
        rw [len_data] at h2
        go_wp2_with fail
        go_roundw
        case rel => exact ⟨1, s.data.toList.take b, by omega, rfl, by rw [HC.out], hF', hbel.alloc hbel.size _⟩
        case measure => simp [intOf]; omega
      · obtain ⟨m, rfl⟩ : ∃ m, a = m + 1 := ⟨a - 1, by omega⟩
        simp only [Nat.add_sub_cancel] at hsep ⊢
        rw [len_data] at h2
        have hback := back_one (wr.alloc (.cells #[.string (s.extract (m + 1) b), .int .i64 ((m : Int) + 1), .int .i64 0] 41)) sep
        simp only [World.size_alloc] at hback
        have hcat : ofL (s.data.toList.take m) ++ ofL [sep] = ofL (s.data.toList.take (m + 1)) := by
          rw [cat_ofL, take_one _ m sep (by rw [len_data]; omega) hsep]
        have szm : (ofL (s.data.toList.take m)).size = m := by rw [ofL_size, List.length_take, len_data]; omega
        have szn : (ofL (s.data.toList.take (m + 1))).size = m + 1 := by rw [ofL_size, List.length_take, len_data]; omega
        have sz1 : (ofL [sep]).size = 1 := rfl
        have szb : (s.extract (m + 1) b).size = b - (m + 1) := by rw [extract_ofL, ofL_size, List.length_drop, List.length_take, len_data]; omega
        have HC : Hid (ofL (s.data.toList.take (m + 1)) ++ s.extract (m + 1) b = ofL (s.data.toList.take b)) := by
          show _ = _
          rw [extract_ofL, cat_ofL, take_more _ _ _ h1]
        clear hsep
        go_wp2_with fail
        go_roundw
        case rel => exact ⟨k + 1, s.data.toList.take b, by omega, by go_num, by rw [HC.out], hF', (hbel.alloc hbel.size _).alloc (by have := hbel.size; simp; omega) _⟩
        case measure => simp [intOf]; omega
    · obtain rfl : k = cs.length := by omega
      have ht := fst_end HF.out
      subst ht
      clear HF
      rw [ofL_self]
      go_wp2_with fail
      refine (L1.out _).mono ?_
      rintro e w2 ⟨v2, rfl, p2, b2⟩
      have hbw2 : Below w.heap.size w w2 := b1.trans ((hbel.mono b1.size).trans (b2.mono (Nat.le_trans b1.size hbel.size)))
      have hlen2 : (ls.map fun p => (s.extract p.1 p.2.1, (p.1 : Int), (p.2.2 : Int))).length = ls.length := List.length_map _
      clear b1 hbel b2 P1 HH hcl' hcp hg1
      rcases Nat.eq_zero_or_pos ls.length with hz | hp
      · obtain ⟨ao, cp2, rfl⟩ := p2.slice
        rw [hlen2, hz]
        have he : Snd s.data.toList ls ls.length 0 := by rw [hz]; exact HS0.out
        have hsz : s.size ≤ 0 := by have := snd_end he; rw [len_data] at this; exact this
        have hge : decide ((s.size : Int) ≤ 0) = true := decide_eq_true (by omega)
        have hs0 : s.size = 0 := by omega
        clear p2 hlen2 he hsz
        go_wp2_with fail
        refine wp_loop_rounds 1 ?_
        rw [rounds_succ]
        go_wp2_with fail
        refine (awake_any _).mono ?_
        rintro e w3 ⟨rfl, b3⟩
        go_wp2_with fail
        go_ret
        exact ⟨rfl, hbw2.trans (b3.mono hbw2.size)⟩
      · obtain ⟨g2, cp2, rfl, hg2⟩ := p2.some (by rw [hlen2]; exact hp)
        rw [hlen2]
        have P2 := hide p2
        clear p2 hlen2
        go_wp2_with fail
        go_loopw [8, 43] (fun x i wr => ∃ (k e : Nat), k ≤ ls.length ∧ i = .int .i64 k ∧ x = .int .i64 (e : Int) ∧ e ≤ s.size + 1 ∧ Hid (Snd s.data.toList ls k e) ∧ Below w2.heap.size w2 wr) (fun _ i _ => ls.length - (intOf i).toNat)
        case atStart => exact ⟨0, 0, by omega, rfl, rfl, by omega, HS0, Below.refl _ _⟩
        case round =>
          obtain ⟨k, e, hk, rfl, rfl, he1, HF, hbel⟩ := hrel
          by_cases hlt : k < ls.length
          · obtain ⟨b, z, hab, h1, h2, h3, h4, h5, h6, HF'⟩ := snd_parts HF.out hlt
            have hF' := hide HF'
            clear HF'
            obtain ⟨q1, q2, q3⟩ := (P2.out.below hbel).cells k (by rw [List.length_map]; exact hlt)
            have hx : ls[k] = (e, z, k + 1) := by rw [List.getElem?_eq_getElem hlt] at hab; exact Option.some.inj hab
            simp only [List.getElem_map, hx] at q1 q2 q3
            clear hab hx
            rw [len_data] at h4
            have q3' : wr.cell? ⟨g2, k * 3 + 2, none⟩ = some (.int .i64 ((k : Int) + 1)) := by rw [q3]; congr 2
            clear q3
            have HS : Hid (∀ w, Calls Try.prog 31 #[.string s, .int .i64 (e : Int), .string (s.extract e z)] w fun e w' => e = .returned (.bool true) ∧ w' = w) := fun w => by
              have h := Starts_any s e (s.extract e z) w (by unfold maxLen; omega)
              rw [starts_cut s e z h1 (by omega)] at h
              exact h
            have H5 := hide h5
            have H6 := hide h6
            clear h5 h6
            have hlt' : (k : Int) < (ls.length : Int) := by omega
            have hk0 : (0 : Int) ≤ (k : Int) := by omega
            have n1 : (((k : Int) + 1) != ((k : Int) + 1)) = false := by simp
            have n2 : ((e : Int) != (e : Int)) = false := by simp
            go_wp2_with fail
            refine (HS.out _).mono ?_
            rintro e' w3 ⟨rfl, hw3⟩
            rw [hw3]
            clear hw3 w3
            go_wp2_with fail
            go_loop [8] (fun x => ∃ j : Nat, e ≤ j ∧ j ≤ b ∧ x = .int .i64 (j : Int)) (fun x => s.size - (intOf x).toNat)
            case atStart => exact ⟨e, Nat.le_refl _, h3, rfl⟩
            case round =>
              obtain ⟨j, hj1, hj2, rfl⟩ := hrel
              by_cases hjb : j < b
              · have hjs : j < s.size := by omega
                have hn10 : ((s[j].toNat : Int) != 10) = true := by
                  have h := H5.out j hj1 hjb
                  rw [getD_at s j hjs] at h
                  have : s[j].toNat ≠ 10 := fun e => h (UInt8.toNat_inj.1 e)
                  simp; omega
                go_wp2_with fail
                go_round
                case rel => exact ⟨j + 1, by omega, by omega, by go_num⟩
                case measure => simp [intOf]; omega
              · obtain rfl : j = b := by omega
                rcases H6.out with hb | ⟨hb, hb10⟩
                · rw [len_data] at hb
                  have hbl : s.size ≤ j := by omega
                  clear hb
                  go_wp2_with fail
                  go_roundw
                  case rel => exact ⟨k + 1, j + 1, by omega, by go_num, by go_num, by omega, hF', hbel.alloc hbel.size _⟩
                  case measure => simp [intOf]; omega
                · rw [len_data] at hb
                  have hn10 : ((s[j].toNat : Int) != 10) = false := by
                    rw [getD_at s j hb] at hb10
                    rw [hb10]; decide
                  go_wp2_with fail
                  go_roundw
                  case rel => exact ⟨k + 1, j + 1, by omega, by go_num, by go_num, by omega, hF', hbel.alloc hbel.size _⟩
                  case measure => simp [intOf]; omega
          · obtain rfl : k = ls.length := by omega
            have hse : s.size ≤ e := by have := snd_end HF.out; rw [len_data] at this; exact this
            go_wp2_with fail
            refine (awake_any _).mono ?_
            rintro e' w4 ⟨rfl, b4⟩
            go_wp2_with fail
            go_ret
            exact ⟨rfl, hbw2.trans ((hbel.mono hbw2.size).trans (b4.mono (Nat.le_trans hbw2.size hbel.size)))⟩

theorem contract (H : Type) (enc : TypeId × Value → H) (W : World) (base : Nat) (args : Array Value) (ds gs : List (DataW H)) (before : List MemPlace)
    (hval : ∀ (j : Nat) t v, Try.f7.params[j]? = some t → args[j]? = some v → Value.okWide Try.prog W .any base t v)
    (hW : DataW.Whole enc Try.prog Try.f7.params.toList Rows.scanBackSpec.vars false W args.toList ds gs before) (hk : Rows.uptoSmall H (ds ++ gs) = true) :
    Calls Try.prog 7 args W fun e W' => ∃ v, e = .returned v ∧ Rows.scanBackSpec.post enc Try.prog Try.f7 false true false false W args v W' := by
  have hW' := hW
  obtain ⟨p, q, hA0, hV, rfl, hfz, hnd⟩ := hW
  have hA : DataW.TrodAll enc Try.prog W 0 (fun _ => true) true Try.f7.params.toList args.toList ds p := hA0
  rw [Try.params7] at hA hval
  obtain ⟨v0, vs0, d0, ds0, p0, q0, hargs, rfl, rfl, h0, r0⟩ := trodAll_cons hA
  obtain ⟨v1, vs1, d1, ds1, p1, q1, rfl, rfl, rfl, h1, r1⟩ := trodAll_cons r0
  obtain ⟨rfl, rfl, rfl⟩ := trodAll_nil r1
  obtain rfl : args = #[v0, v1] := by cases args; simp_all
  obtain ⟨rfl, rfl⟩ := trodVars_none hV
  obtain ⟨s, rfl, rfl, rfl, w0⟩ := open_string Try.underlying9 (hval 0 9 v0 rfl rfl) h0
  obtain ⟨a1, rfl, rfl, rfl, w1⟩ := open_int Try.underlying5 (hval 1 5 v1 rfl rfl) h1
  clear hA0
  obtain ⟨c, rfl⟩ := ScanPiecesP.byte_of a1 w1
  refine (walk1 s c W (ScanPiecesP.short hk)).mono fun e W' ⟨he, bel⟩ => ?_
  subst he
  exact ⟨_, rfl, _, _, _, [], _, [], hW', trodAll_mk1 (shut_bool Try.underlying4 _), (trodAll_cons_mk (shut_string Try.underlying9 w0) (trodAll_cons_mk (shut_int Try.underlying5 w1) trodAll_mk0)), rfl, bel.frame _, fun h => by cases h⟩

set_option maxRecDepth 100000 in
theorem lifted (os : Os) (started : os.Started) (H : Type) (enc : TypeId × Value → H) (F : Stop.Interp) :
    ReturnsInHanded {} Try.checked os 7 .any ((Rows.OpenSpec.upto Rows.scanBackSpec).pre6 enc Try.prog Try.f7 Rows.scanBackUptoRow.domain false) (((Rows.OpenSpec.upto Rows.scanBackSpec).at F).post enc Try.prog Try.f7 false true false false) := by
  refine returnsInHanded_of_cond (C := Try.checked) (s := Rows.OpenSpec.upto Rows.scanBackSpec) (k := Rows.uptoSmall) rfl ScanPiecesP.own started (by kernel_rfl) Try.func7
    (OpenSpec.witness (enc := enc) (C := Try.checked) (s := Rows.OpenSpec.upto Rows.scanBackSpec) (k := Rows.uptoSmall) rfl false ⟨#[], #[.string .empty, .int .u8 0], []⟩ 8 (by kernel_rfl) (by kernel_rfl) (by kernel_rfl)
      (x := ([.lit (.string []), .lit (.int .u8 0)], [], [])) (by kernel_rfl) rfl (by kernel_rfl)) ?_
  intro W base args ds gs before hval hW _ hk _
  exact contract H enc W base args ds gs before hval hW hk

theorem over : Rows.scanBackUptoRow.holds Try.pinned (Rows.OpenSpec.upto Rows.scanBackSpec) :=
  OpenClaim.holds_of_cond 7 Try.f7 rfl rfl rfl rfl rfl rfl rfl ⟨rfl, rfl, rfl, rfl, rfl⟩ rfl rfl rfl rfl rfl (by kernel_rfl) Try.func7 (by kernel_rfl)
    (of_decide_eq_true (by kernel_rfl)) (by unfold Func.isWrapper; first | (rw [if_pos (by decide +kernel)]; kernel_rfl) | (rw [if_neg (by decide +kernel)]; exact ⟨rfl, rfl⟩))
    (fun os started H enc _ F => lifted os started H enc F)
end ScanBackP

theorem scanBack_holds : Rows.ScanBackUptoSaid := ScanBackP.over
#print axioms scanBack_holds
end Go.Proofs.Ytglceodiajbhiaa
