/-
  Walks: texts read and compared.
-/
import Derived.Test.YthojcidbhojlhaaDh
namespace Go.Proofs.Ythojcidbhojlhaa
open Go.RowKit Go.Shelf
set_option linter.unusedVariables false

theorem parse_errs {l : List UInt8} {x : Int × Nat} (h : parseL l = .error x) : x.1 ≠ 0 := by
  unfold parseL at h
  split at h
  · cases h; simp
  · split at h
    · cases h; simp
    · split at h
      · cases h; simp
      · cases h

/-- A text with what it says. -/
def readV (l : List UInt8) : Value :=
  match parseL l with
  | .error _ => .agg #[.string (ofL l), .string ⟨#[]⟩, .string ⟨#[]⟩, .string ⟨#[]⟩, .bool false]
  | .ok v => .agg #[.string (ofL l), .string (ofL v.ep), .string (ofL v.up), .string (ofL v.rev), .bool true]

theorem fin63 {R : Ending → World → Prop} (tmps : Array Value) (W : World) (B : Nat) (a b c d : ByteArray) (k : Bool)
    (h2 : tmps.getD 4 undef = .pointer (some ⟨B, 0, none⟩)) (e1 : W.heap[B]? = some (.cells #[.string a, .string b, .string c, .string d, .bool k] 72 (0, 0)))
    (hR : R (.returned (.agg #[.string a, .string b, .string c, .string d, .bool k])) W) :
    bodyPost Try.prog Try.f62 R .ret { tmps := tmps, defers := [] } W := by
  have r0 := cell_at 0 e1 rfl
  have r1 := cell_at 1 e1 rfl
  have r2 := cell_at 2 e1 rfl
  have r3 := cell_at 3 e1 rfl
  have r4 := cell_at 4 e1 rfl
  rw [Array.getD_eq_getD_getElem?] at h2
  refine ⟨rfl, _, ?_, hR⟩
  simp [results, Try.results62, go_sem, h2, r0, r1, r2, r3, r4]
  try rfl

theorem five_lies {W : World} {B : Nat} {x0 x1 x2 x3 x4 : Value} (a b c d e : Value) (h : W.heap[B]? = some (.cells #[x0, x1, x2, x3, x4] 72 (0, 0))) :
    (((((W.setCell ⟨B, 0, none⟩ a).setCell ⟨B, 1, none⟩ b).setCell ⟨B, 2, none⟩ c).setCell ⟨B, 3, none⟩ d).setCell ⟨B, 4, none⟩ e).heap[B]? = some (.cells #[a, b, c, d, e] 72 (0, 0)) := by
  have h0 : (W.setCell ⟨B, 0, none⟩ a).heap[B]? = some (.cells #[a, x1, x2, x3, x4] 72 (0, 0)) := set_lies 0 a h
  generalize W.setCell ⟨B, 0, none⟩ a = W0 at *
  have h1 : (W0.setCell ⟨B, 1, none⟩ b).heap[B]? = some (.cells #[a, b, x2, x3, x4] 72 (0, 0)) := set_lies 1 b h0
  generalize W0.setCell ⟨B, 1, none⟩ b = W1 at *
  have h2 : (W1.setCell ⟨B, 2, none⟩ c).heap[B]? = some (.cells #[a, b, c, x3, x4] 72 (0, 0)) := set_lies 2 c h1
  generalize W1.setCell ⟨B, 2, none⟩ c = W2 at *
  have h3 : (W2.setCell ⟨B, 3, none⟩ d).heap[B]? = some (.cells #[a, b, c, d, x4] 72 (0, 0)) := set_lies 3 d h2
  exact set_lies 4 e h3

theorem five_world {W : World} {B : Nat} {x0 x1 x2 x3 x4 : Value} (a b c d e : Value) (o1 o2 : Obj) (h : W.heap[B]? = some (.cells #[x0, x1, x2, x3, x4] 72 (0, 0))) :
    ∃ W', W' = ((((((W.setCell ⟨B, 0, none⟩ a).setCell ⟨B, 1, none⟩ b).setCell ⟨B, 2, none⟩ c).setCell ⟨B, 3, none⟩ d).setCell ⟨B, 4, none⟩ e).alloc o1).alloc o2 ∧ W'.heap[B]? = some (.cells #[a, b, c, d, e] 72 (0, 0)) ∧ Below B W W' := by
  have hl := five_lies a b c d e h
  have hlt := (Array.getElem?_eq_some_iff.1 hl).1
  refine ⟨_, rfl, ?_, ?_⟩
  · rw [Below.heap_alloc _ _ _ (by rw [World.size_alloc]; omega), Below.heap_alloc _ _ _ hlt]
    exact hl
  · refine Below.alloc (Below.alloc ?_ (by omega) _) (by rw [World.size_alloc]; omega) _
    exact (((((Below.refl B W).setCell (p := ⟨B, 0, none⟩) (Nat.le_refl _) a).setCell (p := ⟨B, 1, none⟩) (Nat.le_refl _) b).setCell (p := ⟨B, 2, none⟩) (Nat.le_refl _) c).setCell (p := ⟨B, 3, none⟩) (Nat.le_refl _) d).setCell (p := ⟨B, 4, none⟩) (Nat.le_refl _) e

set_option maxRecDepth 100000 in
set_option maxHeartbeats 1000000 in
theorem read_any (s : ByteArray) (w : World) :
    Calls Try.prog 62 #[.string s, .func (.func 9) #[] #[]] w fun e w' => e = .returned (readV s.data.toList) ∧ Below w.heap.size w w' := by
  obtain ⟨a, b, c, e, p, k, HV, hP, hk⟩ : ∃ a b c e p k, Hid (readV s.data.toList = .agg #[.string s, .string a, .string b, .string c, .bool k]) ∧ PResV s.data.toList = .tuple #[.agg #[.string a, .string b, .string c], .agg #[.int .i64 e, .int .i64 p]] ∧ (e == 0) = k := by
    cases hp : parseL s.data.toList with
    | error x => exact ⟨⟨#[]⟩, ⟨#[]⟩, ⟨#[]⟩, x.1, x.2, false, by show _ = _; unfold readV; rw [hp, ofL_self], by unfold PResV; rw [hp]; rfl, by simpa using parse_errs hp⟩
    | ok v => exact ⟨ofL v.ep, ofL v.up, ofL v.rev, 0, 0, true, by show _ = _; unfold readV; rw [hp, ofL_self], by unfold PResV; rw [hp]; rfl, rfl⟩
  have C := fun w => Parse_any s w
  rw [hP] at C
  have C := hide C
  generalize readV s.data.toList = RV at *
  clear hP
  go_enter Try.func62, Try.ntmps62
  go_wp2_with fail
  refine (C.out _).mono ?_
  rintro e' w1 ⟨rfl, b1⟩
  have eR := (b1.block w.heap.size (by simp)).trans (World.alloc_heap_new w (.cells #[.string ⟨#[]⟩, .string ⟨#[]⟩, .string ⟨#[]⟩, .string ⟨#[]⟩, .bool false] 72))
  have bw := ((Below.refl _ w).alloc (Nat.le_refl _) (.cells #[.string ⟨#[]⟩, .string ⟨#[]⟩, .string ⟨#[]⟩, .string ⟨#[]⟩, .bool false] 72)).trans (b1.mono (by simp))
  have hlt : w.heap.size < w1.heap.size := (Array.getElem?_eq_some_iff.1 eR).1
  have hlt1 : w.heap.size < w1.heap.size + 1 := by omega
  have hlt2 : w.heap.size < w1.heap.size + 1 + 1 := by omega
  have r0 := cell_at 0 eR rfl
  have r1 := cell_at 1 eR rfl
  have r2 := cell_at 2 eR rfl
  have r3 := cell_at 3 eR rfl
  have r4 := cell_at 4 eR rfl
  have z0 := one_free 0 eR
  have z1 := one_free 1 eR
  have z2 := one_free 2 eR
  have z3 := one_free 3 eR
  have z4 := one_free 4 eR
  clear b1
  go_wp2_with fail
  obtain ⟨W9, hW9, g1, b9⟩ := five_world (.string s) (.string a) (.string b) (.string c) (.bool k) (.cells #[.string a, .string b, .string c] 23) (.cells #[.int .i64 e, .int .i64 p] 26) eR
  rw [← hW9]
  exact fin63 _ W9 w.heap.size s a b c k rfl g1 ⟨by rw [HV.out], bw.trans b9⟩

theorem parse_len {l : List UInt8} {v : DebL} (h : parseL l = .ok v) : l.length ≤ 64 := by
  unfold parseL at h
  split at h
  · cases h
  · omega
theorem parse_short {l : List UInt8} {v : DebL} (h : parseL l = .ok v) : v.ep.length ≤ 65 ∧ v.up.length ≤ 64 ∧ v.rev.length ≤ 64 := by
  have hl := parse_len h
  unfold parseL at h
  split at h
  · cases h
  · split at h
    · cases h
    · split at h
      · cases h
      · cases h
        refine ⟨?_, ?_, ?_⟩
        · dsimp only
          unfold epE
          split
          · have h1 := trimL_le (cutC l)
            have h2 : (cutC l).length ≤ l.length := by unfold cutC; exact (List.takeWhile_sublist _).length_le
            omega
          · simp
        · dsimp only
          unfold cutU
          split
          · rw [List.length_drop]; omega
          · rw [List.length_take, List.length_drop]; omega
        · dsimp only
          unfold cutR
          split
          · simp
          · rw [List.length_drop, List.length_drop]; omega
theorem parse_sh {l : List UInt8} {v : DebL} (h : parseL l = .ok v) : ShV v := by
  obtain ⟨h1, h2, h3⟩ := parse_short h
  exact ⟨by omega, by omega, by omega⟩

set_option maxRecDepth 100000 in
set_option maxHeartbeats 1000000 in
theorem compareR_any (s t : List UInt8) (w : World) :
    Calls Try.prog 61 #[readV s, readV t, .func (.func 46) #[] #[], .func (.func 58) #[] #[]] w fun e w' => e = .returned (.int .i64 (cmpT s t)) ∧ Below w.heap.size w w' := by
  have HT : Hid (cmpT s t = match parseL s, parseL t with
    | .ok x, .ok y => ordO x y
    | .ok _, .error _ => 1
    | .error _, .ok _ => -1
    | .error _, .error _ => Lib.compareBytes s t) := rfl
  unfold readV
  generalize cmpT s t = C at *
  cases hs : parseL s with
  | error x =>
    cases ht : parseL t with
    | error y =>
      rw [hs, ht] at HT
      have SC := fun w => StrCompare_any (ofL s) (ofL t) w
      rw [ofL_data, ofL_data] at SC
      have SC := hide SC
      go_enter Try.func61, Try.ntmps61
      go_wp2_with fail
      refine (SC.out _).mono ?_
      rintro e w' ⟨rfl, hw'⟩
      rw [hw']
      go_wp2_with fail
      go_ret
      exact ⟨ret_i HT.out.symm, ((Below.refl _ w).alloc (Nat.le_refl _) _).alloc (by simp) _⟩
    | ok y =>
      rw [hs, ht] at HT
      go_enter Try.func61, Try.ntmps61
      go_wp2_with fail
      go_ret
      exact ⟨ret_i HT.out.symm, ((Below.refl _ w).alloc (Nat.le_refl _) _).alloc (by simp) _⟩
  | ok x =>
    cases ht : parseL t with
    | error y =>
      rw [hs, ht] at HT
      go_enter Try.func61, Try.ntmps61
      go_wp2_with fail
      go_ret
      exact ⟨ret_i HT.out.symm, ((Below.refl _ w).alloc (Nat.le_refl _) _).alloc (by simp) _⟩
    | ok y =>
      rw [hs, ht] at HT
      have OO := fun w => order_any x y w (parse_sh hs) (parse_sh ht)
      unfold verV at OO
      have OO := hide OO
      go_enter Try.func61, Try.ntmps61
      go_wp2_with fail
      refine (OO.out _).mono ?_
      rintro e w' ⟨rfl, b1⟩
      go_wp2_with fail
      go_ret
      have b0 := ((Below.refl _ w).alloc (Nat.le_refl _) (.cells #[.string (ofL s), .string (ofL x.ep), .string (ofL x.up), .string (ofL x.rev), .bool true] 72)).alloc (by simp) (.cells #[.string (ofL t), .string (ofL y.ep), .string (ofL y.up), .string (ofL y.rev), .bool true] 72)
      exact ⟨ret_i HT.out.symm, b0.trans (b1.mono b0.size)⟩

set_option maxHeartbeats 400000 in
theorem TextsCompare_any (s t : ByteArray) (w : World) :
    Calls Try.prog 47 #[.string s, .string t, .func (.func 9) #[] #[], .func (.func 46) #[] #[]] w fun e w' => e = .returned (.int .i64 (cmpT s.data.toList t.data.toList)) ∧ Below w.heap.size w w' := by
  go_enter Try.func47, Try.ntmps47
  go_wp2_with fail
  refine (read_any _ _).mono ?_
  rintro e w1 ⟨rfl, b1⟩
  go_wp2_with fail
  refine (read_any _ _).mono ?_
  rintro e w2 ⟨rfl, b2⟩
  go_wp2_with fail
  refine (compareR_any _ _ _).mono ?_
  rintro e w3 ⟨rfl, b3⟩
  go_wp2_with fail
  go_ret
  have s1 := b1.size
  have s2 := b2.size
  exact ⟨rfl, b1.trans ((b2.mono (by omega)).trans (b3.mono (by omega)))⟩

set_option maxHeartbeats 400000 in
theorem CompareT_any (s t : ByteArray) (w : World) :
    Calls Try.prog 20 #[.string s, .string t] w fun e w' => e = .returned (.int .i64 (cmpT s.data.toList t.data.toList)) ∧ Below w.heap.size w w' := by
  go_enter Try.func20, Try.ntmps20
  go_wp2_with fail
  refine (TextsCompare_any _ _ _).mono ?_
  rintro e w1 ⟨rfl, b1⟩
  go_wp2_with fail
  go_ret
  exact ⟨rfl, b1⟩

end Go.Proofs.Ythojcidbhojlhaa
