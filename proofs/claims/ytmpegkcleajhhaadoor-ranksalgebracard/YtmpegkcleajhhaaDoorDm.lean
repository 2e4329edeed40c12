/-
  Walks: what is in either, in both, in the first alone, in none.
-/
import Derived.Test.YtmpegkcleajhhaaDoorDk
import Derived.Test.YtmpegkcleajhhaaDoorDl
namespace Go.Proofs.YtmpegkcleajhhaaDoor
open Go.RowKit Go.Shelf
set_option linter.unusedVariables false

theorem fit_len {n : Int} {s : List Sp} (h : fitL n s = true) : s.length ≤ 32768 := by
  have key : ∀ {s : List Sp} {last : Int}, fitF n last s = true → last ≤ n → 2 * (s.length : Int) ≤ n - last := by
    intro s
    induction s with
    | nil => intro last _ h; simp; omega
    | cons p s ih =>
      intro last h hn
      rw [fitF_cons] at h
      have := ih h.2.2.2 h.2.2.1
      simp only [List.length_cons]
      omega
  have h' := fitL_iff.1 h
  have := key h'.2.2 (by omega)
  omega
theorem fit_small {n : Int} {s : List Sp} (h : fitL n s = true) : ∀ x ∈ flatE s, x < 9223372036854775807 := by
  have h' := fitL_iff.1 h
  intro x hx
  have := (flat_rising h'.2.2).2 x hx
  omega
/-- What a set that was made of sets leaves. -/
def MadePost (n : Int) (f : Int → Bool) (w : World) (r : Ending) (w' : World) : Prop := ∃ v s, r = .returned v ∧ Spans w' v s ∧ IsSet n f s ∧ Below w.heap.size w w'

set_option maxRecDepth 100000 in
theorem Union_any (n : Int) (va vb : Value) (a b : List Sp) (w : World) (hA : Spans w va a) (hB : Spans w vb b) (fa : fitL n a = true) (fb : fitL n b = true) :
    Calls Tryd.prog 19 #[va, vb] w (MadePost n (fun r => hasL a r || hasL b r) w) := by
  have la := fit_len fa
  have lb := fit_len fb
  obtain ⟨aa, ca, rfl, hra⟩ := hA
  obtain ⟨ab, cb, rfl, hrb⟩ := hB
  have hA : Spans w (.slice aa a.length ca) a := ⟨aa, ca, rfl, hra⟩
  have hB : Spans w (.slice ab b.length cb) b := ⟨ab, cb, rfl, hrb⟩
  clear hra hrb
  have b1 : Below w.heap.size w (w.alloc (.cells #[.slice aa a.length ca] 22)) := (Below.refl _ w).alloc (Nat.le_refl _) _
  have b2 : Below w.heap.size w ((w.alloc (.cells #[.slice aa a.length ca] 22)).alloc (.cells #[.slice ab b.length cb] 22)) := b1.alloc (by simp) _
  have xA : Boxed ((w.alloc (.cells #[.slice aa a.length ca] 22)).alloc (.cells #[.slice ab b.length cb] 22)) w.heap.size 22 (.slice aa a.length ca) := (Below.heap_alloc _ _ _ (by simp)).trans (World.alloc_heap_new w _)
  have xB : Boxed ((w.alloc (.cells #[.slice aa a.length ca] 22)).alloc (.cells #[.slice ab b.length cb] 22)) (w.heap.size + 1) 22 (.slice ab b.length cb) := by
    have k := World.alloc_heap_new (w.alloc (.cells #[.slice aa a.length ca] 22)) (.cells #[.slice ab b.length cb] 22)
    rw [World.size_alloc] at k
    exact k
  have hA2 := hA.below b2
  have hB2 := hB.below b2
  have MM := hide ((callsIn_wide (n := 5)).1 (merged_in 44 (enters_of Tryd.func44 (by kernel_rfl) rfl) aa ab ca cb a b _ hA2 hB2 (fit_small fa) (fit_small fb) (by omega) (by omega) w.heap.size (w.heap.size + 1) (fun r => hasL a r || hasL b r)
    (fun r W hL => UnionK_any n aa ab _ _ ca cb a b _ hA2 hB2 fa fb (by omega) (by omega) w.heap.size (w.heap.size + 1) r W hL ((hL _ xA.lt).trans xA) ((hL _ xB.lt).trans xB))))
  have HS := hide (merged_set fa fb (fun x y => x || y) rfl)
  clear hA hB fa fb b1 xA xB hA2 hB2
  go_enter Tryd.func19, Tryd.ntmps19
  go_wp2_with fail
  refine MM.out.mono ?_
  rintro e w3 ⟨v, rfl, s3, b3⟩
  go_wp2_with fail
  go_ret
  exact ⟨v, _, rfl, s3, HS.out, b2.trans (b3.mono b2.size)⟩

set_option maxRecDepth 100000 in
theorem Meet_any (n : Int) (va vb : Value) (a b : List Sp) (w : World) (hA : Spans w va a) (hB : Spans w vb b) (fa : fitL n a = true) (fb : fitL n b = true) :
    Calls Tryd.prog 21 #[va, vb] w (MadePost n (fun r => hasL a r && hasL b r) w) := by
  have la := fit_len fa
  have lb := fit_len fb
  obtain ⟨aa, ca, rfl, hra⟩ := hA
  obtain ⟨ab, cb, rfl, hrb⟩ := hB
  have hA : Spans w (.slice aa a.length ca) a := ⟨aa, ca, rfl, hra⟩
  have hB : Spans w (.slice ab b.length cb) b := ⟨ab, cb, rfl, hrb⟩
  clear hra hrb
  have b1 : Below w.heap.size w (w.alloc (.cells #[.slice aa a.length ca] 22)) := (Below.refl _ w).alloc (Nat.le_refl _) _
  have b2 : Below w.heap.size w ((w.alloc (.cells #[.slice aa a.length ca] 22)).alloc (.cells #[.slice ab b.length cb] 22)) := b1.alloc (by simp) _
  have xA : Boxed ((w.alloc (.cells #[.slice aa a.length ca] 22)).alloc (.cells #[.slice ab b.length cb] 22)) w.heap.size 22 (.slice aa a.length ca) := (Below.heap_alloc _ _ _ (by simp)).trans (World.alloc_heap_new w _)
  have xB : Boxed ((w.alloc (.cells #[.slice aa a.length ca] 22)).alloc (.cells #[.slice ab b.length cb] 22)) (w.heap.size + 1) 22 (.slice ab b.length cb) := by
    have k := World.alloc_heap_new (w.alloc (.cells #[.slice aa a.length ca] 22)) (.cells #[.slice ab b.length cb] 22)
    rw [World.size_alloc] at k
    exact k
  have hA2 := hA.below b2
  have hB2 := hB.below b2
  have MM := hide ((callsIn_wide (n := 5)).1 (merged_in 46 (enters_of Tryd.func46 (by kernel_rfl) rfl) aa ab ca cb a b _ hA2 hB2 (fit_small fa) (fit_small fb) (by omega) (by omega) w.heap.size (w.heap.size + 1) (fun r => hasL a r && hasL b r)
    (fun r W hL => MeetK_any n aa ab _ _ ca cb a b _ hA2 hB2 fa fb (by omega) (by omega) w.heap.size (w.heap.size + 1) r W hL ((hL _ xA.lt).trans xA) ((hL _ xB.lt).trans xB))))
  have HS := hide (merged_set fa fb (fun x y => x && y) rfl)
  clear hA hB fa fb b1 xA xB hA2 hB2
  go_enter Tryd.func21, Tryd.ntmps21
  go_wp2_with fail
  refine MM.out.mono ?_
  rintro e w3 ⟨v, rfl, s3, b3⟩
  go_wp2_with fail
  go_ret
  exact ⟨v, _, rfl, s3, HS.out, b2.trans (b3.mono b2.size)⟩

set_option maxRecDepth 100000 in
theorem Minus_any (n : Int) (va vb : Value) (a b : List Sp) (w : World) (hA : Spans w va a) (hB : Spans w vb b) (fa : fitL n a = true) (fb : fitL n b = true) :
    Calls Tryd.prog 23 #[va, vb] w (MadePost n (fun r => hasL a r && !hasL b r) w) := by
  have la := fit_len fa
  have lb := fit_len fb
  obtain ⟨aa, ca, rfl, hra⟩ := hA
  obtain ⟨ab, cb, rfl, hrb⟩ := hB
  have hA : Spans w (.slice aa a.length ca) a := ⟨aa, ca, rfl, hra⟩
  have hB : Spans w (.slice ab b.length cb) b := ⟨ab, cb, rfl, hrb⟩
  clear hra hrb
  have b1 : Below w.heap.size w (w.alloc (.cells #[.slice aa a.length ca] 22)) := (Below.refl _ w).alloc (Nat.le_refl _) _
  have b2 : Below w.heap.size w ((w.alloc (.cells #[.slice aa a.length ca] 22)).alloc (.cells #[.slice ab b.length cb] 22)) := b1.alloc (by simp) _
  have xA : Boxed ((w.alloc (.cells #[.slice aa a.length ca] 22)).alloc (.cells #[.slice ab b.length cb] 22)) w.heap.size 22 (.slice aa a.length ca) := (Below.heap_alloc _ _ _ (by simp)).trans (World.alloc_heap_new w _)
  have xB : Boxed ((w.alloc (.cells #[.slice aa a.length ca] 22)).alloc (.cells #[.slice ab b.length cb] 22)) (w.heap.size + 1) 22 (.slice ab b.length cb) := by
    have k := World.alloc_heap_new (w.alloc (.cells #[.slice aa a.length ca] 22)) (.cells #[.slice ab b.length cb] 22)
    rw [World.size_alloc] at k
    exact k
  have hA2 := hA.below b2
  have hB2 := hB.below b2
  have MM := hide ((callsIn_wide (n := 5)).1 (merged_in 47 (enters_of Tryd.func47 (by kernel_rfl) rfl) aa ab ca cb a b _ hA2 hB2 (fit_small fa) (fit_small fb) (by omega) (by omega) w.heap.size (w.heap.size + 1) (fun r => hasL a r && !hasL b r)
    (fun r W hL => MinusK_any n aa ab _ _ ca cb a b _ hA2 hB2 fa fb (by omega) (by omega) w.heap.size (w.heap.size + 1) r W hL ((hL _ xA.lt).trans xA) ((hL _ xB.lt).trans xB))))
  have HS := hide (merged_set fa fb (fun x y => x && !y) rfl)
  clear hA hB fa fb b1 xA xB hA2 hB2
  go_enter Tryd.func23, Tryd.ntmps23
  go_wp2_with fail
  refine MM.out.mono ?_
  rintro e w3 ⟨v, rfl, s3, b3⟩
  go_wp2_with fail
  go_ret
  exact ⟨v, _, rfl, s3, HS.out, b2.trans (b3.mono b2.size)⟩

theorem Not_any (n : Int) (va : Value) (a : List Sp) (w : World) (hA : Spans w va a) (fa : fitL n a = true) :
    Calls Tryd.prog 25 #[.int .i64 n, va] w (MadePost n (fun r => (decide (0 ≤ r) && decide (r < n)) && !hasL a r) w) := by
  have f' := fitL_iff.1 fa
  have HS := all_set f'.1 f'.2.1
  have C := hide (fun w => All_any n w)
  have CM := hide (fun W v (h1 : Spans W v (allL n)) (h2 : Spans W va a) => Minus_any n v va (allL n) a W h1 h2 HS.fit fa)
  have HA := hide hA
  have HH : Hid (∀ r, hasL (allL n) r = (decide (0 ≤ r) && decide (r < n))) := HS.has
  clear hA HS f'
  go_enter Tryd.func25, Tryd.ntmps25
  go_wp2_with fail
  refine (C.out _).mono ?_
  rintro e w1 ⟨v1, rfl, s1, b1⟩
  go_wp2_with fail
  refine (CM.out _ _ s1 (HA.out.below b1)).mono ?_
  rintro e w2 ⟨v2, s, rfl, s2, i2, b2⟩
  go_wp2_with fail
  go_ret
  refine ⟨v2, s, rfl, s2, ⟨i2.fit, fun r => ?_⟩, b1.trans (b2.mono b1.size)⟩
  rw [i2.has, HH.out]
theorem Within_any (n : Int) (va vb : Value) (a b : List Sp) (w : World) (hA : Spans w va a) (hB : Spans w vb b) (fa : fitL n a = true) (fb : fitL n b = true) :
    Calls Tryd.prog 34 #[va, vb] w fun e w' => (∃ s, IsSet n (fun r => hasL a r && !hasL b r) s ∧ e = .returned (.bool (decide (s = [])))) ∧ Below w.heap.size w w' := by
  have C := hide (Minus_any n va vb a b w hA hB fa fb)
  clear hA hB fa fb
  go_enter Tryd.func34, Tryd.ntmps34
  go_wp2_with fail
  refine C.out.mono ?_
  rintro e w2 ⟨v2, s, rfl, s2, i2, b2⟩
  obtain ⟨a2, c2, rfl, _⟩ := s2
  by_cases h : s.length = 0
  · have hs : s = [] := List.length_eq_zero_iff.1 h
    have hq : ((s.length : Int) == 0) = true := int_eq0 h
    have HI := hide i2
    clear i2
    go_wp2_with fail
    go_ret
    exact ⟨⟨s, HI.out, ret_b (by rw [decide_eq_true hs])⟩, b2⟩
  · have hs : ¬ s = [] := fun e => h (by rw [e]; rfl)
    have hq : ((s.length : Int) == 0) = false := int_ne0 h
    have HI := hide i2
    clear i2
    go_wp2_with fail
    go_ret
    exact ⟨⟨s, HI.out, ret_b (by rw [decide_eq_false hs])⟩, b2⟩

end Go.Proofs.YtmpegkcleajhhaaDoor
