/-
  Sets as values; what the calls make of them.
-/
import Derived.Test.YtmpegkcleajhhaaDoorCa
namespace Go.Proofs.YtmpegkcleajhhaaDoor
open Go.RowKit Go.Shelf
set_option linter.unusedVariables false

/-- A value that is the fit set of these ranks. -/
def SetV (n : Int) (W : World) (v : Value) (f : Int → Bool) : Prop := ∃ s, Spans W v s ∧ IsSet n f s
theorem SetV.below {n : Int} {W W' : World} {v : Value} {f : Int → Bool} (h : SetV n W v f) (hb : Below W.heap.size W W') : SetV n W' v f := by
  obtain ⟨s, h1, h2⟩ := h
  exact ⟨s, h1.below hb, h2⟩
/-- What a call that makes a set leaves. -/
def SetP (n : Int) (f : Int → Bool) (w : World) (r : Ending) (w' : World) : Prop := ∃ v, r = .returned v ∧ SetV n w' v f ∧ Below w.heap.size w w'
def inR (n : Int) (r : Int) : Bool := decide (0 ≤ r) && decide (r < n)
theorem of_made {n : Int} {f g : Int → Bool} {w : World} {r : Ending} {w' : World} (h : MadePost n f w r w') (e : ∀ x, f x = g x) : SetP n g w r w' := by
  obtain ⟨v, s, h1, h2, h3, h4⟩ := h
  exact ⟨v, h1, ⟨s, h2, ⟨h3.fit, fun x => by rw [h3.has, e]⟩⟩, h4⟩
theorem UnionV (n : Int) (va vb : Value) (f g : Int → Bool) (w : World) (hA : SetV n w va f) (hB : SetV n w vb g) : Calls Tryd.prog 19 #[va, vb] w (SetP n (fun r => f r || g r) w) := by
  obtain ⟨a, a1, a2⟩ := hA
  obtain ⟨b, b1, b2⟩ := hB
  exact (Union_any n va vb a b w a1 b1 a2.fit b2.fit).mono fun e w' h => of_made h fun x => by rw [a2.has, b2.has]
theorem MeetV (n : Int) (va vb : Value) (f g : Int → Bool) (w : World) (hA : SetV n w va f) (hB : SetV n w vb g) : Calls Tryd.prog 21 #[va, vb] w (SetP n (fun r => f r && g r) w) := by
  obtain ⟨a, a1, a2⟩ := hA
  obtain ⟨b, b1, b2⟩ := hB
  exact (Meet_any n va vb a b w a1 b1 a2.fit b2.fit).mono fun e w' h => of_made h fun x => by rw [a2.has, b2.has]
theorem MinusV (n : Int) (va vb : Value) (f g : Int → Bool) (w : World) (hA : SetV n w va f) (hB : SetV n w vb g) : Calls Tryd.prog 23 #[va, vb] w (SetP n (fun r => f r && !g r) w) := by
  obtain ⟨a, a1, a2⟩ := hA
  obtain ⟨b, b1, b2⟩ := hB
  exact (Minus_any n va vb a b w a1 b1 a2.fit b2.fit).mono fun e w' h => of_made h fun x => by rw [a2.has, b2.has]
theorem NotV (n : Int) (va : Value) (f : Int → Bool) (w : World) (hA : SetV n w va f) : Calls Tryd.prog 25 #[.int .i64 n, va] w (SetP n (fun r => inR n r && !f r) w) := by
  obtain ⟨a, a1, a2⟩ := hA
  exact (Not_any n va a w a1 a2.fit).mono fun e w' h => of_made h fun x => by rw [a2.has]; rfl
theorem AllV (n : Int) (w : World) (h0 : 0 ≤ n) (h1 : n ≤ 65536) : Calls Tryd.prog 14 #[.int .i64 n] w (SetP n (inR n) w) := by
  refine (All_any n w).mono ?_
  rintro e w' ⟨v, rfl, s, b⟩
  have := all_set h0 h1
  exact ⟨v, rfl, ⟨_, s, ⟨this.fit, this.has⟩⟩, b⟩
theorem NotKV (n : Int) (va : Value) (f : Int → Bool) (B : Nat) (w : World) (hA : SetV n w va f) (hB : Boxed w B 3 (.int .i64 n)) : Calls Tryd.prog 38 #[va, .pointer (some ⟨B, 0, none⟩)] w (SetP n (fun r => inR n r && !f r) w) := by
  have C := hide (NotV n va f w hA)
  have c0 := hB.cell
  clear hA hB
  go_enter Tryd.func38, Tryd.ntmps38
  go_wp2_with fail
  refine C.out.mono ?_
  rintro e w1 ⟨v1, rfl, s1, b1⟩
  go_wp2_with fail
  go_ret
  exact ⟨v1, rfl, s1, b1⟩
theorem RSameV (n : Int) (va vb : Value) (f g : Int → Bool) (w : World) (hA : SetV n w va f) (hB : SetV n w vb g) (e : ∀ r, f r = g r) : Calls Tryd.prog 9 #[va, vb] w fun e w' => e = .returned (.bool true) ∧ Below w.heap.size w w' := by
  obtain ⟨a, a1, a2⟩ := hA
  obtain ⟨b, b1, b2⟩ := hB
  have hab := a2.eq b2 e
  have := RSame_any va vb a b w a1 b1 (by have := fit_len a2.fit; omega)
  rwa [decide_eq_true hab] at this
theorem SetV.empty {n : Int} {W : World} {v : Value} {f : Int → Bool} (h : SetV n W v f) (e : ∀ r, f r = false) : ∃ a c, v = .slice a 0 c := by
  obtain ⟨s, ⟨a, c, hv, _⟩, h2⟩ := h
  have h3 := fitL_iff.1 h2.fit
  have hs : s = [] := h2.eq (m := n) (g := fun _ => false) ⟨fitL_iff.2 ⟨h3.1, h3.2.1, rfl⟩, fun _ => rfl⟩ e
  subst hs
  exact ⟨a, c, hv⟩
theorem SetV.inside {n : Int} {W : World} {v : Value} {f : Int → Bool} (h : SetV n W v f) : ∀ r, f r = true → inR n r = true := by
  obtain ⟨s, _, h2⟩ := h
  intro r hr
  rw [← h2.has] at hr
  have := fit_bounds h2.fitF hr
  unfold inR
  simp
  omega
theorem SetV.of {n : Int} {W : World} {v : Value} {s : List Sp} (h : Spans W v s) (hf : fitL n s = true) : SetV n W v (hasL s) := ⟨s, h, IsSet.self hf⟩
theorem bool1 {a b c i : Bool} (ha : a = true → i = true) (hb : b = true → i = true) (hc : c = true → i = true) : (a || (i && !a)) = i ∧ (i && !(a || b)) = ((i && !a) && (i && !b)) ∧ (i && !(a && b)) = ((i && !a) || (i && !b)) ∧ (a && !b) = (a && (i && !b)) ∧ (i && !(i && !a)) = a ∧ (a && (i && !a)) = false := by
  cases a <;> cases b <;> cases c <;> cases i <;> simp_all

end Go.Proofs.YtmpegkcleajhhaaDoor
