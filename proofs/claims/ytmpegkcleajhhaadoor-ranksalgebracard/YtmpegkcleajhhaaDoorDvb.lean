/-
  A region's operations gone through by a plain interpreter: what it says holds.
-/
import Derived.Test.YtmpegkcleajhhaaDoorDva
namespace Go.Proofs.YtmpegkcleajhhaaDoor.RanksAlgebraP
open Go.RowKit Go.Shelf Go
set_option linter.unusedVariables false

section
variable {n : Int} {B : Nat} {fa fb fc : Int → Bool} {w0 : World}

/-- The box holds the number. -/
def SB (n : Int) (B : Nat) (w : World) : Prop := w.cell? ⟨B, 0, Option.none⟩ = some (.int .i64 n)

theorem op_yields {σ : St} {o : Oper} {x : AV} {a : Act} {w : World} (hi : Inv n B fa fb fc w0 σ a w) (ho : opA σ o.op = some x) :
    ∃ v, Rep n B fa fb fc w x v ∧ ∀ W, SB n B W → (execOp a.eval o).run Tryd.prog W = .ok (.value v) W := by
  unfold opA at ho
  split at ho
  · rename_i p h
    exact ⟨_, hi.arg ho, fun W _ => by unfold execOp; rw [h]; rfl⟩
  · rename_i p h
    exact ⟨_, hi.arg ho, fun W _ => by unfold execOp; rw [h]; rfl⟩
  · rename_i p h
    split at ho
    · rename_i hb
      cases ho
      have he : a.eval p = .pointer (some ⟨B, 0, Option.none⟩) := hi.arg hb
      refine ⟨_, rfl, fun W hW => ?_⟩
      have hc : W.cell? ⟨B, 0, Option.none⟩ = some (.int .i64 n) := hW
      unfold execOp
      rw [h]
      dsimp only
      rw [he]
      go_simp
    · cases ho
  · rename_i c p q h
    split at ho
    · rename_i hb
      have he : a.eval c = .bool true := hi.arg hb
      refine ⟨_, hi.arg ho, fun W hW => ?_⟩
      unfold execOp
      rw [h]
      dsimp only
      rw [he]
      rfl
    · cases ho
  · rename_i p h
    split at ho
    · rename_i hb
      cases ho
      have he : a.eval p = .int .i64 0 := hi.arg hb
      refine ⟨_, rfl, fun W hW => ?_⟩
      unfold execOp
      rw [h]
      dsimp only
      rw [he]
      go_simp
    · cases ho
  · cases ho

theorem run_value_call {P : Program} {a : Act} {o : Oper} {c : Call} {f : Operand} {k : Nat} {cap : Array Value} (hop : o.op = .call c) (hc : c.callee = .value f) (hf : a.eval f = .func (.func k) #[] cap) (w : World) :
    (execOp a.eval o).run P w = (callFunc k (#[] ++ c.args.map a.eval ++ cap)).run P w := by
  unfold execOp
  rw [hop]
  dsimp only
  unfold resolve
  rw [hc]
  dsimp only
  rw [hf]
  rfl

/-- Behind a call: its value is as told, and what was there stays. -/
def CallP (n : Int) (B : Nat) (fa fb fc : Int → Bool) (w : World) (x : AV) (e : Ending) (w' : World) : Prop := ∃ v, e = .returned v ∧ Rep n B fa fb fc w' x v ∧ Below w.heap.size w w'

theorem of_set {w : World} {e : SE} {f : Int → Bool} {r : Ending} {w' : World} (h : SetP n f w r w') (hf : ∀ x, f x = e.den (fa x) (fb x) (fc x) (inR n x)) : CallP n B fa fb fc w (.set e) r w' := by
  obtain ⟨v, h1, h2, h3⟩ := h
  have : f = fun x => e.den (fa x) (fb x) (fc x) (inR n x) := funext hf
  rw [this] at h2
  exact ⟨v, h1, h2, h3⟩

/-- The function's number and what it is handed besides. -/
def fnOf (B : Nat) : AV → Nat × Array Value
  | .fn k => (k, #[])
  | .notK => (38, #[.pointer (some ⟨B, 0, Option.none⟩)])
  | _ => (0, #[])

theorem call0 (hT : Tab w0) {w : World} (hb : Below w0.heap.size w0 w) {g x : AV} (h : callA g [] = some x) : Calls Tryd.prog (fnOf B g).1 (#[] ++ (fnOf B g).2) w (CallP n B fa fb fc w x) := by
  unfold callA at h
  split at h <;> first | cases h | skip
  all_goals try (rename_i hl; cases hl)
  refine (awake_any w (hT.below hb)).mono ?_
  rintro e w' ⟨rfl, k⟩
  exact ⟨_, rfl, rfl, k⟩

theorem call1 (h0 : 0 ≤ n) (h1 : n ≤ 65536) {w : World} (hx : Boxed w B 3 (.int .i64 n)) {g y x : AV} {v : Value} (hv : Rep n B fa fb fc w y v) (h : callA g [y] = some x) : Calls Tryd.prog (fnOf B g).1 (#[v] ++ (fnOf B g).2) w (CallP n B fa fb fc w x) := by
  cases g with
  | fn k =>
    by_cases hk : k = 14
    · subst hk
      cases y <;> first | cases h | skip
      cases hv
      exact (AllV n w h0 h1).mono fun e w' hp => of_set hp (fun _ => rfl)
    · exfalso
      unfold callA at h
      split at h <;> first | (cases h; done) | (rename_i hl; cases hl; done) | (rename_i h1 h2; cases h1; exact hk rfl) | skip
      all_goals simp_all
  | notK =>
    cases y <;> first | cases h | skip
    exact (NotKV n v _ B w hv hx).mono fun e w' hp => of_set hp (fun _ => rfl)
  | set e => cases h
  | tt => cases h
  | n => cases h
  | box => cases h
  | zero => cases h

theorem call2 (hia : ∀ r, fa r = true → inR n r = true) (hib : ∀ r, fb r = true → inR n r = true) (hic : ∀ r, fc r = true → inR n r = true) {w : World} {g y z x : AV} {v u : Value} (hv : Rep n B fa fb fc w y v) (hu : Rep n B fa fb fc w z u) (h : callA g [y, z] = some x) : Calls Tryd.prog (fnOf B g).1 (#[v, u] ++ (fnOf B g).2) w (CallP n B fa fb fc w x) := by
  unfold callA at h
  split at h <;> first | (cases h; done) | skip
  · rename_i p q hl
    cases hl; cases h
    exact (UnionV n v u _ _ w hv hu).mono fun e w' hp => of_set hp (fun _ => rfl)
  · rename_i p q hl
    cases hl; cases h
    exact (MeetV n v u _ _ w hv hu).mono fun e w' hp => of_set hp (fun _ => rfl)
  · rename_i p q hl
    cases hl; cases h
    exact (MinusV n v u _ _ w hv hu).mono fun e w' hp => of_set hp (fun _ => rfl)
  · rename_i p hl
    cases hl
  · rename_i hl
    cases hl
  · rename_i p q hl
    cases hl
    split at h
    · rename_i ht
      cases h
      refine (RSameV n v u _ _ w hv hu (fun r => SE.taut_out ht _ _ _ _ (hia r) (hib r) (hic r))).mono ?_
      rintro e w' ⟨rfl, k⟩
      exact ⟨_, rfl, rfl, k⟩
    · cases h
  · rename_i hl
    cases hl

end
end Go.Proofs.YtmpegkcleajhhaaDoor.RanksAlgebraP
