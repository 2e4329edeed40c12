/-
  A region's operations gone through by a plain interpreter: the whole run.
-/
import Derived.Test.YtmpegkcleajhhaaDoorDvb
namespace Go.Proofs.YtmpegkcleajhhaaDoor.RanksAlgebraP
open Go.RowKit Go.Shelf Go
set_option linter.unusedVariables false

/-- What a call makes, by its operands. -/
def callL (σ : St) (g : AV) : List Operand → Option AV
  | [] => callA g []
  | [p] => match argA σ p with | some x => callA g [x] | Option.none => Option.none
  | [p, q] => match argA σ p, argA σ q with | some x, some y => callA g [x, y] | _, _ => Option.none
  | _ => Option.none
def lenL (σ : St) : List Operand → Option AV
  | [p] => match argA σ p with | some (.set x) => if x.none then some .zero else Option.none | _ => Option.none
  | _ => Option.none
def callOpA (σ : St) : Op → Option AV
  | .call c => match c.callee with
    | .value f => match argA σ f with | some g => callL σ g c.args.toList | Option.none => Option.none
    | .builtin .len => match c.argTypes.toList with | [22] => lenL σ c.args.toList | _ => Option.none
    | _ => Option.none
  | _ => Option.none

theorem fn_rep {n : Int} {B : Nat} {fa fb fc : Int → Bool} {w : World} {g x : AV} {l : List AV} {v : Value} (hv : Rep n B fa fb fc w g v) (h : callA g l = some x) :
    v = .func (.func (fnOf B g).1) #[] (fnOf B g).2 ∧ (fnOf B g).1 ∈ [9, 14, 16, 19, 21, 23, 38] := by
  unfold callA at h
  split at h <;> first | exact ⟨hv, by simp [fnOf]⟩ | cases h

theorem enter_of {k : Nat} (hk : k ∈ [9, 14, 16, 19, 21, 23, 38]) (args : Array Value) (w : World) : (callFunc k args).run Tryd.prog w = .ok (.enter k args) w := by
  simp only [List.mem_cons, List.not_mem_nil, or_false] at hk
  rcases hk with rfl | rfl | rfl | rfl | rfl | rfl | rfl <;> go_simp

section
variable {n : Int} {B : Nat} {fa fb fc : Int → Bool} {w0 : World}

theorem len_zero {o : Oper} {c : Call} {p : Operand} {a : Act} {ad : Option Addr} {cp : Nat} (hop : o.op = .call c) (hc : c.callee = .builtin .len) (ha : c.args = #[p]) (ht : c.argTypes = #[22]) (hp : a.eval p = .slice ad 0 cp) (w : World) :
    (execOp a.eval o).run Tryd.prog w = .ok (.value (.int .i64 0)) w := by
  obtain ⟨dst, op, type, pos, after, guard⟩ := o
  obtain ⟨callee, args, argTypes⟩ := c
  dsimp only at hop hc ha ht
  subst hop hc ha ht
  have hm : (#[p] : Array Operand).map a.eval = #[.slice ad 0 cp] := by simp [hp]
  unfold execOp
  dsimp only
  unfold resolve
  dsimp only
  rw [hm]
  go_simp

variable (hT : Tab w0) (h0 : 0 ≤ n) (h1 : n ≤ 65536) (hia : ∀ r, fa r = true → inR n r = true) (hib : ∀ r, fb r = true → inR n r = true) (hic : ∀ r, fc r = true → inR n r = true)
include hT h0 h1 hia hib hic

theorem callStep {Q : Exit → Act → World → Prop} {σ : St} {o : Oper} {x : AV} {a : Act} {w : World} (hi : Inv n B fa fb fc w0 σ a w) (ho : callOpA σ o.op = some x)
    {K : Act → World → Prop} (hK : ∀ v w', Rep n B fa fb fc w' x v → Below w.heap.size w w' → K (a.put o.dst v) w') : Oper.wp Tryd.prog o a w K Q := by
  unfold callOpA at ho
  split at ho
  · rename_i c hop
    split at ho
    · rename_i f hc
      split at ho
      · rename_i g hg
        have hv := hi.arg hg
        have key : ∀ args, a.eval f = .func (.func (fnOf B g).1) #[] (fnOf B g).2 → (fnOf B g).1 ∈ [9, 14, 16, 19, 21, 23, 38] → c.args.map a.eval = args →
            Calls Tryd.prog (fnOf B g).1 (args ++ (fnOf B g).2) w (CallP n B fa fb fc w x) → Oper.wp Tryd.prog o a w K Q := by
          intro args he hk hm hC
          unfold Oper.wp
          rw [run_value_call hop hc he w, enter_of hk, Oper.upon_enter, hm]
          have e0 : (#[] ++ args ++ (fnOf B g).2 : Array Value) = args ++ (fnOf B g).2 := by simp
          rw [e0]
          refine hC.mono ?_
          rintro e w' ⟨v, rfl, hr, hb⟩
          exact hK v w' hr hb
        unfold callL at ho
        split at ho
        · rename_i hl
          obtain ⟨he, hk⟩ := fn_rep hv ho
          have hl' : c.args = #[] := Array.ext' (by rw [hl])
          exact key #[] he hk (by rw [hl']; simp) (call0 hT hi.below ho)
        · rename_i p hl
          split at ho
          · rename_i y hy
            obtain ⟨he, hk⟩ := fn_rep hv ho
            have hl' : c.args = #[p] := Array.ext' (by rw [hl])
            exact key #[a.eval p] he hk (by rw [hl']; simp) (call1 h0 h1 hi.box (hi.arg hy) ho)
          · cases ho
        · rename_i p q hl
          split at ho
          · rename_i y z hy hz
            obtain ⟨he, hk⟩ := fn_rep hv ho
            have hl' : c.args = #[p, q] := Array.ext' (by rw [hl])
            exact key #[a.eval p, a.eval q] he hk (by rw [hl']; simp) (call2 hia hib hic (hi.arg hy) (hi.arg hz) ho)
          · cases ho
        · cases ho
      · cases ho
    · rename_i hc
      split at ho
      case h_2 => cases ho
      rename_i hat
      have hat' : c.argTypes = #[22] := Array.ext' (by rw [hat])
      unfold lenL at ho
      split at ho
      · rename_i p hl
        split at ho
        · rename_i y hy
          split at ho
          · rename_i hn
            cases ho
            have hl' : c.args = #[p] := Array.ext' (by rw [hl])
            have hs : SetV n w (a.eval p) _ := hi.arg hy
            obtain ⟨ad, cp, hv⟩ := hs.empty (fun r => by
              have := SE.taut_out hn (fa r) (fb r) (fc r) (inR n r) (hia r) (hib r) (hic r)
              rw [this]
              show (inR n r && !inR n r) = false
              cases inR n r <;> rfl)
            unfold Oper.wp
            rw [len_zero hop hc hl' hat' hv w, Oper.upon_value]
            exact hK _ w rfl (Below.refl _ w)
          · cases ho
        · cases ho
      · cases ho
    · cases ho
  · cases ho

end

/-- The operations that have come up, the last one ahead. -/
def LLr (m : Nat) : List Nat → Array Bool
  | [] => Array.replicate m false
  | i :: p => (LLr m p).setIfInBounds i true

/-- An order in which a region may be gone through: what yields at once is taken first, a call comes alone. -/
inductive OkRun (ops : Array Oper) (m : Nat) : List (Bool × Nat) → List Nat → Prop
  | done {p : List Nat} (h : Region.ready .any ops (LLr m p) = []) : OkRun ops m [] p
  | take {i : Nat} {is : List (Bool × Nat)} {p : List Nat} (h1 : Region.free .any ops (LLr m p) i = true) (h2 : (Region.ready .any ops (LLr m p)).contains i = true) (h : OkRun ops m is (i :: p)) : OkRun ops m ((true, i) :: is) p
  | one {i : Nat} {is : List (Bool × Nat)} {p : List Nat} (h1 : Region.ready .any ops (LLr m p) = [i]) (h : OkRun ops m is (i :: p)) : OkRun ops m ((false, i) :: is) p

def stepA (ops : Array Oper) (σ : St) (t : Bool) (i : Nat) : Option St :=
  match ops[i]? with
  | Option.none => Option.none
  | some o => if guardA ops σ o then
      match o.dst with
      | some d => if d < 203 then (match (if t then opA σ o.op else callOpA σ o.op) with | some x => some ((d, x) :: σ) | Option.none => Option.none) else Option.none
      | Option.none => Option.none
    else Option.none
def runA (ops : Array Oper) : List (Bool × Nat) → St → Option St
  | [], σ => some σ
  | (t, i) :: is, σ => match stepA ops σ t i with | some σ' => runA ops is σ' | Option.none => Option.none

theorem step_out {ops : Array Oper} {σ σ' : St} {t : Bool} {i : Nat} (h : stepA ops σ t i = some σ') :
    ∃ o d x, ops[i]? = some o ∧ guardA ops σ o = true ∧ o.dst = some d ∧ d < 203 ∧ (if t then opA σ o.op else callOpA σ o.op) = some x ∧ σ' = (d, x) :: σ := by
  unfold stepA at h
  split at h
  · cases h
  · rename_i o ho
    split at h
    · rename_i hg
      split at h
      · rename_i d hd
        split at h
        · rename_i hlt
          split at h
          · rename_i x hx
            cases h
            exact ⟨o, d, x, ho, hg, hd, hlt, hx, rfl⟩
          · cases h
        · cases h
      · cases h
    · cases h

theorem run_sound {n : Int} {B : Nat} {fa fb fc : Int → Bool} {w0 : World} (hT : Tab w0) (h0 : 0 ≤ n) (h1 : n ≤ 65536) (hia : ∀ r, fa r = true → inR n r = true) (hib : ∀ r, fb r = true → inR n r = true) (hic : ∀ r, fc r = true → inR n r = true)
    {ops : Array Oper} {m : Nat} {Q : Exit → Act → World → Prop} (hs : Region.noSelect ops = true) (hQ : ∀ c (a : Act) d v w, Q (.panic c) (a.put d v) w → Q (.panic c) a w)
    {is : List (Bool × Nat)} {p : List Nat} (hok : OkRun ops m is p) : ∀ (σ σ' : St) (a : Act) (w : World), runA ops is σ = some σ' → Inv n B fa fb fc w0 σ a w →
      (∀ a' w', Inv n B fa fb fc w0 σ' a' w' → Q .normal a' w') → wpAnyH Tryd.prog .any ops Q (SB n B) is.length (LLr m p) a w := by
  induction hok with
  | done hr =>
    intro σ σ' a w hrun hi hfin
    cases hrun
    exact wpAnyH_done hr (hfin a w hi) _
  | take hf hr hok ih =>
    rename_i i is p
    intro σ σ' a w hrun hi hfin
    unfold runA at hrun
    split at hrun
    · rename_i σ1 hst
      obtain ⟨o, d, x, ho, hg, hd, hlt, hx, rfl⟩ := step_out hst
      rw [if_pos rfl] at hx
      obtain ⟨v, hv, hy⟩ := op_yields hi hx
      refine wpAnyH_take (v := v) ho hs hf hr (fun c a w h => hQ c a _ _ w h) (Or.inl ⟨guard_out hi hg, hy⟩) hi.box.cell ?_
      rw [hd]
      exact ih _ _ _ _ hrun (hi.put (Below.refl _ w) hlt hv) hfin
    · cases hrun
  | one hr hok ih =>
    rename_i i is p
    intro σ σ' a w hrun hi hfin
    unfold runA at hrun
    split at hrun
    · rename_i σ1 hst
      obtain ⟨o, d, x, ho, hg, hd, hlt, hx, rfl⟩ := step_out hst
      rw [if_neg (by decide)] at hx
      refine wpAnyH_ready hr (by simp) (AllReadyH.cons ho (fun K hK => ?_) AllReadyH.nil)
      rw [if_pos (guard_out hi hg)]
      refine callStep hT h0 h1 hia hib hic hi hx (fun v w' hv hb => ?_)
      have hi' := hi.put hb hlt hv
      refine hK.out _ _ hi'.box.cell (fun _ => ?_)
      rw [hd]
      exact ih _ _ _ _ hrun hi' hfin
    · cases hrun

end Go.Proofs.YtmpegkcleajhhaaDoor.RanksAlgebraP
