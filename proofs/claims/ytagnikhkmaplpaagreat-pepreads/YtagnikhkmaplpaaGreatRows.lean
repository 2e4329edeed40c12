/-
  No cell of these rows narrows 'for every input' (looked for: loops, veiled, ifaces, maps, wideKeys, modest, calm, conditions, laid).
  DERIVED. THE GIVEN ROWS OF THIS SEAT. 2 by the template 'for every input the law returns true; each argument reads behind the call as it read before'; 0 by the template 'total and deterministic' (their statements: YtagnikhkmaplpaaGreatTotals.lean).
  GIVEN WITH THE SEED: the statements are not yours to turn. If you find one false, say at which input.
  Laid BY PROGRAM, IN A SANDBOX (cutbox-rows.mjs): the forced cells as the released guide's own fill.sh prints them over the translation ff6051342988408c… (all of the seat's roots in one cut). By AI agents, Wed Nov 11 2026. No macro, syntax, notation, axiom, sorry.
-/
import Derived.Test.YtagnikhkmaplpaaGreatChecked
import GoSem.Claim
import GoSem.ClaimJoined
import GoSem.ClaimMapViews
import Derived.JoinedTies
import Derived.KernelRfl
namespace Go.Proofs.YtagnikhkmaplpaaGreat
/- THE CELL 'sum', in the pinned program and in every row, IS THE sha256 OF THE DUMP (.gsa) THAT YtagnikhkmaplpaaGreatProg.lean LOADS. Nothing in Lean hashes anything: it is a label: what it is worth is what the hold of that sum in a sandbox is worth. -/
noncomputable def Tryz.pinned : Pinned := { name := "ytagnikhkmaplpaagreat", sum := "ff6051342988408c36b0d2a39d1e78ecf2bbfb02819ddc2d4f8efff4e3f2bf39", checked := Tryz.checked }
namespace Rows
def none {H : Type} : Left H := { results := [], args := [] }

/-- 'dovetaillaw03.PepReads': WHATEVER THE INPUT: true; the input reads as it did. -/
def pepReadsSpec : ChangeSpec := { name := "pepReads", fn := fun _ => fun
  | [d1, d2] => { results := [.lit (.bool true)], args := [d1, d2] }
  | _ => none }
def pepReadsRow : OpenClaim := { program := "ytagnikhkmaplpaagreat", sum := "ff6051342988408c36b0d2a39d1e78ecf2bbfb02819ddc2d4f8efff4e3f2bf39", func := "dovetail/dovetaillaw03.PepReads", spec := "pepReads", inPlace := ["internal/bytealg.IndexByteString", "internal/bytealg.IndexString", "internal/abi.NoEscape", "internal/bytealg.MakeNoZero", "internal/bytealg.abigen_runtime_cmpstring"], unfollowed := true, recurses := true, named := ["internal/bytealg.MaxLen"], apart := false }
def PepReadsSaid : Prop := pepReadsRow.holds Tryz.pinned (OpenSpec.ofChange pepReadsSpec)

/-- ITS FALSE NEIGHBOUR: 'it returns false'. Refute it at one input. -/
def pepReadsWrong : ChangeSpec := { name := "pepReads", fn := fun _ => fun
  | [d1, d2] => { results := [.lit (.bool false)], args := [d1, d2] }
  | _ => none }
def PepReadsWrongFalsely : Prop := pepReadsRow.holds Tryz.pinned (OpenSpec.ofChange pepReadsWrong)

/-- 'dovetaillaw03.PepDoes': WHATEVER THE INPUT: true; the input reads as it did. -/
def pepDoesSpec : ChangeSpec := { name := "pepDoes", fn := fun _ => fun
  | [d1, d2] => { results := [.lit (.bool true)], args := [d1, d2] }
  | _ => none }
def pepDoesRow : OpenClaim := { program := "ytagnikhkmaplpaagreat", sum := "ff6051342988408c36b0d2a39d1e78ecf2bbfb02819ddc2d4f8efff4e3f2bf39", func := "dovetail/dovetaillaw03.PepDoes", spec := "pepDoes", inPlace := ["internal/abi.NoEscape", "internal/bytealg.MakeNoZero", "internal/bytealg.abigen_runtime_cmpstring", "internal/bytealg.IndexByteString", "internal/bytealg.IndexString"], unfollowed := true, recurses := true, named := ["internal/bytealg.MaxLen"], apart := false }
def PepDoesSaid : Prop := pepDoesRow.holds Tryz.pinned (OpenSpec.ofChange pepDoesSpec)

/-- ITS FALSE NEIGHBOUR: 'it returns false'. Refute it at one input. -/
def pepDoesWrong : ChangeSpec := { name := "pepDoes", fn := fun _ => fun
  | [d1, d2] => { results := [.lit (.bool false)], args := [d1, d2] }
  | _ => none }
def PepDoesWrongFalsely : Prop := pepDoesRow.holds Tryz.pinned (OpenSpec.ofChange pepDoesWrong)

/- THE SECOND FORM. 'bulk': how many values and letters a reading holds, each counted each time it is reached (what is shared counts as often as it is met; a slice's spare places count too). A statement '..UptoSaid' is the law's where the arguments, and the package variables that the reading takes, are together of bulk at most 1048576: NARROWER than '..Said'. Prove '..Said' where nothing that the law and all that it calls make is longer than what came in: it says more and counts as full. Else prove '..UptoSaid'. A law counts once. -/
mutual
def uptoBulk {H : Type} : DataW H → Nat
  | .lit (.string bytes) => bytes.length + 1
  | .lit _ => 1
  | .nil => 1
  | .ptr d => uptoBulk d + 1
  | .slice elems spare => uptoBulkAll elems + uptoBulkAll spare + 1
  | .agg parts => uptoBulkAll parts + 1
  | .iface _ d => uptoBulk d + 1
  | .map entries => uptoBulkEntries entries + 1
  | .held _ => 1
def uptoBulkAll {H : Type} : List (DataW H) → Nat
  | [] => 0
  | d :: r => uptoBulk d + uptoBulkAll r
def uptoBulkEntries {H : Type} : List (Lit × DataW H) → Nat
  | [] => 0
  | x :: r => uptoBulkEntry x + uptoBulkEntries r
def uptoBulkEntry {H : Type} : Lit × DataW H → Nat
  | (.string bytes, d) => bytes.length + uptoBulk d + 1
  | (_, d) => uptoBulk d + 1
 end
def uptoSmall : (H : Type) → List (DataW H) → Bool := fun _ ds => decide (uptoBulkAll ds ≤ 1048576)
def OpenSpec.upto (s : _root_.Go.ChangeSpec) : _root_.Go.OpenSpec := { _root_.Go.OpenSpec.ofChange s with cond := some uptoSmall }

/-- 'dovetaillaw03.PepReads', WHERE WHAT IT READS IS OF BULK AT MOST 1048576: true; the input reads as it did. -/
def pepReadsUptoRow : OpenClaim := { program := "ytagnikhkmaplpaagreat", sum := "ff6051342988408c36b0d2a39d1e78ecf2bbfb02819ddc2d4f8efff4e3f2bf39", func := "dovetail/dovetaillaw03.PepReads", spec := "pepReads", inPlace := ["internal/bytealg.IndexByteString", "internal/bytealg.IndexString", "internal/abi.NoEscape", "internal/bytealg.MakeNoZero", "internal/bytealg.abigen_runtime_cmpstring"], unfollowed := true, recurses := true, named := ["internal/bytealg.MaxLen"], apart := false, narrowed := true }
def PepReadsUptoSaid : Prop := pepReadsUptoRow.holds Tryz.pinned (OpenSpec.upto pepReadsSpec)

/-- 'dovetaillaw03.PepDoes', WHERE WHAT IT READS IS OF BULK AT MOST 1048576: true; the input reads as it did. -/
def pepDoesUptoRow : OpenClaim := { program := "ytagnikhkmaplpaagreat", sum := "ff6051342988408c36b0d2a39d1e78ecf2bbfb02819ddc2d4f8efff4e3f2bf39", func := "dovetail/dovetaillaw03.PepDoes", spec := "pepDoes", inPlace := ["internal/abi.NoEscape", "internal/bytealg.MakeNoZero", "internal/bytealg.abigen_runtime_cmpstring", "internal/bytealg.IndexByteString", "internal/bytealg.IndexString"], unfollowed := true, recurses := true, named := ["internal/bytealg.MaxLen"], apart := false, narrowed := true }
def PepDoesUptoSaid : Prop := pepDoesUptoRow.holds Tryz.pinned (OpenSpec.upto pepDoesSpec)

end Rows
end Go.Proofs.YtagnikhkmaplpaaGreat
