/-
  No cell of these rows narrows 'for every input' (looked for: loops, veiled, ifaces, maps, wideKeys, modest, calm, conditions, laid).
  DERIVED. THE GIVEN ROWS OF THIS SEAT. 3 by the template 'for every input the law returns true; each argument reads behind the call as it read before'; 0 by the template 'total and deterministic' (their statements: YtagnikhkmaplpaaTotals.lean).
  GIVEN WITH THE SEED: the statements are not yours to turn. If you find one false, say at which input.
  Laid BY PROGRAM, IN A SANDBOX (cutbox-rows.mjs): the forced cells as the released guide's own fill.sh prints them over the translation 9e63c8d454a91c1d… (all of the seat's roots in one cut). By AI agents, Wed Nov 11 2026. No macro, syntax, notation, axiom, sorry.
-/
import Derived.Test.YtagnikhkmaplpaaChecked
import GoSem.Claim
import GoSem.ClaimJoined
import GoSem.ClaimMapViews
import Derived.JoinedTies
import Derived.KernelRfl
namespace Go.Proofs.Ytagnikhkmaplpaa
/- THE CELL 'sum', in the pinned program and in every row, IS THE sha256 OF THE DUMP (.gsa) THAT YtagnikhkmaplpaaProg.lean LOADS. Nothing in Lean hashes anything: it is a label: what it is worth is what the hold of that sum in a sandbox is worth. -/
noncomputable def Try.pinned : Pinned := { name := "ytagnikhkmaplpaa", sum := "9e63c8d454a91c1d77336d29e992fe1a08c2b17471d2979eed27bc30629b5c62", checked := Try.checked }
namespace Rows
def none {H : Type} : Left H := { results := [], args := [] }

/-- 'dovetaillaw03.PepOrder': WHATEVER THE INPUT: true; the input reads as it did. -/
def pepOrderSpec : ChangeSpec := { name := "pepOrder", fn := fun _ => fun
  | [d1, d2, d3] => { results := [.lit (.bool true)], args := [d1, d2, d3] }
  | _ => none }
def pepOrderRow : OpenClaim := { program := "ytagnikhkmaplpaa", sum := "9e63c8d454a91c1d77336d29e992fe1a08c2b17471d2979eed27bc30629b5c62", func := "dovetail/dovetaillaw03.PepOrder", spec := "pepOrder", inPlace := ["internal/bytealg.IndexByteString", "internal/bytealg.IndexString", "internal/bytealg.abigen_runtime_cmpstring", "internal/abi.NoEscape", "internal/bytealg.MakeNoZero"], unfollowed := true, recurses := true, named := ["internal/bytealg.MaxLen"], apart := false }
def PepOrderSaid : Prop := pepOrderRow.holds Try.pinned (OpenSpec.ofChange pepOrderSpec)

/-- ITS FALSE NEIGHBOUR: 'it returns false'. Refute it at one input. -/
def pepOrderWrong : ChangeSpec := { name := "pepOrder", fn := fun _ => fun
  | [d1, d2, d3] => { results := [.lit (.bool false)], args := [d1, d2, d3] }
  | _ => none }
def PepOrderWrongFalsely : Prop := pepOrderRow.holds Try.pinned (OpenSpec.ofChange pepOrderWrong)

/-- 'dovetaillaw03.PepBack': WHATEVER THE INPUT: true; the input reads as it did. -/
def pepBackSpec : ChangeSpec := { name := "pepBack", fn := fun _ => fun
  | [d1, d2] => { results := [.lit (.bool true)], args := [d1, d2] }
  | _ => none }
def pepBackRow : OpenClaim := { program := "ytagnikhkmaplpaa", sum := "9e63c8d454a91c1d77336d29e992fe1a08c2b17471d2979eed27bc30629b5c62", func := "dovetail/dovetaillaw03.PepBack", spec := "pepBack", inPlace := ["internal/abi.NoEscape", "internal/bytealg.MakeNoZero", "internal/bytealg.IndexByteString", "internal/bytealg.IndexString", "internal/bytealg.abigen_runtime_cmpstring"], unfollowed := true, recurses := true, named := ["internal/bytealg.MaxLen"], apart := false }
def PepBackSaid : Prop := pepBackRow.holds Try.pinned (OpenSpec.ofChange pepBackSpec)

/-- ITS FALSE NEIGHBOUR: 'it returns false'. Refute it at one input. -/
def pepBackWrong : ChangeSpec := { name := "pepBack", fn := fun _ => fun
  | [d1, d2] => { results := [.lit (.bool false)], args := [d1, d2] }
  | _ => none }
def PepBackWrongFalsely : Prop := pepBackRow.holds Try.pinned (OpenSpec.ofChange pepBackWrong)

/-- 'dovetaillaw03.PepRow': WHATEVER THE INPUT: true; the input reads as it did. -/
def pepRowSpec : ChangeSpec := { name := "pepRow", fn := fun _ => fun
  | [d1, d2] => { results := [.lit (.bool true)], args := [d1, d2] }
  | _ => none }
def pepRowRow : OpenClaim := { program := "ytagnikhkmaplpaa", sum := "9e63c8d454a91c1d77336d29e992fe1a08c2b17471d2979eed27bc30629b5c62", func := "dovetail/dovetaillaw03.PepRow", spec := "pepRow", inPlace := ["internal/bytealg.IndexByteString", "internal/bytealg.IndexString", "internal/abi.NoEscape", "internal/bytealg.MakeNoZero", "internal/bytealg.abigen_runtime_cmpstring"], unfollowed := true, recurses := true, named := ["internal/bytealg.MaxLen"], apart := false }
def PepRowSaid : Prop := pepRowRow.holds Try.pinned (OpenSpec.ofChange pepRowSpec)

/-- ITS FALSE NEIGHBOUR: 'it returns false'. Refute it at one input. -/
def pepRowWrong : ChangeSpec := { name := "pepRow", fn := fun _ => fun
  | [d1, d2] => { results := [.lit (.bool false)], args := [d1, d2] }
  | _ => none }
def PepRowWrongFalsely : Prop := pepRowRow.holds Try.pinned (OpenSpec.ofChange pepRowWrong)

/- THE SECOND FORM. 'bulk': how many values and letters a reading holds, each counted each time it is reached (what is shared counts as often as it is met; a slice's spare places count too). A statement '..UptoSaid' is the law's where the arguments, and the package variables that the reading takes, are together of bulk at most 1048576: NARROWER than '..Said'. Prove '..Said' where nothing that the law and all that it calls make is longer than what came in: it says more and counts as full. Else prove '..UptoSaid'. A law counts once. -/
mutual
def uptoBulk {H : Type} : DataW H → Nat
  | .lit (.string bytes) => bytes.length + 1
  | .lit _ => 1
  | .nil => 1
  | .ptr d => uptoBulk d + 1
  | .slice elems spare => uptoBulkAll elems + uptoBulkAll spare + 1
  | .agg parts => uptoBulkAll parts + 1
  | .iface _ d => uptoBulk d + 1
  | .map entries => uptoBulkEntries entries + 1
  | .held _ => 1
def uptoBulkAll {H : Type} : List (DataW H) → Nat
  | [] => 0
  | d :: r => uptoBulk d + uptoBulkAll r
def uptoBulkEntries {H : Type} : List (Lit × DataW H) → Nat
  | [] => 0
  | x :: r => uptoBulkEntry x + uptoBulkEntries r
def uptoBulkEntry {H : Type} : Lit × DataW H → Nat
  | (.string bytes, d) => bytes.length + uptoBulk d + 1
  | (_, d) => uptoBulk d + 1
 end
def uptoSmall : (H : Type) → List (DataW H) → Bool := fun _ ds => decide (uptoBulkAll ds ≤ 1048576)
def OpenSpec.upto (s : _root_.Go.ChangeSpec) : _root_.Go.OpenSpec := { _root_.Go.OpenSpec.ofChange s with cond := some uptoSmall }

/-- 'dovetaillaw03.PepOrder', WHERE WHAT IT READS IS OF BULK AT MOST 1048576: true; the input reads as it did. -/
def pepOrderUptoRow : OpenClaim := { program := "ytagnikhkmaplpaa", sum := "9e63c8d454a91c1d77336d29e992fe1a08c2b17471d2979eed27bc30629b5c62", func := "dovetail/dovetaillaw03.PepOrder", spec := "pepOrder", inPlace := ["internal/bytealg.IndexByteString", "internal/bytealg.IndexString", "internal/bytealg.abigen_runtime_cmpstring", "internal/abi.NoEscape", "internal/bytealg.MakeNoZero"], unfollowed := true, recurses := true, named := ["internal/bytealg.MaxLen"], apart := false, narrowed := true }
def PepOrderUptoSaid : Prop := pepOrderUptoRow.holds Try.pinned (OpenSpec.upto pepOrderSpec)

/-- 'dovetaillaw03.PepBack', WHERE WHAT IT READS IS OF BULK AT MOST 1048576: true; the input reads as it did. -/
def pepBackUptoRow : OpenClaim := { program := "ytagnikhkmaplpaa", sum := "9e63c8d454a91c1d77336d29e992fe1a08c2b17471d2979eed27bc30629b5c62", func := "dovetail/dovetaillaw03.PepBack", spec := "pepBack", inPlace := ["internal/abi.NoEscape", "internal/bytealg.MakeNoZero", "internal/bytealg.IndexByteString", "internal/bytealg.IndexString", "internal/bytealg.abigen_runtime_cmpstring"], unfollowed := true, recurses := true, named := ["internal/bytealg.MaxLen"], apart := false, narrowed := true }
def PepBackUptoSaid : Prop := pepBackUptoRow.holds Try.pinned (OpenSpec.upto pepBackSpec)

/-- 'dovetaillaw03.PepRow', WHERE WHAT IT READS IS OF BULK AT MOST 1048576: true; the input reads as it did. -/
def pepRowUptoRow : OpenClaim := { program := "ytagnikhkmaplpaa", sum := "9e63c8d454a91c1d77336d29e992fe1a08c2b17471d2979eed27bc30629b5c62", func := "dovetail/dovetaillaw03.PepRow", spec := "pepRow", inPlace := ["internal/bytealg.IndexByteString", "internal/bytealg.IndexString", "internal/abi.NoEscape", "internal/bytealg.MakeNoZero", "internal/bytealg.abigen_runtime_cmpstring"], unfollowed := true, recurses := true, named := ["internal/bytealg.MaxLen"], apart := false, narrowed := true }
def PepRowUptoSaid : Prop := pepRowUptoRow.holds Try.pinned (OpenSpec.upto pepRowSpec)

end Rows
end Go.Proofs.Ytagnikhkmaplpaa
