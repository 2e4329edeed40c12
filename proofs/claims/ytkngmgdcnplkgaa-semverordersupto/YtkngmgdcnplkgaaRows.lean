/-
  No cell of these rows narrows 'for every input' (looked for: loops, veiled, ifaces, maps, wideKeys, modest, calm, conditions, laid).
  DERIVED. THE GIVEN ROWS OF THIS SEAT. 6 by the template 'for every input the law returns true; each argument reads behind the call as it read before'; 0 by the template 'total and deterministic' (their statements: YtkngmgdcnplkgaaTotals.lean).
  GIVEN WITH THE SEED: the statements are not yours to turn. If you find one false, say at which input.
  Laid BY PROGRAM, IN A SANDBOX (cutbox-rows.mjs): the forced cells as the released guide's own fill.sh prints them over the translation cf0c3f3b357a307c… (all of the seat's roots in one cut). By AI agents, Wed Nov 11 2026. No macro, syntax, notation, axiom, sorry.
-/
import Derived.Test.YtkngmgdcnplkgaaChecked
import GoSem.Claim
import GoSem.ClaimJoined
import GoSem.ClaimMapViews
import Derived.JoinedTies
import Derived.KernelRfl
namespace Go.Proofs.Ytkngmgdcnplkgaa
/- THE CELL 'sum', in the pinned program and in every row, IS THE sha256 OF THE DUMP (.gsa) THAT YtkngmgdcnplkgaaProg.lean LOADS. Nothing in Lean hashes anything: it is a label: what it is worth is what the hold of that sum in a sandbox is worth. -/
noncomputable def Try.pinned : Pinned := { name := "ytkngmgdcnplkgaa", sum := "cf0c3f3b357a307c6283e147f87056163dba38ac4077b3abea58462646df1bd4", checked := Try.checked }
namespace Rows
def none {H : Type} : Left H := { results := [], args := [] }

/-- 'dovetaillaw02.SemverReads': WHATEVER THE INPUT: true; the input reads as it did. -/
def semverReadsSpec : ChangeSpec := { name := "semverReads", fn := fun _ => fun
  | [d] => { results := [.lit (.bool true)], args := [d] }
  | _ => none }
def semverReadsRow : OpenClaim := { program := "ytkngmgdcnplkgaa", sum := "cf0c3f3b357a307c6283e147f87056163dba38ac4077b3abea58462646df1bd4", func := "dovetail/dovetaillaw02.SemverReads", spec := "semverReads", inPlace := ["internal/bytealg.IndexByteString", "internal/bytealg.IndexString", "internal/bytealg.abigen_runtime_cmpstring"], unfollowed := true, recurses := true, named := ["internal/bytealg.MaxLen"], apart := false }
def SemverReadsSaid : Prop := semverReadsRow.holds Try.pinned (OpenSpec.ofChange semverReadsSpec)

/-- ITS FALSE NEIGHBOUR: 'it returns false'. Refute it at one input. -/
def semverReadsWrong : ChangeSpec := { name := "semverReads", fn := fun _ => fun
  | [d] => { results := [.lit (.bool false)], args := [d] }
  | _ => none }
def SemverReadsWrongFalsely : Prop := semverReadsRow.holds Try.pinned (OpenSpec.ofChange semverReadsWrong)

/-- 'dovetaillaw02.SemverWrites': WHATEVER THE INPUT: true; the input reads as it did. -/
def semverWritesSpec : ChangeSpec := { name := "semverWrites", fn := fun _ => fun
  | [d1, d2] => { results := [.lit (.bool true)], args := [d1, d2] }
  | _ => none }
def semverWritesRow : OpenClaim := { program := "ytkngmgdcnplkgaa", sum := "cf0c3f3b357a307c6283e147f87056163dba38ac4077b3abea58462646df1bd4", func := "dovetail/dovetaillaw02.SemverWrites", spec := "semverWrites", inPlace := ["internal/abi.NoEscape", "internal/bytealg.MakeNoZero", "internal/bytealg.abigen_runtime_cmpstring", "internal/bytealg.IndexByteString", "internal/bytealg.IndexString"], unfollowed := true, recurses := true, named := ["internal/bytealg.MaxLen"], apart := false }
def SemverWritesSaid : Prop := semverWritesRow.holds Try.pinned (OpenSpec.ofChange semverWritesSpec)

/-- ITS FALSE NEIGHBOUR: 'it returns false'. Refute it at one input. -/
def semverWritesWrong : ChangeSpec := { name := "semverWrites", fn := fun _ => fun
  | [d1, d2] => { results := [.lit (.bool false)], args := [d1, d2] }
  | _ => none }
def SemverWritesWrongFalsely : Prop := semverWritesRow.holds Try.pinned (OpenSpec.ofChange semverWritesWrong)

/-- 'dovetaillaw02.SemverOrders': WHATEVER THE INPUT: true; the input reads as it did. -/
def semverOrdersSpec : ChangeSpec := { name := "semverOrders", fn := fun _ => fun
  | [d1, d2, d3, d4, d5] => { results := [.lit (.bool true)], args := [d1, d2, d3, d4, d5] }
  | _ => none }
def semverOrdersRow : OpenClaim := { program := "ytkngmgdcnplkgaa", sum := "cf0c3f3b357a307c6283e147f87056163dba38ac4077b3abea58462646df1bd4", func := "dovetail/dovetaillaw02.SemverOrders", spec := "semverOrders", inPlace := ["internal/bytealg.abigen_runtime_cmpstring", "internal/bytealg.IndexByteString", "internal/bytealg.IndexString"], unfollowed := true, recurses := true, named := ["internal/bytealg.MaxLen"], apart := false }
def SemverOrdersSaid : Prop := semverOrdersRow.holds Try.pinned (OpenSpec.ofChange semverOrdersSpec)

/-- ITS FALSE NEIGHBOUR: 'it returns false'. Refute it at one input. -/
def semverOrdersWrong : ChangeSpec := { name := "semverOrders", fn := fun _ => fun
  | [d1, d2, d3, d4, d5] => { results := [.lit (.bool false)], args := [d1, d2, d3, d4, d5] }
  | _ => none }
def SemverOrdersWrongFalsely : Prop := semverOrdersRow.holds Try.pinned (OpenSpec.ofChange semverOrdersWrong)

/-- 'dovetaillaw02.SemverBack': WHATEVER THE INPUT: true; the input reads as it did. -/
def semverBackSpec : ChangeSpec := { name := "semverBack", fn := fun _ => fun
  | [d1, d2] => { results := [.lit (.bool true)], args := [d1, d2] }
  | _ => none }
def semverBackRow : OpenClaim := { program := "ytkngmgdcnplkgaa", sum := "cf0c3f3b357a307c6283e147f87056163dba38ac4077b3abea58462646df1bd4", func := "dovetail/dovetaillaw02.SemverBack", spec := "semverBack", inPlace := ["internal/abi.NoEscape", "internal/bytealg.MakeNoZero", "internal/bytealg.abigen_runtime_cmpstring", "internal/bytealg.IndexByteString", "internal/bytealg.IndexString"], unfollowed := true, recurses := true, named := ["internal/bytealg.MaxLen"], apart := false }
def SemverBackSaid : Prop := semverBackRow.holds Try.pinned (OpenSpec.ofChange semverBackSpec)

/-- ITS FALSE NEIGHBOUR: 'it returns false'. Refute it at one input. -/
def semverBackWrong : ChangeSpec := { name := "semverBack", fn := fun _ => fun
  | [d1, d2] => { results := [.lit (.bool false)], args := [d1, d2] }
  | _ => none }
def SemverBackWrongFalsely : Prop := semverBackRow.holds Try.pinned (OpenSpec.ofChange semverBackWrong)

/-- 'dovetaillaw02.SemverTrue': WHATEVER THE INPUT: true; the input reads as it did. -/
def semverTrueSpec : ChangeSpec := { name := "semverTrue", fn := fun _ => fun
  | [d1, d2, d3] => { results := [.lit (.bool true)], args := [d1, d2, d3] }
  | _ => none }
def semverTrueRow : OpenClaim := { program := "ytkngmgdcnplkgaa", sum := "cf0c3f3b357a307c6283e147f87056163dba38ac4077b3abea58462646df1bd4", func := "dovetail/dovetaillaw02.SemverTrue", spec := "semverTrue", inPlace := ["internal/bytealg.abigen_runtime_cmpstring", "internal/bytealg.IndexByteString", "internal/bytealg.IndexString"], unfollowed := true, recurses := true, named := ["internal/bytealg.MaxLen"], apart := false }
def SemverTrueSaid : Prop := semverTrueRow.holds Try.pinned (OpenSpec.ofChange semverTrueSpec)

/-- ITS FALSE NEIGHBOUR: 'it returns false'. Refute it at one input. -/
def semverTrueWrong : ChangeSpec := { name := "semverTrue", fn := fun _ => fun
  | [d1, d2, d3] => { results := [.lit (.bool false)], args := [d1, d2, d3] }
  | _ => none }
def SemverTrueWrongFalsely : Prop := semverTrueRow.holds Try.pinned (OpenSpec.ofChange semverTrueWrong)

/-- 'dovetaillaw02.SemverNexts': WHATEVER THE INPUT: true; the input reads as it did. -/
def semverNextsSpec : ChangeSpec := { name := "semverNexts", fn := fun _ => fun
  | [d1, d2] => { results := [.lit (.bool true)], args := [d1, d2] }
  | _ => none }
def semverNextsRow : OpenClaim := { program := "ytkngmgdcnplkgaa", sum := "cf0c3f3b357a307c6283e147f87056163dba38ac4077b3abea58462646df1bd4", func := "dovetail/dovetaillaw02.SemverNexts", spec := "semverNexts", inPlace := ["internal/bytealg.abigen_runtime_cmpstring", "internal/bytealg.IndexByteString", "internal/bytealg.IndexString"], unfollowed := true, recurses := true, named := ["internal/bytealg.MaxLen"], apart := false }
def SemverNextsSaid : Prop := semverNextsRow.holds Try.pinned (OpenSpec.ofChange semverNextsSpec)

/-- ITS FALSE NEIGHBOUR: 'it returns false'. Refute it at one input. -/
def semverNextsWrong : ChangeSpec := { name := "semverNexts", fn := fun _ => fun
  | [d1, d2] => { results := [.lit (.bool false)], args := [d1, d2] }
  | _ => none }
def SemverNextsWrongFalsely : Prop := semverNextsRow.holds Try.pinned (OpenSpec.ofChange semverNextsWrong)

/- THE SECOND FORM. 'bulk': how many values and letters a reading holds, each counted each time it is reached (what is shared counts as often as it is met; a slice's spare places count too). A statement '..UptoSaid' is the law's where the arguments, and the package variables that the reading takes, are together of bulk at most 1048576: NARROWER than '..Said'. Prove '..Said' where nothing that the law and all that it calls make is longer than what came in: it says more and counts as full. Else prove '..UptoSaid'. A law counts once. -/
mutual
def uptoBulk {H : Type} : DataW H → Nat
  | .lit (.string bytes) => bytes.length + 1
  | .lit _ => 1
  | .nil => 1
  | .ptr d => uptoBulk d + 1
  | .slice elems spare => uptoBulkAll elems + uptoBulkAll spare + 1
  | .agg parts => uptoBulkAll parts + 1
  | .iface _ d => uptoBulk d + 1
  | .map entries => uptoBulkEntries entries + 1
  | .held _ => 1
def uptoBulkAll {H : Type} : List (DataW H) → Nat
  | [] => 0
  | d :: r => uptoBulk d + uptoBulkAll r
def uptoBulkEntries {H : Type} : List (Lit × DataW H) → Nat
  | [] => 0
  | x :: r => uptoBulkEntry x + uptoBulkEntries r
def uptoBulkEntry {H : Type} : Lit × DataW H → Nat
  | (.string bytes, d) => bytes.length + uptoBulk d + 1
  | (_, d) => uptoBulk d + 1
 end
def uptoSmall : (H : Type) → List (DataW H) → Bool := fun _ ds => decide (uptoBulkAll ds ≤ 1048576)
def OpenSpec.upto (s : _root_.Go.ChangeSpec) : _root_.Go.OpenSpec := { _root_.Go.OpenSpec.ofChange s with cond := some uptoSmall }

/-- 'dovetaillaw02.SemverReads', WHERE WHAT IT READS IS OF BULK AT MOST 1048576: true; the input reads as it did. -/
def semverReadsUptoRow : OpenClaim := { program := "ytkngmgdcnplkgaa", sum := "cf0c3f3b357a307c6283e147f87056163dba38ac4077b3abea58462646df1bd4", func := "dovetail/dovetaillaw02.SemverReads", spec := "semverReads", inPlace := ["internal/bytealg.IndexByteString", "internal/bytealg.IndexString", "internal/bytealg.abigen_runtime_cmpstring"], unfollowed := true, recurses := true, named := ["internal/bytealg.MaxLen"], apart := false, narrowed := true }
def SemverReadsUptoSaid : Prop := semverReadsUptoRow.holds Try.pinned (OpenSpec.upto semverReadsSpec)

/-- 'dovetaillaw02.SemverWrites', WHERE WHAT IT READS IS OF BULK AT MOST 1048576: true; the input reads as it did. -/
def semverWritesUptoRow : OpenClaim := { program := "ytkngmgdcnplkgaa", sum := "cf0c3f3b357a307c6283e147f87056163dba38ac4077b3abea58462646df1bd4", func := "dovetail/dovetaillaw02.SemverWrites", spec := "semverWrites", inPlace := ["internal/abi.NoEscape", "internal/bytealg.MakeNoZero", "internal/bytealg.abigen_runtime_cmpstring", "internal/bytealg.IndexByteString", "internal/bytealg.IndexString"], unfollowed := true, recurses := true, named := ["internal/bytealg.MaxLen"], apart := false, narrowed := true }
def SemverWritesUptoSaid : Prop := semverWritesUptoRow.holds Try.pinned (OpenSpec.upto semverWritesSpec)

/-- 'dovetaillaw02.SemverOrders', WHERE WHAT IT READS IS OF BULK AT MOST 1048576: true; the input reads as it did. -/
def semverOrdersUptoRow : OpenClaim := { program := "ytkngmgdcnplkgaa", sum := "cf0c3f3b357a307c6283e147f87056163dba38ac4077b3abea58462646df1bd4", func := "dovetail/dovetaillaw02.SemverOrders", spec := "semverOrders", inPlace := ["internal/bytealg.abigen_runtime_cmpstring", "internal/bytealg.IndexByteString", "internal/bytealg.IndexString"], unfollowed := true, recurses := true, named := ["internal/bytealg.MaxLen"], apart := false, narrowed := true }
def SemverOrdersUptoSaid : Prop := semverOrdersUptoRow.holds Try.pinned (OpenSpec.upto semverOrdersSpec)

/-- 'dovetaillaw02.SemverBack', WHERE WHAT IT READS IS OF BULK AT MOST 1048576: true; the input reads as it did. -/
def semverBackUptoRow : OpenClaim := { program := "ytkngmgdcnplkgaa", sum := "cf0c3f3b357a307c6283e147f87056163dba38ac4077b3abea58462646df1bd4", func := "dovetail/dovetaillaw02.SemverBack", spec := "semverBack", inPlace := ["internal/abi.NoEscape", "internal/bytealg.MakeNoZero", "internal/bytealg.abigen_runtime_cmpstring", "internal/bytealg.IndexByteString", "internal/bytealg.IndexString"], unfollowed := true, recurses := true, named := ["internal/bytealg.MaxLen"], apart := false, narrowed := true }
def SemverBackUptoSaid : Prop := semverBackUptoRow.holds Try.pinned (OpenSpec.upto semverBackSpec)

/-- 'dovetaillaw02.SemverTrue', WHERE WHAT IT READS IS OF BULK AT MOST 1048576: true; the input reads as it did. -/
def semverTrueUptoRow : OpenClaim := { program := "ytkngmgdcnplkgaa", sum := "cf0c3f3b357a307c6283e147f87056163dba38ac4077b3abea58462646df1bd4", func := "dovetail/dovetaillaw02.SemverTrue", spec := "semverTrue", inPlace := ["internal/bytealg.abigen_runtime_cmpstring", "internal/bytealg.IndexByteString", "internal/bytealg.IndexString"], unfollowed := true, recurses := true, named := ["internal/bytealg.MaxLen"], apart := false, narrowed := true }
def SemverTrueUptoSaid : Prop := semverTrueUptoRow.holds Try.pinned (OpenSpec.upto semverTrueSpec)

/-- 'dovetaillaw02.SemverNexts', WHERE WHAT IT READS IS OF BULK AT MOST 1048576: true; the input reads as it did. -/
def semverNextsUptoRow : OpenClaim := { program := "ytkngmgdcnplkgaa", sum := "cf0c3f3b357a307c6283e147f87056163dba38ac4077b3abea58462646df1bd4", func := "dovetail/dovetaillaw02.SemverNexts", spec := "semverNexts", inPlace := ["internal/bytealg.abigen_runtime_cmpstring", "internal/bytealg.IndexByteString", "internal/bytealg.IndexString"], unfollowed := true, recurses := true, named := ["internal/bytealg.MaxLen"], apart := false, narrowed := true }
def SemverNextsUptoSaid : Prop := semverNextsUptoRow.holds Try.pinned (OpenSpec.upto semverNextsSpec)

end Rows
end Go.Proofs.Ytkngmgdcnplkgaa
