/-
  No cell of these rows narrows 'for every input' (looked for: loops, veiled, ifaces, maps, wideKeys, modest, calm, conditions, laid).
  DERIVED. THE GIVEN ROWS OF THIS SEAT. 5 by the template 'for every input the law returns true; each argument reads behind the call as it read before'; 0 by the template 'total and deterministic' (their statements: YtpdlgiioahjhiaaGreatTotals.lean).
  GIVEN WITH THE SEED: the statements are not yours to turn. If you find one false, say at which input.
  Laid BY PROGRAM, IN A SANDBOX (cutbox-rows.mjs): the forced cells as the released guide's own fill.sh prints them over the translation 0e3798107e80c373… (all of the seat's roots in one cut). By AI agents, Wed Nov 11 2026. No macro, syntax, notation, axiom, sorry.
-/
import Derived.Test.YtpdlgiioahjhiaaGreatChecked
import GoSem.Claim
import GoSem.ClaimJoined
import GoSem.ClaimMapViews
import Derived.JoinedTies
import Derived.KernelRfl
namespace Go.Proofs.YtpdlgiioahjhiaaGreat
/- THE CELL 'sum', in the pinned program and in every row, IS THE sha256 OF THE DUMP (.gsa) THAT YtpdlgiioahjhiaaGreatProg.lean LOADS. Nothing in Lean hashes anything: it is a label: what it is worth is what the hold of that sum in a sandbox is worth. -/
noncomputable def Tryz.pinned : Pinned := { name := "ytpdlgiioahjhiaagreat", sum := "0e3798107e80c373021985995e4a8da3f4211a0e0489125431d474eef72d8cd9", checked := Tryz.checked }
namespace Rows
def none {H : Type} : Left H := { results := [], args := [] }

/-- 'dovetaillaw08.NpmspecReads': WHATEVER THE INPUT: true; the input reads as it did. -/
def npmspecReadsSpec : ChangeSpec := { name := "npmspecReads", fn := fun _ => fun
  | [d] => { results := [.lit (.bool true)], args := [d] }
  | _ => none }
def npmspecReadsRow : OpenClaim := { program := "ytpdlgiioahjhiaagreat", sum := "0e3798107e80c373021985995e4a8da3f4211a0e0489125431d474eef72d8cd9", func := "dovetail/dovetaillaw08.NpmspecReads", spec := "npmspecReads", inPlace := ["internal/bytealg.IndexByteString", "internal/abi.NoEscape", "internal/bytealg.MakeNoZero", "internal/bytealg.abigen_runtime_cmpstring"], unfollowed := true, recurses := true, apart := false }
def NpmspecReadsSaid : Prop := npmspecReadsRow.holds Tryz.pinned (OpenSpec.ofChange npmspecReadsSpec)

/-- ITS FALSE NEIGHBOUR: 'it returns false'. Refute it at one input. -/
def npmspecReadsWrong : ChangeSpec := { name := "npmspecReads", fn := fun _ => fun
  | [d] => { results := [.lit (.bool false)], args := [d] }
  | _ => none }
def NpmspecReadsWrongFalsely : Prop := npmspecReadsRow.holds Tryz.pinned (OpenSpec.ofChange npmspecReadsWrong)

/-- 'dovetaillaw08.NpmspecWrites': WHATEVER THE INPUT: true; the input reads as it did. -/
def npmspecWritesSpec : ChangeSpec := { name := "npmspecWrites", fn := fun _ => fun
  | [d1, d2, d3] => { results := [.lit (.bool true)], args := [d1, d2, d3] }
  | _ => none }
def npmspecWritesRow : OpenClaim := { program := "ytpdlgiioahjhiaagreat", sum := "0e3798107e80c373021985995e4a8da3f4211a0e0489125431d474eef72d8cd9", func := "dovetail/dovetaillaw08.NpmspecWrites", spec := "npmspecWrites", inPlace := ["internal/abi.NoEscape", "internal/bytealg.MakeNoZero", "internal/bytealg.abigen_runtime_cmpstring", "internal/bytealg.IndexByteString"], unfollowed := true, recurses := true, apart := false }
def NpmspecWritesSaid : Prop := npmspecWritesRow.holds Tryz.pinned (OpenSpec.ofChange npmspecWritesSpec)

/-- ITS FALSE NEIGHBOUR: 'it returns false'. Refute it at one input. -/
def npmspecWritesWrong : ChangeSpec := { name := "npmspecWrites", fn := fun _ => fun
  | [d1, d2, d3] => { results := [.lit (.bool false)], args := [d1, d2, d3] }
  | _ => none }
def NpmspecWritesWrongFalsely : Prop := npmspecWritesRow.holds Tryz.pinned (OpenSpec.ofChange npmspecWritesWrong)

/-- 'dovetaillaw08.NpmspecMatches': WHATEVER THE INPUT: true; the input reads as it did. -/
def npmspecMatchesSpec : ChangeSpec := { name := "npmspecMatches", fn := fun _ => fun
  | [d1, d2, d3] => { results := [.lit (.bool true)], args := [d1, d2, d3] }
  | _ => none }
def npmspecMatchesRow : OpenClaim := { program := "ytpdlgiioahjhiaagreat", sum := "0e3798107e80c373021985995e4a8da3f4211a0e0489125431d474eef72d8cd9", func := "dovetail/dovetaillaw08.NpmspecMatches", spec := "npmspecMatches", inPlace := ["internal/bytealg.IndexByteString", "internal/bytealg.abigen_runtime_cmpstring", "internal/abi.NoEscape", "internal/bytealg.MakeNoZero"], unfollowed := true, recurses := true, apart := false }
def NpmspecMatchesSaid : Prop := npmspecMatchesRow.holds Tryz.pinned (OpenSpec.ofChange npmspecMatchesSpec)

/-- ITS FALSE NEIGHBOUR: 'it returns false'. Refute it at one input. -/
def npmspecMatchesWrong : ChangeSpec := { name := "npmspecMatches", fn := fun _ => fun
  | [d1, d2, d3] => { results := [.lit (.bool false)], args := [d1, d2, d3] }
  | _ => none }
def NpmspecMatchesWrongFalsely : Prop := npmspecMatchesRow.holds Tryz.pinned (OpenSpec.ofChange npmspecMatchesWrong)

/-- 'dovetaillaw08.NpmspecBack': WHATEVER THE INPUT: true; the input reads as it did. -/
def npmspecBackSpec : ChangeSpec := { name := "npmspecBack", fn := fun _ => fun
  | [d] => { results := [.lit (.bool true)], args := [d] }
  | _ => none }
def npmspecBackRow : OpenClaim := { program := "ytpdlgiioahjhiaagreat", sum := "0e3798107e80c373021985995e4a8da3f4211a0e0489125431d474eef72d8cd9", func := "dovetail/dovetaillaw08.NpmspecBack", spec := "npmspecBack", inPlace := ["internal/bytealg.IndexByteString", "internal/abi.NoEscape", "internal/bytealg.MakeNoZero", "internal/bytealg.abigen_runtime_cmpstring"], unfollowed := true, recurses := true, apart := false }
def NpmspecBackSaid : Prop := npmspecBackRow.holds Tryz.pinned (OpenSpec.ofChange npmspecBackSpec)

/-- ITS FALSE NEIGHBOUR: 'it returns false'. Refute it at one input. -/
def npmspecBackWrong : ChangeSpec := { name := "npmspecBack", fn := fun _ => fun
  | [d] => { results := [.lit (.bool false)], args := [d] }
  | _ => none }
def NpmspecBackWrongFalsely : Prop := npmspecBackRow.holds Tryz.pinned (OpenSpec.ofChange npmspecBackWrong)

/-- 'dovetaillaw08.NpmspecCarets': WHATEVER THE INPUT: true; the input reads as it did. -/
def npmspecCaretsSpec : ChangeSpec := { name := "npmspecCarets", fn := fun _ => fun
  | [d1, d2, d3, d4] => { results := [.lit (.bool true)], args := [d1, d2, d3, d4] }
  | _ => none }
def npmspecCaretsRow : OpenClaim := { program := "ytpdlgiioahjhiaagreat", sum := "0e3798107e80c373021985995e4a8da3f4211a0e0489125431d474eef72d8cd9", func := "dovetail/dovetaillaw08.NpmspecCarets", spec := "npmspecCarets", inPlace := ["internal/bytealg.IndexByteString", "internal/abi.NoEscape", "internal/bytealg.MakeNoZero", "internal/bytealg.abigen_runtime_cmpstring"], unfollowed := true, recurses := true, apart := false }
def NpmspecCaretsSaid : Prop := npmspecCaretsRow.holds Tryz.pinned (OpenSpec.ofChange npmspecCaretsSpec)

/-- ITS FALSE NEIGHBOUR: 'it returns false'. Refute it at one input. -/
def npmspecCaretsWrong : ChangeSpec := { name := "npmspecCarets", fn := fun _ => fun
  | [d1, d2, d3, d4] => { results := [.lit (.bool false)], args := [d1, d2, d3, d4] }
  | _ => none }
def NpmspecCaretsWrongFalsely : Prop := npmspecCaretsRow.holds Tryz.pinned (OpenSpec.ofChange npmspecCaretsWrong)

/- THE SECOND FORM. 'bulk': how many values and letters a reading holds, each counted each time it is reached (what is shared counts as often as it is met; a slice's spare places count too). A statement '..UptoSaid' is the law's where the arguments, and the package variables that the reading takes, are together of bulk at most 1048576: NARROWER than '..Said'. Prove '..Said' where nothing that the law and all that it calls make is longer than what came in: it says more and counts as full. Else prove '..UptoSaid'. A law counts once. -/
mutual
def uptoBulk {H : Type} : DataW H → Nat
  | .lit (.string bytes) => bytes.length + 1
  | .lit _ => 1
  | .nil => 1
  | .ptr d => uptoBulk d + 1
  | .slice elems spare => uptoBulkAll elems + uptoBulkAll spare + 1
  | .agg parts => uptoBulkAll parts + 1
  | .iface _ d => uptoBulk d + 1
  | .map entries => uptoBulkEntries entries + 1
  | .held _ => 1
def uptoBulkAll {H : Type} : List (DataW H) → Nat
  | [] => 0
  | d :: r => uptoBulk d + uptoBulkAll r
def uptoBulkEntries {H : Type} : List (Lit × DataW H) → Nat
  | [] => 0
  | x :: r => uptoBulkEntry x + uptoBulkEntries r
def uptoBulkEntry {H : Type} : Lit × DataW H → Nat
  | (.string bytes, d) => bytes.length + uptoBulk d + 1
  | (_, d) => uptoBulk d + 1
 end
def uptoSmall : (H : Type) → List (DataW H) → Bool := fun _ ds => decide (uptoBulkAll ds ≤ 1048576)
def OpenSpec.upto (s : _root_.Go.ChangeSpec) : _root_.Go.OpenSpec := { _root_.Go.OpenSpec.ofChange s with cond := some uptoSmall }

/-- 'dovetaillaw08.NpmspecReads', WHERE WHAT IT READS IS OF BULK AT MOST 1048576: true; the input reads as it did. -/
def npmspecReadsUptoRow : OpenClaim := { program := "ytpdlgiioahjhiaagreat", sum := "0e3798107e80c373021985995e4a8da3f4211a0e0489125431d474eef72d8cd9", func := "dovetail/dovetaillaw08.NpmspecReads", spec := "npmspecReads", inPlace := ["internal/bytealg.IndexByteString", "internal/abi.NoEscape", "internal/bytealg.MakeNoZero", "internal/bytealg.abigen_runtime_cmpstring"], unfollowed := true, recurses := true, apart := false, narrowed := true }
def NpmspecReadsUptoSaid : Prop := npmspecReadsUptoRow.holds Tryz.pinned (OpenSpec.upto npmspecReadsSpec)

/-- 'dovetaillaw08.NpmspecWrites', WHERE WHAT IT READS IS OF BULK AT MOST 1048576: true; the input reads as it did. -/
def npmspecWritesUptoRow : OpenClaim := { program := "ytpdlgiioahjhiaagreat", sum := "0e3798107e80c373021985995e4a8da3f4211a0e0489125431d474eef72d8cd9", func := "dovetail/dovetaillaw08.NpmspecWrites", spec := "npmspecWrites", inPlace := ["internal/abi.NoEscape", "internal/bytealg.MakeNoZero", "internal/bytealg.abigen_runtime_cmpstring", "internal/bytealg.IndexByteString"], unfollowed := true, recurses := true, apart := false, narrowed := true }
def NpmspecWritesUptoSaid : Prop := npmspecWritesUptoRow.holds Tryz.pinned (OpenSpec.upto npmspecWritesSpec)

/-- 'dovetaillaw08.NpmspecMatches', WHERE WHAT IT READS IS OF BULK AT MOST 1048576: true; the input reads as it did. -/
def npmspecMatchesUptoRow : OpenClaim := { program := "ytpdlgiioahjhiaagreat", sum := "0e3798107e80c373021985995e4a8da3f4211a0e0489125431d474eef72d8cd9", func := "dovetail/dovetaillaw08.NpmspecMatches", spec := "npmspecMatches", inPlace := ["internal/bytealg.IndexByteString", "internal/bytealg.abigen_runtime_cmpstring", "internal/abi.NoEscape", "internal/bytealg.MakeNoZero"], unfollowed := true, recurses := true, apart := false, narrowed := true }
def NpmspecMatchesUptoSaid : Prop := npmspecMatchesUptoRow.holds Tryz.pinned (OpenSpec.upto npmspecMatchesSpec)

/-- 'dovetaillaw08.NpmspecBack', WHERE WHAT IT READS IS OF BULK AT MOST 1048576: true; the input reads as it did. -/
def npmspecBackUptoRow : OpenClaim := { program := "ytpdlgiioahjhiaagreat", sum := "0e3798107e80c373021985995e4a8da3f4211a0e0489125431d474eef72d8cd9", func := "dovetail/dovetaillaw08.NpmspecBack", spec := "npmspecBack", inPlace := ["internal/bytealg.IndexByteString", "internal/abi.NoEscape", "internal/bytealg.MakeNoZero", "internal/bytealg.abigen_runtime_cmpstring"], unfollowed := true, recurses := true, apart := false, narrowed := true }
def NpmspecBackUptoSaid : Prop := npmspecBackUptoRow.holds Tryz.pinned (OpenSpec.upto npmspecBackSpec)

/-- 'dovetaillaw08.NpmspecCarets', WHERE WHAT IT READS IS OF BULK AT MOST 1048576: true; the input reads as it did. -/
def npmspecCaretsUptoRow : OpenClaim := { program := "ytpdlgiioahjhiaagreat", sum := "0e3798107e80c373021985995e4a8da3f4211a0e0489125431d474eef72d8cd9", func := "dovetail/dovetaillaw08.NpmspecCarets", spec := "npmspecCarets", inPlace := ["internal/bytealg.IndexByteString", "internal/abi.NoEscape", "internal/bytealg.MakeNoZero", "internal/bytealg.abigen_runtime_cmpstring"], unfollowed := true, recurses := true, apart := false, narrowed := true }
def NpmspecCaretsUptoSaid : Prop := npmspecCaretsUptoRow.holds Tryz.pinned (OpenSpec.upto npmspecCaretsSpec)

end Rows
end Go.Proofs.YtpdlgiioahjhiaaGreat
