/-
  No cell of these rows narrows 'for every input' (looked for: loops, veiled, ifaces, maps, wideKeys, modest, calm, conditions, laid).
  DERIVED. THE GIVEN ROWS OF THIS SEAT. 6 by the template 'for every input the law returns true; each argument reads behind the call as it read before'; 0 by the template 'total and deterministic' (their statements: YtabmfdedbpmfmaaGreatTotals.lean).
  GIVEN WITH THE SEED: the statements are not yours to turn. If you find one false, say at which input.
  Laid BY PROGRAM, IN A SANDBOX (cutbox-rows.mjs): the forced cells as the released guide's own fill.sh prints them over the translation 13a7fcf744cfec96… (all of the seat's roots in one cut). By AI agents, Wed Nov 11 2026. No macro, syntax, notation, axiom, sorry.
-/
import Derived.Test.YtabmfdedbpmfmaaGreatChecked
import GoSem.Claim
import GoSem.ClaimJoined
import GoSem.ClaimMapViews
import Derived.JoinedTies
import Derived.KernelRfl
namespace Go.Proofs.YtabmfdedbpmfmaaGreat
/- THE CELL 'sum', in the pinned program and in every row, IS THE sha256 OF THE DUMP (.gsa) THAT YtabmfdedbpmfmaaGreatProg.lean LOADS. Nothing in Lean hashes anything: it is a label: what it is worth is what the hold of that sum in a sandbox is worth. -/
noncomputable def Tryz.pinned : Pinned := { name := "ytabmfdedbpmfmaagreat", sum := "13a7fcf744cfec96fde79cd696f0270ee7c64fb881426a734e80eb3051cd17cd", checked := Tryz.checked }
namespace Rows
def none {H : Type} : Left H := { results := [], args := [] }

/-- 'dovetaillaw10.PyspecReads': WHATEVER THE INPUT: true; the input reads as it did. -/
def pyspecReadsSpec : ChangeSpec := { name := "pyspecReads", fn := fun _ => fun
  | [d] => { results := [.lit (.bool true)], args := [d] }
  | _ => none }
def pyspecReadsRow : OpenClaim := { program := "ytabmfdedbpmfmaagreat", sum := "13a7fcf744cfec96fde79cd696f0270ee7c64fb881426a734e80eb3051cd17cd", func := "dovetail/dovetaillaw10.PyspecReads", spec := "pyspecReads", inPlace := ["internal/bytealg.IndexByteString", "internal/bytealg.IndexString", "internal/bytealg.abigen_runtime_cmpstring"], unfollowed := true, recurses := true, named := ["internal/bytealg.MaxLen"], apart := false }
def PyspecReadsSaid : Prop := pyspecReadsRow.holds Tryz.pinned (OpenSpec.ofChange pyspecReadsSpec)

/-- ITS FALSE NEIGHBOUR: 'it returns false'. Refute it at one input. -/
def pyspecReadsWrong : ChangeSpec := { name := "pyspecReads", fn := fun _ => fun
  | [d] => { results := [.lit (.bool false)], args := [d] }
  | _ => none }
def PyspecReadsWrongFalsely : Prop := pyspecReadsRow.holds Tryz.pinned (OpenSpec.ofChange pyspecReadsWrong)

/-- 'dovetaillaw10.PyspecWrites': WHATEVER THE INPUT: true; the input reads as it did. -/
def pyspecWritesSpec : ChangeSpec := { name := "pyspecWrites", fn := fun _ => fun
  | [d1, d2, d3] => { results := [.lit (.bool true)], args := [d1, d2, d3] }
  | _ => none }
def pyspecWritesRow : OpenClaim := { program := "ytabmfdedbpmfmaagreat", sum := "13a7fcf744cfec96fde79cd696f0270ee7c64fb881426a734e80eb3051cd17cd", func := "dovetail/dovetaillaw10.PyspecWrites", spec := "pyspecWrites", inPlace := ["internal/abi.NoEscape", "internal/bytealg.MakeNoZero", "internal/bytealg.IndexByteString", "internal/bytealg.IndexString", "internal/bytealg.abigen_runtime_cmpstring"], unfollowed := true, recurses := true, named := ["internal/bytealg.MaxLen"], apart := false }
def PyspecWritesSaid : Prop := pyspecWritesRow.holds Tryz.pinned (OpenSpec.ofChange pyspecWritesSpec)

/-- ITS FALSE NEIGHBOUR: 'it returns false'. Refute it at one input. -/
def pyspecWritesWrong : ChangeSpec := { name := "pyspecWrites", fn := fun _ => fun
  | [d1, d2, d3] => { results := [.lit (.bool false)], args := [d1, d2, d3] }
  | _ => none }
def PyspecWritesWrongFalsely : Prop := pyspecWritesRow.holds Tryz.pinned (OpenSpec.ofChange pyspecWritesWrong)

/-- 'dovetaillaw10.PyspecMatches': WHATEVER THE INPUT: true; the input reads as it did. -/
def pyspecMatchesSpec : ChangeSpec := { name := "pyspecMatches", fn := fun _ => fun
  | [d1, d2, d3] => { results := [.lit (.bool true)], args := [d1, d2, d3] }
  | _ => none }
def pyspecMatchesRow : OpenClaim := { program := "ytabmfdedbpmfmaagreat", sum := "13a7fcf744cfec96fde79cd696f0270ee7c64fb881426a734e80eb3051cd17cd", func := "dovetail/dovetaillaw10.PyspecMatches", spec := "pyspecMatches", inPlace := ["internal/bytealg.IndexByteString", "internal/bytealg.IndexString", "internal/bytealg.abigen_runtime_cmpstring"], unfollowed := true, recurses := true, named := ["internal/bytealg.MaxLen"], apart := false }
def PyspecMatchesSaid : Prop := pyspecMatchesRow.holds Tryz.pinned (OpenSpec.ofChange pyspecMatchesSpec)

/-- ITS FALSE NEIGHBOUR: 'it returns false'. Refute it at one input. -/
def pyspecMatchesWrong : ChangeSpec := { name := "pyspecMatches", fn := fun _ => fun
  | [d1, d2, d3] => { results := [.lit (.bool false)], args := [d1, d2, d3] }
  | _ => none }
def PyspecMatchesWrongFalsely : Prop := pyspecMatchesRow.holds Tryz.pinned (OpenSpec.ofChange pyspecMatchesWrong)

/-- 'dovetaillaw10.PyspecBack': WHATEVER THE INPUT: true; the input reads as it did. -/
def pyspecBackSpec : ChangeSpec := { name := "pyspecBack", fn := fun _ => fun
  | [d] => { results := [.lit (.bool true)], args := [d] }
  | _ => none }
def pyspecBackRow : OpenClaim := { program := "ytabmfdedbpmfmaagreat", sum := "13a7fcf744cfec96fde79cd696f0270ee7c64fb881426a734e80eb3051cd17cd", func := "dovetail/dovetaillaw10.PyspecBack", spec := "pyspecBack", inPlace := ["internal/bytealg.IndexByteString", "internal/bytealg.IndexString", "internal/bytealg.abigen_runtime_cmpstring", "internal/abi.NoEscape", "internal/bytealg.MakeNoZero"], unfollowed := true, recurses := true, named := ["internal/bytealg.MaxLen"], apart := false }
def PyspecBackSaid : Prop := pyspecBackRow.holds Tryz.pinned (OpenSpec.ofChange pyspecBackSpec)

/-- ITS FALSE NEIGHBOUR: 'it returns false'. Refute it at one input. -/
def pyspecBackWrong : ChangeSpec := { name := "pyspecBack", fn := fun _ => fun
  | [d] => { results := [.lit (.bool false)], args := [d] }
  | _ => none }
def PyspecBackWrongFalsely : Prop := pyspecBackRow.holds Tryz.pinned (OpenSpec.ofChange pyspecBackWrong)

/-- 'dovetaillaw10.PyspecBoth': WHATEVER THE INPUT: true; the input reads as it did. -/
def pyspecBothSpec : ChangeSpec := { name := "pyspecBoth", fn := fun _ => fun
  | [d1, d2, d3, d4] => { results := [.lit (.bool true)], args := [d1, d2, d3, d4] }
  | _ => none }
def pyspecBothRow : OpenClaim := { program := "ytabmfdedbpmfmaagreat", sum := "13a7fcf744cfec96fde79cd696f0270ee7c64fb881426a734e80eb3051cd17cd", func := "dovetail/dovetaillaw10.PyspecBoth", spec := "pyspecBoth", inPlace := ["internal/bytealg.IndexByteString", "internal/bytealg.IndexString", "internal/bytealg.abigen_runtime_cmpstring", "internal/abi.NoEscape", "internal/bytealg.MakeNoZero"], unfollowed := true, recurses := true, named := ["internal/bytealg.MaxLen"], apart := false }
def PyspecBothSaid : Prop := pyspecBothRow.holds Tryz.pinned (OpenSpec.ofChange pyspecBothSpec)

/-- ITS FALSE NEIGHBOUR: 'it returns false'. Refute it at one input. -/
def pyspecBothWrong : ChangeSpec := { name := "pyspecBoth", fn := fun _ => fun
  | [d1, d2, d3, d4] => { results := [.lit (.bool false)], args := [d1, d2, d3, d4] }
  | _ => none }
def PyspecBothWrongFalsely : Prop := pyspecBothRow.holds Tryz.pinned (OpenSpec.ofChange pyspecBothWrong)

/-- 'dovetaillaw10.PyspecBetween': WHATEVER THE INPUT: true; the input reads as it did. -/
def pyspecBetweenSpec : ChangeSpec := { name := "pyspecBetween", fn := fun _ => fun
  | [d1, d2] => { results := [.lit (.bool true)], args := [d1, d2] }
  | _ => none }
def pyspecBetweenRow : OpenClaim := { program := "ytabmfdedbpmfmaagreat", sum := "13a7fcf744cfec96fde79cd696f0270ee7c64fb881426a734e80eb3051cd17cd", func := "dovetail/dovetaillaw10.PyspecBetween", spec := "pyspecBetween", inPlace := ["internal/bytealg.IndexByteString", "internal/bytealg.IndexString", "internal/bytealg.abigen_runtime_cmpstring", "internal/abi.NoEscape", "internal/bytealg.MakeNoZero"], unfollowed := true, recurses := true, named := ["internal/bytealg.MaxLen"], apart := false }
def PyspecBetweenSaid : Prop := pyspecBetweenRow.holds Tryz.pinned (OpenSpec.ofChange pyspecBetweenSpec)

/-- ITS FALSE NEIGHBOUR: 'it returns false'. Refute it at one input. -/
def pyspecBetweenWrong : ChangeSpec := { name := "pyspecBetween", fn := fun _ => fun
  | [d1, d2] => { results := [.lit (.bool false)], args := [d1, d2] }
  | _ => none }
def PyspecBetweenWrongFalsely : Prop := pyspecBetweenRow.holds Tryz.pinned (OpenSpec.ofChange pyspecBetweenWrong)

/- THE SECOND FORM. 'bulk': how many values and letters a reading holds, each counted each time it is reached (what is shared counts as often as it is met; a slice's spare places count too). A statement '..UptoSaid' is the law's where the arguments, and the package variables that the reading takes, are together of bulk at most 1048576: NARROWER than '..Said'. Prove '..Said' where nothing that the law and all that it calls make is longer than what came in: it says more and counts as full. Else prove '..UptoSaid'. A law counts once. -/
mutual
def uptoBulk {H : Type} : DataW H → Nat
  | .lit (.string bytes) => bytes.length + 1
  | .lit _ => 1
  | .nil => 1
  | .ptr d => uptoBulk d + 1
  | .slice elems spare => uptoBulkAll elems + uptoBulkAll spare + 1
  | .agg parts => uptoBulkAll parts + 1
  | .iface _ d => uptoBulk d + 1
  | .map entries => uptoBulkEntries entries + 1
  | .held _ => 1
def uptoBulkAll {H : Type} : List (DataW H) → Nat
  | [] => 0
  | d :: r => uptoBulk d + uptoBulkAll r
def uptoBulkEntries {H : Type} : List (Lit × DataW H) → Nat
  | [] => 0
  | x :: r => uptoBulkEntry x + uptoBulkEntries r
def uptoBulkEntry {H : Type} : Lit × DataW H → Nat
  | (.string bytes, d) => bytes.length + uptoBulk d + 1
  | (_, d) => uptoBulk d + 1
 end
def uptoSmall : (H : Type) → List (DataW H) → Bool := fun _ ds => decide (uptoBulkAll ds ≤ 1048576)
def OpenSpec.upto (s : _root_.Go.ChangeSpec) : _root_.Go.OpenSpec := { _root_.Go.OpenSpec.ofChange s with cond := some uptoSmall }

/-- 'dovetaillaw10.PyspecReads', WHERE WHAT IT READS IS OF BULK AT MOST 1048576: true; the input reads as it did. -/
def pyspecReadsUptoRow : OpenClaim := { program := "ytabmfdedbpmfmaagreat", sum := "13a7fcf744cfec96fde79cd696f0270ee7c64fb881426a734e80eb3051cd17cd", func := "dovetail/dovetaillaw10.PyspecReads", spec := "pyspecReads", inPlace := ["internal/bytealg.IndexByteString", "internal/bytealg.IndexString", "internal/bytealg.abigen_runtime_cmpstring"], unfollowed := true, recurses := true, named := ["internal/bytealg.MaxLen"], apart := false, narrowed := true }
def PyspecReadsUptoSaid : Prop := pyspecReadsUptoRow.holds Tryz.pinned (OpenSpec.upto pyspecReadsSpec)

/-- 'dovetaillaw10.PyspecWrites', WHERE WHAT IT READS IS OF BULK AT MOST 1048576: true; the input reads as it did. -/
def pyspecWritesUptoRow : OpenClaim := { program := "ytabmfdedbpmfmaagreat", sum := "13a7fcf744cfec96fde79cd696f0270ee7c64fb881426a734e80eb3051cd17cd", func := "dovetail/dovetaillaw10.PyspecWrites", spec := "pyspecWrites", inPlace := ["internal/abi.NoEscape", "internal/bytealg.MakeNoZero", "internal/bytealg.IndexByteString", "internal/bytealg.IndexString", "internal/bytealg.abigen_runtime_cmpstring"], unfollowed := true, recurses := true, named := ["internal/bytealg.MaxLen"], apart := false, narrowed := true }
def PyspecWritesUptoSaid : Prop := pyspecWritesUptoRow.holds Tryz.pinned (OpenSpec.upto pyspecWritesSpec)

/-- 'dovetaillaw10.PyspecMatches', WHERE WHAT IT READS IS OF BULK AT MOST 1048576: true; the input reads as it did. -/
def pyspecMatchesUptoRow : OpenClaim := { program := "ytabmfdedbpmfmaagreat", sum := "13a7fcf744cfec96fde79cd696f0270ee7c64fb881426a734e80eb3051cd17cd", func := "dovetail/dovetaillaw10.PyspecMatches", spec := "pyspecMatches", inPlace := ["internal/bytealg.IndexByteString", "internal/bytealg.IndexString", "internal/bytealg.abigen_runtime_cmpstring"], unfollowed := true, recurses := true, named := ["internal/bytealg.MaxLen"], apart := false, narrowed := true }
def PyspecMatchesUptoSaid : Prop := pyspecMatchesUptoRow.holds Tryz.pinned (OpenSpec.upto pyspecMatchesSpec)

/-- 'dovetaillaw10.PyspecBack', WHERE WHAT IT READS IS OF BULK AT MOST 1048576: true; the input reads as it did. -/
def pyspecBackUptoRow : OpenClaim := { program := "ytabmfdedbpmfmaagreat", sum := "13a7fcf744cfec96fde79cd696f0270ee7c64fb881426a734e80eb3051cd17cd", func := "dovetail/dovetaillaw10.PyspecBack", spec := "pyspecBack", inPlace := ["internal/bytealg.IndexByteString", "internal/bytealg.IndexString", "internal/bytealg.abigen_runtime_cmpstring", "internal/abi.NoEscape", "internal/bytealg.MakeNoZero"], unfollowed := true, recurses := true, named := ["internal/bytealg.MaxLen"], apart := false, narrowed := true }
def PyspecBackUptoSaid : Prop := pyspecBackUptoRow.holds Tryz.pinned (OpenSpec.upto pyspecBackSpec)

/-- 'dovetaillaw10.PyspecBoth', WHERE WHAT IT READS IS OF BULK AT MOST 1048576: true; the input reads as it did. -/
def pyspecBothUptoRow : OpenClaim := { program := "ytabmfdedbpmfmaagreat", sum := "13a7fcf744cfec96fde79cd696f0270ee7c64fb881426a734e80eb3051cd17cd", func := "dovetail/dovetaillaw10.PyspecBoth", spec := "pyspecBoth", inPlace := ["internal/bytealg.IndexByteString", "internal/bytealg.IndexString", "internal/bytealg.abigen_runtime_cmpstring", "internal/abi.NoEscape", "internal/bytealg.MakeNoZero"], unfollowed := true, recurses := true, named := ["internal/bytealg.MaxLen"], apart := false, narrowed := true }
def PyspecBothUptoSaid : Prop := pyspecBothUptoRow.holds Tryz.pinned (OpenSpec.upto pyspecBothSpec)

/-- 'dovetaillaw10.PyspecBetween', WHERE WHAT IT READS IS OF BULK AT MOST 1048576: true; the input reads as it did. -/
def pyspecBetweenUptoRow : OpenClaim := { program := "ytabmfdedbpmfmaagreat", sum := "13a7fcf744cfec96fde79cd696f0270ee7c64fb881426a734e80eb3051cd17cd", func := "dovetail/dovetaillaw10.PyspecBetween", spec := "pyspecBetween", inPlace := ["internal/bytealg.IndexByteString", "internal/bytealg.IndexString", "internal/bytealg.abigen_runtime_cmpstring", "internal/abi.NoEscape", "internal/bytealg.MakeNoZero"], unfollowed := true, recurses := true, named := ["internal/bytealg.MaxLen"], apart := false, narrowed := true }
def PyspecBetweenUptoSaid : Prop := pyspecBetweenUptoRow.holds Tryz.pinned (OpenSpec.upto pyspecBetweenSpec)

end Rows
end Go.Proofs.YtabmfdedbpmfmaaGreat
