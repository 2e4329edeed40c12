/-
  NARROWER THAN 'FOR EVERY INPUT', by the rows' own cells (each row's printed sentence says how): MvnspecReads: laid · MvnspecDoes: laid · MvnspecOrder: laid.
  DERIVED. THE GIVEN ROWS OF THIS SEAT. 3 by the template 'for every input the law returns true; each argument reads behind the call as it read before'; 0 by the template 'total and deterministic' (their statements: YtpedljmpobhimaaGreatDoorTotals.lean).
  GIVEN WITH THE SEED: the statements are not yours to turn. If you find one false, say at which input.
  Laid BY PROGRAM, IN A SANDBOX (cutbox-rows.mjs): the forced cells as the released guide's own fill.sh prints them over the translation 100b0790b307c457… (all of the seat's roots in one cut). By AI agents, Wed Nov 11 2026. No macro, syntax, notation, axiom, sorry.
-/
import Derived.Test.YtpedljmpobhimaaGreatDoorChecked
import GoSem.Claim
import GoSem.ClaimJoined
import GoSem.ClaimMapViews
import Derived.JoinedTies
import Derived.KernelRfl
namespace Go.Proofs.YtpedljmpobhimaaGreatDoor
/- THE CELL 'sum', in the pinned program and in every row, IS THE sha256 OF THE DUMP (.gsa) THAT YtpedljmpobhimaaGreatDoorProg.lean LOADS. Nothing in Lean hashes anything: it is a label: what it is worth is what the hold of that sum in a sandbox is worth. -/
noncomputable def Tryz.pinned : Pinned := { name := "ytpedljmpobhimaagreatdoor", sum := "100b0790b307c4576af56d269f6d859486f0ed0e2e261dbbf5893291920ee526", checked := Tryz.checked }
namespace Rows
def none {H : Type} : Left H := { results := [], args := [] }

/- WHAT THE LISTED PACKAGE-LEVEL VARIABLES READ AS WHEN THE CALL BEGINS. Each datum BY PROGRAM (the guide's laid-datum.mjs) off the statement by which the dump's own 'gosem.cut.vars' lays the variable. In a bare row this is a premise. The card (YtpedljmpobhimaaGreatDoorCards.lean) ties it to the program's text. -/
def laid_dovetail_maven_known {H : Type} : DataW H := .agg [.lit (.string [97, 108, 112, 104, 97]), .lit (.string [98, 101, 116, 97]), .lit (.string [109, 105, 108, 101, 115, 116, 111, 110, 101]), .lit (.string [114, 99]), .lit (.string [115, 110, 97, 112, 115, 104, 111, 116]), .lit (.string []), .lit (.string [115, 112])]

/-- 'dovetaillaw09.MvnspecReads': WHATEVER THE INPUT: true; the input reads as it did. -/
def mvnspecReadsSpec : ChangeSpec := { name := "mvnspecReads", fn := fun _ => fun
  | [d1, d2] => { results := [.lit (.bool true)], args := [d1, d2] }
  | _ => none }
def mvnspecReadsRow : OpenClaim := { program := "ytpedljmpobhimaagreatdoor", sum := "100b0790b307c4576af56d269f6d859486f0ed0e2e261dbbf5893291920ee526", func := "dovetail/dovetaillaw09.MvnspecReads", spec := "mvnspecReads", inPlace := ["internal/bytealg.IndexByteString", "internal/bytealg.abigen_runtime_cmpstring", "internal/abi.NoEscape", "internal/bytealg.MakeNoZero"], unfollowed := true, recurses := true, named := ["dovetail/maven.known"], apart := false, laid := [("dovetail/maven.known", laid_dovetail_maven_known)] }
def MvnspecReadsSaid : Prop := mvnspecReadsRow.holds Tryz.pinned (OpenSpec.ofChange mvnspecReadsSpec)

/-- ITS FALSE NEIGHBOUR: 'it returns false'. Refute it at one input. -/
def mvnspecReadsWrong : ChangeSpec := { name := "mvnspecReads", fn := fun _ => fun
  | [d1, d2] => { results := [.lit (.bool false)], args := [d1, d2] }
  | _ => none }
def MvnspecReadsWrongFalsely : Prop := mvnspecReadsRow.holds Tryz.pinned (OpenSpec.ofChange mvnspecReadsWrong)

/-- 'dovetaillaw09.MvnspecDoes': WHATEVER THE INPUT: true; the input reads as it did. -/
def mvnspecDoesSpec : ChangeSpec := { name := "mvnspecDoes", fn := fun _ => fun
  | [d1, d2] => { results := [.lit (.bool true)], args := [d1, d2] }
  | _ => none }
def mvnspecDoesRow : OpenClaim := { program := "ytpedljmpobhimaagreatdoor", sum := "100b0790b307c4576af56d269f6d859486f0ed0e2e261dbbf5893291920ee526", func := "dovetail/dovetaillaw09.MvnspecDoes", spec := "mvnspecDoes", inPlace := ["internal/abi.NoEscape", "internal/bytealg.MakeNoZero", "internal/bytealg.IndexByteString", "internal/bytealg.abigen_runtime_cmpstring"], unfollowed := true, recurses := true, named := ["dovetail/maven.known"], apart := false, laid := [("dovetail/maven.known", laid_dovetail_maven_known)] }
def MvnspecDoesSaid : Prop := mvnspecDoesRow.holds Tryz.pinned (OpenSpec.ofChange mvnspecDoesSpec)

/-- ITS FALSE NEIGHBOUR: 'it returns false'. Refute it at one input. -/
def mvnspecDoesWrong : ChangeSpec := { name := "mvnspecDoes", fn := fun _ => fun
  | [d1, d2] => { results := [.lit (.bool false)], args := [d1, d2] }
  | _ => none }
def MvnspecDoesWrongFalsely : Prop := mvnspecDoesRow.holds Tryz.pinned (OpenSpec.ofChange mvnspecDoesWrong)

/-- 'dovetaillaw09.MvnspecOrder': WHATEVER THE INPUT: true; the input reads as it did. -/
def mvnspecOrderSpec : ChangeSpec := { name := "mvnspecOrder", fn := fun _ => fun
  | [d1, d2, d3, d4] => { results := [.lit (.bool true)], args := [d1, d2, d3, d4] }
  | _ => none }
def mvnspecOrderRow : OpenClaim := { program := "ytpedljmpobhimaagreatdoor", sum := "100b0790b307c4576af56d269f6d859486f0ed0e2e261dbbf5893291920ee526", func := "dovetail/dovetaillaw09.MvnspecOrder", spec := "mvnspecOrder", inPlace := ["internal/bytealg.IndexByteString", "internal/bytealg.abigen_runtime_cmpstring", "internal/abi.NoEscape", "internal/bytealg.MakeNoZero"], unfollowed := true, recurses := true, named := ["dovetail/maven.known"], apart := false, laid := [("dovetail/maven.known", laid_dovetail_maven_known)] }
def MvnspecOrderSaid : Prop := mvnspecOrderRow.holds Tryz.pinned (OpenSpec.ofChange mvnspecOrderSpec)

/-- ITS FALSE NEIGHBOUR: 'it returns false'. Refute it at one input. -/
def mvnspecOrderWrong : ChangeSpec := { name := "mvnspecOrder", fn := fun _ => fun
  | [d1, d2, d3, d4] => { results := [.lit (.bool false)], args := [d1, d2, d3, d4] }
  | _ => none }
def MvnspecOrderWrongFalsely : Prop := mvnspecOrderRow.holds Tryz.pinned (OpenSpec.ofChange mvnspecOrderWrong)

/- THE SECOND FORM. 'bulk': how many values and letters a reading holds, each counted each time it is reached (what is shared counts as often as it is met; a slice's spare places count too). A statement '..UptoSaid' is the law's where the arguments, and the package variables that the reading takes, are together of bulk at most 1048576: NARROWER than '..Said'. Prove '..Said' where nothing that the law and all that it calls make is longer than what came in: it says more and counts as full. Else prove '..UptoSaid'. A law counts once. -/
mutual
def uptoBulk {H : Type} : DataW H → Nat
  | .lit (.string bytes) => bytes.length + 1
  | .lit _ => 1
  | .nil => 1
  | .ptr d => uptoBulk d + 1
  | .slice elems spare => uptoBulkAll elems + uptoBulkAll spare + 1
  | .agg parts => uptoBulkAll parts + 1
  | .iface _ d => uptoBulk d + 1
  | .map entries => uptoBulkEntries entries + 1
  | .held _ => 1
def uptoBulkAll {H : Type} : List (DataW H) → Nat
  | [] => 0
  | d :: r => uptoBulk d + uptoBulkAll r
def uptoBulkEntries {H : Type} : List (Lit × DataW H) → Nat
  | [] => 0
  | x :: r => uptoBulkEntry x + uptoBulkEntries r
def uptoBulkEntry {H : Type} : Lit × DataW H → Nat
  | (.string bytes, d) => bytes.length + uptoBulk d + 1
  | (_, d) => uptoBulk d + 1
 end
def uptoSmall : (H : Type) → List (DataW H) → Bool := fun _ ds => decide (uptoBulkAll ds ≤ 1048576)
def OpenSpec.upto (s : _root_.Go.ChangeSpec) : _root_.Go.OpenSpec := { _root_.Go.OpenSpec.ofChange s with cond := some uptoSmall }

/-- 'dovetaillaw09.MvnspecReads', WHERE WHAT IT READS IS OF BULK AT MOST 1048576: true; the input reads as it did. -/
def mvnspecReadsUptoRow : OpenClaim := { program := "ytpedljmpobhimaagreatdoor", sum := "100b0790b307c4576af56d269f6d859486f0ed0e2e261dbbf5893291920ee526", func := "dovetail/dovetaillaw09.MvnspecReads", spec := "mvnspecReads", inPlace := ["internal/bytealg.IndexByteString", "internal/bytealg.abigen_runtime_cmpstring", "internal/abi.NoEscape", "internal/bytealg.MakeNoZero"], unfollowed := true, recurses := true, named := ["dovetail/maven.known"], apart := false, laid := [("dovetail/maven.known", laid_dovetail_maven_known)], narrowed := true }
def MvnspecReadsUptoSaid : Prop := mvnspecReadsUptoRow.holds Tryz.pinned (OpenSpec.upto mvnspecReadsSpec)

/-- 'dovetaillaw09.MvnspecDoes', WHERE WHAT IT READS IS OF BULK AT MOST 1048576: true; the input reads as it did. -/
def mvnspecDoesUptoRow : OpenClaim := { program := "ytpedljmpobhimaagreatdoor", sum := "100b0790b307c4576af56d269f6d859486f0ed0e2e261dbbf5893291920ee526", func := "dovetail/dovetaillaw09.MvnspecDoes", spec := "mvnspecDoes", inPlace := ["internal/abi.NoEscape", "internal/bytealg.MakeNoZero", "internal/bytealg.IndexByteString", "internal/bytealg.abigen_runtime_cmpstring"], unfollowed := true, recurses := true, named := ["dovetail/maven.known"], apart := false, laid := [("dovetail/maven.known", laid_dovetail_maven_known)], narrowed := true }
def MvnspecDoesUptoSaid : Prop := mvnspecDoesUptoRow.holds Tryz.pinned (OpenSpec.upto mvnspecDoesSpec)

/-- 'dovetaillaw09.MvnspecOrder', WHERE WHAT IT READS IS OF BULK AT MOST 1048576: true; the input reads as it did. -/
def mvnspecOrderUptoRow : OpenClaim := { program := "ytpedljmpobhimaagreatdoor", sum := "100b0790b307c4576af56d269f6d859486f0ed0e2e261dbbf5893291920ee526", func := "dovetail/dovetaillaw09.MvnspecOrder", spec := "mvnspecOrder", inPlace := ["internal/bytealg.IndexByteString", "internal/bytealg.abigen_runtime_cmpstring", "internal/abi.NoEscape", "internal/bytealg.MakeNoZero"], unfollowed := true, recurses := true, named := ["dovetail/maven.known"], apart := false, laid := [("dovetail/maven.known", laid_dovetail_maven_known)], narrowed := true }
def MvnspecOrderUptoSaid : Prop := mvnspecOrderUptoRow.holds Tryz.pinned (OpenSpec.upto mvnspecOrderSpec)

end Rows
end Go.Proofs.YtpedljmpobhimaaGreatDoor
