/-
  No cell of these rows narrows 'for every input' (looked for: loops, veiled, ifaces, maps, wideKeys, modest, calm, conditions, laid).
  DERIVED. THE GIVEN ROWS OF THIS SEAT. 5 by the template 'for every input the law returns true; each argument reads behind the call as it read before'; 0 by the template 'total and deterministic' (their statements: YtmcabgjcppnihaaTotals.lean).
  GIVEN WITH THE SEED: the statements are not yours to turn. If you find one false, say at which input.
  Laid BY PROGRAM, IN A SANDBOX (cutbox-rows.mjs): the forced cells as the released guide's own fill.sh prints them over the translation b317af76fbc114c2… (all of the seat's roots in one cut). By AI agents, Wed Nov 11 2026. No macro, syntax, notation, axiom, sorry.
-/
import Derived.Test.YtmcabgjcppnihaaChecked
import GoSem.Claim
import GoSem.ClaimJoined
import GoSem.ClaimMapViews
import Derived.JoinedTies
import Derived.KernelRfl
namespace Go.Proofs.Ytmcabgjcppnihaa
/- THE CELL 'sum', in the pinned program and in every row, IS THE sha256 OF THE DUMP (.gsa) THAT YtmcabgjcppnihaaProg.lean LOADS. Nothing in Lean hashes anything: it is a label: what it is worth is what the hold of that sum in a sandbox is worth. -/
noncomputable def Try.pinned : Pinned := { name := "ytmcabgjcppnihaa", sum := "b317af76fbc114c222863b871b219d6055f3c80182468454be22e472cd29504d", checked := Try.checked }
namespace Rows
def none {H : Type} : Left H := { results := [], args := [] }

/-- 'dovetaillaw05.RpmReads': WHATEVER THE INPUT: true; the input reads as it did. -/
def rpmReadsSpec : ChangeSpec := { name := "rpmReads", fn := fun _ => fun
  | [d1, d2] => { results := [.lit (.bool true)], args := [d1, d2] }
  | _ => none }
def rpmReadsRow : OpenClaim := { program := "ytmcabgjcppnihaa", sum := "b317af76fbc114c222863b871b219d6055f3c80182468454be22e472cd29504d", func := "dovetail/dovetaillaw05.RpmReads", spec := "rpmReads", inPlace := ["internal/bytealg.IndexByteString", "internal/bytealg.abigen_runtime_cmpstring"], unfollowed := true, recurses := true, apart := false }
def RpmReadsSaid : Prop := rpmReadsRow.holds Try.pinned (OpenSpec.ofChange rpmReadsSpec)

/-- ITS FALSE NEIGHBOUR: 'it returns false'. Refute it at one input. -/
def rpmReadsWrong : ChangeSpec := { name := "rpmReads", fn := fun _ => fun
  | [d1, d2] => { results := [.lit (.bool false)], args := [d1, d2] }
  | _ => none }
def RpmReadsWrongFalsely : Prop := rpmReadsRow.holds Try.pinned (OpenSpec.ofChange rpmReadsWrong)

/-- 'dovetaillaw05.RpmDoes': WHATEVER THE INPUT: true; the input reads as it did. -/
def rpmDoesSpec : ChangeSpec := { name := "rpmDoes", fn := fun _ => fun
  | [d1, d2] => { results := [.lit (.bool true)], args := [d1, d2] }
  | _ => none }
def rpmDoesRow : OpenClaim := { program := "ytmcabgjcppnihaa", sum := "b317af76fbc114c222863b871b219d6055f3c80182468454be22e472cd29504d", func := "dovetail/dovetaillaw05.RpmDoes", spec := "rpmDoes", inPlace := ["internal/bytealg.IndexByteString", "internal/bytealg.abigen_runtime_cmpstring"], unfollowed := true, recurses := true, apart := false }
def RpmDoesSaid : Prop := rpmDoesRow.holds Try.pinned (OpenSpec.ofChange rpmDoesSpec)

/-- ITS FALSE NEIGHBOUR: 'it returns false'. Refute it at one input. -/
def rpmDoesWrong : ChangeSpec := { name := "rpmDoes", fn := fun _ => fun
  | [d1, d2] => { results := [.lit (.bool false)], args := [d1, d2] }
  | _ => none }
def RpmDoesWrongFalsely : Prop := rpmDoesRow.holds Try.pinned (OpenSpec.ofChange rpmDoesWrong)

/-- 'dovetaillaw05.RpmOrder': WHATEVER THE INPUT: true; the input reads as it did. -/
def rpmOrderSpec : ChangeSpec := { name := "rpmOrder", fn := fun _ => fun
  | [d1, d2, d3] => { results := [.lit (.bool true)], args := [d1, d2, d3] }
  | _ => none }
def rpmOrderRow : OpenClaim := { program := "ytmcabgjcppnihaa", sum := "b317af76fbc114c222863b871b219d6055f3c80182468454be22e472cd29504d", func := "dovetail/dovetaillaw05.RpmOrder", spec := "rpmOrder", inPlace := ["internal/bytealg.abigen_runtime_cmpstring", "internal/bytealg.IndexByteString"], unfollowed := true, recurses := true, apart := false }
def RpmOrderSaid : Prop := rpmOrderRow.holds Try.pinned (OpenSpec.ofChange rpmOrderSpec)

/-- ITS FALSE NEIGHBOUR: 'it returns false'. Refute it at one input. -/
def rpmOrderWrong : ChangeSpec := { name := "rpmOrder", fn := fun _ => fun
  | [d1, d2, d3] => { results := [.lit (.bool false)], args := [d1, d2, d3] }
  | _ => none }
def RpmOrderWrongFalsely : Prop := rpmOrderRow.holds Try.pinned (OpenSpec.ofChange rpmOrderWrong)

/-- 'dovetaillaw05.RpmBack': WHATEVER THE INPUT: true; the input reads as it did. -/
def rpmBackSpec : ChangeSpec := { name := "rpmBack", fn := fun _ => fun
  | [d1, d2] => { results := [.lit (.bool true)], args := [d1, d2] }
  | _ => none }
def rpmBackRow : OpenClaim := { program := "ytmcabgjcppnihaa", sum := "b317af76fbc114c222863b871b219d6055f3c80182468454be22e472cd29504d", func := "dovetail/dovetaillaw05.RpmBack", spec := "rpmBack", inPlace := ["internal/bytealg.IndexByteString", "internal/bytealg.abigen_runtime_cmpstring"], unfollowed := true, recurses := true, apart := false }
def RpmBackSaid : Prop := rpmBackRow.holds Try.pinned (OpenSpec.ofChange rpmBackSpec)

/-- ITS FALSE NEIGHBOUR: 'it returns false'. Refute it at one input. -/
def rpmBackWrong : ChangeSpec := { name := "rpmBack", fn := fun _ => fun
  | [d1, d2] => { results := [.lit (.bool false)], args := [d1, d2] }
  | _ => none }
def RpmBackWrongFalsely : Prop := rpmBackRow.holds Try.pinned (OpenSpec.ofChange rpmBackWrong)

/-- 'dovetaillaw05.RpmSigns': WHATEVER THE INPUT: true; the input reads as it did. -/
def rpmSignsSpec : ChangeSpec := { name := "rpmSigns", fn := fun _ => fun
  | [d1, d2] => { results := [.lit (.bool true)], args := [d1, d2] }
  | _ => none }
def rpmSignsRow : OpenClaim := { program := "ytmcabgjcppnihaa", sum := "b317af76fbc114c222863b871b219d6055f3c80182468454be22e472cd29504d", func := "dovetail/dovetaillaw05.RpmSigns", spec := "rpmSigns", inPlace := ["internal/bytealg.IndexByteString", "internal/bytealg.abigen_runtime_cmpstring"], unfollowed := true, recurses := true, apart := false }
def RpmSignsSaid : Prop := rpmSignsRow.holds Try.pinned (OpenSpec.ofChange rpmSignsSpec)

/-- ITS FALSE NEIGHBOUR: 'it returns false'. Refute it at one input. -/
def rpmSignsWrong : ChangeSpec := { name := "rpmSigns", fn := fun _ => fun
  | [d1, d2] => { results := [.lit (.bool false)], args := [d1, d2] }
  | _ => none }
def RpmSignsWrongFalsely : Prop := rpmSignsRow.holds Try.pinned (OpenSpec.ofChange rpmSignsWrong)

/- THE SECOND FORM. 'bulk': how many values and letters a reading holds, each counted each time it is reached (what is shared counts as often as it is met; a slice's spare places count too). A statement '..UptoSaid' is the law's where the arguments, and the package variables that the reading takes, are together of bulk at most 1048576: NARROWER than '..Said'. Prove '..Said' where nothing that the law and all that it calls make is longer than what came in: it says more and counts as full. Else prove '..UptoSaid'. A law counts once. -/
mutual
def uptoBulk {H : Type} : DataW H → Nat
  | .lit (.string bytes) => bytes.length + 1
  | .lit _ => 1
  | .nil => 1
  | .ptr d => uptoBulk d + 1
  | .slice elems spare => uptoBulkAll elems + uptoBulkAll spare + 1
  | .agg parts => uptoBulkAll parts + 1
  | .iface _ d => uptoBulk d + 1
  | .map entries => uptoBulkEntries entries + 1
  | .held _ => 1
def uptoBulkAll {H : Type} : List (DataW H) → Nat
  | [] => 0
  | d :: r => uptoBulk d + uptoBulkAll r
def uptoBulkEntries {H : Type} : List (Lit × DataW H) → Nat
  | [] => 0
  | x :: r => uptoBulkEntry x + uptoBulkEntries r
def uptoBulkEntry {H : Type} : Lit × DataW H → Nat
  | (.string bytes, d) => bytes.length + uptoBulk d + 1
  | (_, d) => uptoBulk d + 1
 end
def uptoSmall : (H : Type) → List (DataW H) → Bool := fun _ ds => decide (uptoBulkAll ds ≤ 1048576)
def OpenSpec.upto (s : _root_.Go.ChangeSpec) : _root_.Go.OpenSpec := { _root_.Go.OpenSpec.ofChange s with cond := some uptoSmall }

/-- 'dovetaillaw05.RpmReads', WHERE WHAT IT READS IS OF BULK AT MOST 1048576: true; the input reads as it did. -/
def rpmReadsUptoRow : OpenClaim := { program := "ytmcabgjcppnihaa", sum := "b317af76fbc114c222863b871b219d6055f3c80182468454be22e472cd29504d", func := "dovetail/dovetaillaw05.RpmReads", spec := "rpmReads", inPlace := ["internal/bytealg.IndexByteString", "internal/bytealg.abigen_runtime_cmpstring"], unfollowed := true, recurses := true, apart := false, narrowed := true }
def RpmReadsUptoSaid : Prop := rpmReadsUptoRow.holds Try.pinned (OpenSpec.upto rpmReadsSpec)

/-- 'dovetaillaw05.RpmDoes', WHERE WHAT IT READS IS OF BULK AT MOST 1048576: true; the input reads as it did. -/
def rpmDoesUptoRow : OpenClaim := { program := "ytmcabgjcppnihaa", sum := "b317af76fbc114c222863b871b219d6055f3c80182468454be22e472cd29504d", func := "dovetail/dovetaillaw05.RpmDoes", spec := "rpmDoes", inPlace := ["internal/bytealg.IndexByteString", "internal/bytealg.abigen_runtime_cmpstring"], unfollowed := true, recurses := true, apart := false, narrowed := true }
def RpmDoesUptoSaid : Prop := rpmDoesUptoRow.holds Try.pinned (OpenSpec.upto rpmDoesSpec)

/-- 'dovetaillaw05.RpmOrder', WHERE WHAT IT READS IS OF BULK AT MOST 1048576: true; the input reads as it did. -/
def rpmOrderUptoRow : OpenClaim := { program := "ytmcabgjcppnihaa", sum := "b317af76fbc114c222863b871b219d6055f3c80182468454be22e472cd29504d", func := "dovetail/dovetaillaw05.RpmOrder", spec := "rpmOrder", inPlace := ["internal/bytealg.abigen_runtime_cmpstring", "internal/bytealg.IndexByteString"], unfollowed := true, recurses := true, apart := false, narrowed := true }
def RpmOrderUptoSaid : Prop := rpmOrderUptoRow.holds Try.pinned (OpenSpec.upto rpmOrderSpec)

/-- 'dovetaillaw05.RpmBack', WHERE WHAT IT READS IS OF BULK AT MOST 1048576: true; the input reads as it did. -/
def rpmBackUptoRow : OpenClaim := { program := "ytmcabgjcppnihaa", sum := "b317af76fbc114c222863b871b219d6055f3c80182468454be22e472cd29504d", func := "dovetail/dovetaillaw05.RpmBack", spec := "rpmBack", inPlace := ["internal/bytealg.IndexByteString", "internal/bytealg.abigen_runtime_cmpstring"], unfollowed := true, recurses := true, apart := false, narrowed := true }
def RpmBackUptoSaid : Prop := rpmBackUptoRow.holds Try.pinned (OpenSpec.upto rpmBackSpec)

/-- 'dovetaillaw05.RpmSigns', WHERE WHAT IT READS IS OF BULK AT MOST 1048576: true; the input reads as it did. -/
def rpmSignsUptoRow : OpenClaim := { program := "ytmcabgjcppnihaa", sum := "b317af76fbc114c222863b871b219d6055f3c80182468454be22e472cd29504d", func := "dovetail/dovetaillaw05.RpmSigns", spec := "rpmSigns", inPlace := ["internal/bytealg.IndexByteString", "internal/bytealg.abigen_runtime_cmpstring"], unfollowed := true, recurses := true, apart := false, narrowed := true }
def RpmSignsUptoSaid : Prop := rpmSignsUptoRow.holds Try.pinned (OpenSpec.upto rpmSignsSpec)

end Rows
end Go.Proofs.Ytmcabgjcppnihaa
