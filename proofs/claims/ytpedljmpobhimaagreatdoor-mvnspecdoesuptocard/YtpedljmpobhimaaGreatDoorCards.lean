/-
  DERIVED. GIVEN WITH THE SEED: THE CARDS: each row of YtpedljmpobhimaaGreatDoorRows.lean that lists a variable, with what it lists TIED to the program's text (the seventh form; the later family's looks); each row that meets fmt, with fmt's text TOLD by the authors' own Lean function (tested against real Go, not proved from fmt's source: count such statements apart). THE CARD IS WHAT COUNTS. Prove the row's statement (the work); the ties are given (YtpedljmpobhimaaGreatDoorTie.lean); close each card by the builder's one call (the guide's Derived/Test/ToyasCard.lean, 'card_holds'). Laid BY PROGRAM, IN A SANDBOX (cutbox-door.mjs). By AI agents, Wed Nov 11 2026. No macro, syntax, notation, axiom, sorry.
-/
import Derived.Test.YtpedljmpobhimaaGreatDoorRows
import GoSem.ClaimSeven
namespace Go.Proofs.YtpedljmpobhimaaGreatDoor
namespace Rows

/-- THE TIED CARD OF 'dovetaillaw09.MvnspecReads'. -/
def mvnspecReadsCard : Claim7 := { stood := { row := mvnspecReadsRow, standIns := [], harness := (true, "2d1d4f4344d59f3f49697c2efb5e1015fbd8183d16a3ebbe8f89dfce0cd9d6cc"), looks := false }, kinds := [], alts := [], laidByText := true, laidKinds := [.data], laidTests := true, laidLooks := .later }
def MvnspecReadsCardSaid : Prop := Claim7.holds Tryz.pinned (.plain (OpenSpec.ofChange mvnspecReadsSpec)) mvnspecReadsCard

/-- THE TIED CARD OF 'dovetaillaw09.MvnspecDoes'. -/
def mvnspecDoesCard : Claim7 := { stood := { row := mvnspecDoesRow, standIns := [], harness := (true, "2d1d4f4344d59f3f49697c2efb5e1015fbd8183d16a3ebbe8f89dfce0cd9d6cc"), looks := false }, kinds := [], alts := [], laidByText := true, laidKinds := [.data], laidTests := true, laidLooks := .later }
def MvnspecDoesCardSaid : Prop := Claim7.holds Tryz.pinned (.plain (OpenSpec.ofChange mvnspecDoesSpec)) mvnspecDoesCard

/-- THE TIED CARD OF 'dovetaillaw09.MvnspecOrder'. -/
def mvnspecOrderCard : Claim7 := { stood := { row := mvnspecOrderRow, standIns := [], harness := (true, "2d1d4f4344d59f3f49697c2efb5e1015fbd8183d16a3ebbe8f89dfce0cd9d6cc"), looks := false }, kinds := [], alts := [], laidByText := true, laidKinds := [.data], laidTests := true, laidLooks := .later }
def MvnspecOrderCardSaid : Prop := Claim7.holds Tryz.pinned (.plain (OpenSpec.ofChange mvnspecOrderSpec)) mvnspecOrderCard

/-- THE SECOND FORM's CARD OF 'dovetaillaw09.MvnspecReads'. -/
def mvnspecReadsUptoCard : Claim7 := { stood := { row := mvnspecReadsUptoRow, standIns := [], harness := (true, "2d1d4f4344d59f3f49697c2efb5e1015fbd8183d16a3ebbe8f89dfce0cd9d6cc"), looks := false }, kinds := [], alts := [], laidByText := true, laidKinds := [.data], laidTests := true, laidLooks := .later }
def MvnspecReadsUptoCardSaid : Prop := Claim7.holds Tryz.pinned (.plain (OpenSpec.upto mvnspecReadsSpec)) mvnspecReadsUptoCard

/-- THE SECOND FORM's CARD OF 'dovetaillaw09.MvnspecDoes'. -/
def mvnspecDoesUptoCard : Claim7 := { stood := { row := mvnspecDoesUptoRow, standIns := [], harness := (true, "2d1d4f4344d59f3f49697c2efb5e1015fbd8183d16a3ebbe8f89dfce0cd9d6cc"), looks := false }, kinds := [], alts := [], laidByText := true, laidKinds := [.data], laidTests := true, laidLooks := .later }
def MvnspecDoesUptoCardSaid : Prop := Claim7.holds Tryz.pinned (.plain (OpenSpec.upto mvnspecDoesSpec)) mvnspecDoesUptoCard

/-- THE SECOND FORM's CARD OF 'dovetaillaw09.MvnspecOrder'. -/
def mvnspecOrderUptoCard : Claim7 := { stood := { row := mvnspecOrderUptoRow, standIns := [], harness := (true, "2d1d4f4344d59f3f49697c2efb5e1015fbd8183d16a3ebbe8f89dfce0cd9d6cc"), looks := false }, kinds := [], alts := [], laidByText := true, laidKinds := [.data], laidTests := true, laidLooks := .later }
def MvnspecOrderUptoCardSaid : Prop := Claim7.holds Tryz.pinned (.plain (OpenSpec.upto mvnspecOrderSpec)) mvnspecOrderUptoCard
end Rows
end Go.Proofs.YtpedljmpobhimaaGreatDoor
