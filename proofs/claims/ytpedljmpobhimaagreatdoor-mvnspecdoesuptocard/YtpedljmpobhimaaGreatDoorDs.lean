/-
  Walks: the document's look at two rows of tokens.
-/
import Derived.Test.YtpedljmpobhimaaGreatDoorDn
namespace Go.Proofs.YtpedljmpobhimaaGreatDoor
open Go.RowKit Go.Shelf
set_option linter.unusedVariables false

end Go.Proofs.YtpedljmpobhimaaGreatDoor
