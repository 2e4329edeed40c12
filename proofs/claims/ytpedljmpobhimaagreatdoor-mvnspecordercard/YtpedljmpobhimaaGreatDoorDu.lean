/-
  Walks: tokens that are a version's.
-/
import Derived.Test.YtpedljmpobhimaaGreatDoorDs
import Derived.Test.YtpedljmpobhimaaGreatDoorLc
namespace Go.Proofs.YtpedljmpobhimaaGreatDoor
open Go.RowKit Go.Shelf
set_option linter.unusedVariables false

end Go.Proofs.YtpedljmpobhimaaGreatDoor
