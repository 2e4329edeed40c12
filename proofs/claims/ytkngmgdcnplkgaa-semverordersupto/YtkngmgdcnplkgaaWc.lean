/-
  Walks: small letters, and digits out of any bytes.
-/
import Derived.Test.YtkngmgdcnplkgaaWb
import Derived.Test.YtkngmgdcnplkgaaBys
namespace Go.Proofs.Ytkngmgdcnplkgaa
open Go.RowKit

theorem add32 (c : UInt8) (h : (c.toNat : Int) ≤ 90) : ((c.toNat : Int) - 65 + 97) = ((c + 32).toNat : Int) := by
  have : (c + 32).toNat = (c.toNat + 32) % 256 := UInt8.toNat_add c 32
  omega
theorem add32' (c : UInt8) (h : (c.toNat : Int) ≤ 90) : ((c.toNat : Int) + 32) = ((c + 32).toNat : Int) := by
  have : (c + 32).toNat = (c.toNat + 32) % 256 := UInt8.toNat_add c 32
  omega
theorem dig10 (c : UInt8) : (48 + (c.toNat : Int) % 10) = ((digC c).toNat : Int) := by
  have h1 : (digC c).toNat = (48 + (c % 10).toNat) % 256 := UInt8.toNat_add 48 (c % 10)
  have h2 : (c % 10).toNat = c.toNat % 10 := UInt8.toNat_mod c 10
  omega

end Go.Proofs.Ytkngmgdcnplkgaa
