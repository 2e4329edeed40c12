/-
  Walks: the next number, in the program and in the document's answer.
-/
import Derived.Test.YtagnikhkmaplpaaGreatWc
import Derived.Test.YtagnikhkmaplpaaGreatPlainB
namespace Go.Proofs.YtagnikhkmaplpaaGreat
open Go.RowKit

theorem cons_text (c : UInt8) (l : List UInt8) : (⟨#[c]⟩ : ByteArray) ++ ofL l = ofL (c :: l) := by
  apply ba_ext
  rw [ofL_data, ByteArray.data_append]
  simp [ofL]
theorem inc1 (c : UInt8) (h : (c.toNat : Int) < 57) : ((c.toNat : Int) + 1) = ((c + 1).toNat : Int) := by
  have : (c + 1).toNat = (c.toNat + 1) % 256 := UInt8.toNat_add c 1
  omega

end Go.Proofs.YtagnikhkmaplpaaGreat
