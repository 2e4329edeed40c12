/-
  Text and Order at any versions: the program and the document answer alike.
-/
import Derived.Test.YtagnikhkmaplpaaGreatZd
namespace Go.Proofs.YtagnikhkmaplpaaGreat
open Go.RowKit Go.Shelf
set_option linter.unusedVariables false

/-- A version's text, or none. -/
def textA (x : PepL) : List UInt8 := if fitR x = true then textP x else []
/-- The order of two, or none. -/
def ordA (x y : PepL) : Int := if fitR x = true then (if fitR y = true then ordP x y else 0) else 0
theorem Text_all (x : PepL) (r1 q1 : Option Addr) (c1 d1 : Nat) (w : World) (rr : Txt w (.slice r1 x.rel.length c1) x.rel) (ll : Txt w (.slice q1 x.loc.length d1) x.loc) (hx : lenP x ≤ 1048576) (k1 : x.rel.length ≤ c1) (k2 : x.loc.length ≤ d1) :
    Calls Tryz.prog 16 #[.agg #[.string (ofL x.ep), .slice r1 x.rel.length c1, .int .u8 x.c, .string (ofL x.n), .bool x.b, .string (ofL x.m), .bool x.d, .string (ofL x.k), .slice q1 x.loc.length d1]] w fun e w' => e = .returned (.string (ofL (textA x))) ∧ Below w.heap.size w w' := by
  unfold textA
  cases hf : fitR x
  · exact Text_no x r1 q1 c1 d1 w rr ll (mid_of x hx) hf
  · exact Text_any x r1 q1 c1 d1 w rr ll k1 k2 (small_mid x hx) (fit_of hf)
theorem RText_all (x : PepL) (r1 q1 : Option Addr) (c1 d1 : Nat) (w : World) (rr : Txt w (.slice r1 x.rel.length c1) x.rel) (ll : Txt w (.slice q1 x.loc.length d1) x.loc) (hx : lenP x ≤ 1048576) :
    Calls Tryz.prog 17 #[.agg #[.string (ofL x.ep), .slice r1 x.rel.length c1, .int .u8 x.c, .string (ofL x.n), .bool x.b, .string (ofL x.m), .bool x.d, .string (ofL x.k), .slice q1 x.loc.length d1]] w fun e w' => e = .returned (.string (ofL (textA x))) ∧ Below w.heap.size w w' := by
  unfold textA
  cases hf : fitR x
  · exact RText_no x r1 q1 c1 d1 w rr ll (mid_of x hx) hf
  · exact RText_any x r1 q1 c1 d1 w rr ll hx hf
theorem Order_all (x y : PepL) (r1 r2 q1 q2 : Option Addr) (c1 c2 d1 d2 : Nat) (w : World) (ra : Txt w (.slice r1 x.rel.length c1) x.rel) (rb : Txt w (.slice r2 y.rel.length c2) y.rel) (la : Txt w (.slice q1 x.loc.length d1) x.loc) (lb : Txt w (.slice q2 y.loc.length d2) y.loc) (hx : lenP x ≤ 1048576) (hy : lenP y ≤ 1048576) :
    Calls Tryz.prog 18 #[.agg #[.string (ofL x.ep), .slice r1 x.rel.length c1, .int .u8 x.c, .string (ofL x.n), .bool x.b, .string (ofL x.m), .bool x.d, .string (ofL x.k), .slice q1 x.loc.length d1], .agg #[.string (ofL y.ep), .slice r2 y.rel.length c2, .int .u8 y.c, .string (ofL y.n), .bool y.b, .string (ofL y.m), .bool y.d, .string (ofL y.k), .slice q2 y.loc.length d2]] w fun e w' => e = .returned (.int .i64 (ordA x y)) ∧ Below w.heap.size w w' := by
  unfold ordA
  cases fx : fitR x
  · exact Order_x x y r1 r2 q1 q2 c1 c2 d1 d2 w ra rb la lb (mid_of x hx) fx
  · cases fy : fitR y
    · exact Order_y x y r1 r2 q1 q2 c1 c2 d1 d2 w ra rb la lb (mid_of x hx) (mid_of y hy) fx fy
    · exact Order_o x y r1 r2 q1 q2 c1 c2 d1 d2 w ra rb la lb (mid_of x hx) (mid_of y hy) (small_mid x hx) (small_mid y hy) fx fy
theorem ROrder_all (x y : PepL) (r1 r2 q1 q2 : Option Addr) (c1 c2 d1 d2 : Nat) (w : World) (ra : Txt w (.slice r1 x.rel.length c1) x.rel) (rb : Txt w (.slice r2 y.rel.length c2) y.rel) (la : Txt w (.slice q1 x.loc.length d1) x.loc) (lb : Txt w (.slice q2 y.loc.length d2) y.loc) (hx : lenP x ≤ 1048576) (hy : lenP y ≤ 1048576) :
    Calls Tryz.prog 19 #[.agg #[.string (ofL x.ep), .slice r1 x.rel.length c1, .int .u8 x.c, .string (ofL x.n), .bool x.b, .string (ofL x.m), .bool x.d, .string (ofL x.k), .slice q1 x.loc.length d1], .agg #[.string (ofL y.ep), .slice r2 y.rel.length c2, .int .u8 y.c, .string (ofL y.n), .bool y.b, .string (ofL y.m), .bool y.d, .string (ofL y.k), .slice q2 y.loc.length d2]] w fun e w' => e = .returned (.int .i64 (ordA x y)) ∧ Below w.heap.size w w' := by
  unfold ordA
  cases fx : fitR x
  · exact ROrder_x x y r1 r2 q1 q2 c1 c2 d1 d2 w ra rb la lb (mid_of x hx) fx
  · cases fy : fitR y
    · exact ROrder_y x y r1 r2 q1 q2 c1 c2 d1 d2 w ra rb la lb (mid_of x hx) (mid_of y hy) fx fy
    · have h := ROrder_any x y r1 r2 q1 q2 c1 c2 d1 d2 w ra rb la lb (mid_of x hx) (mid_of y hy) fx fy
      rw [ord_same x y (fit_of fx) (fit_of fy)] at h
      exact h

end Go.Proofs.YtagnikhkmaplpaaGreat
