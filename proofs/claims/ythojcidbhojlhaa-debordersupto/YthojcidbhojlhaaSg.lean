/-
  Walks: two ranges merged: they are parted, turned and merged each for itself.
-/
import Derived.Test.YthojcidbhojlhaaSe
import Derived.Test.YthojcidbhojlhaaSf
namespace Go.Proofs.Ythojcidbhojlhaa
open Go.RowKit Go.Shelf
set_option linter.unusedVariables false

theorem zg_l {α : Type} (P L R S : List α) (q : Nat) (h : q < L.length) : (P ++ (L ++ (R ++ S)))[P.length + q]? = L[q]? := by
  rw [List.getElem?_append_right (by omega), show P.length + q - P.length = q by omega, List.getElem?_append_left h]
theorem zg_r {α : Type} (P L R S : List α) (q : Nat) (h : q < R.length) : (P ++ (L ++ (R ++ S)))[P.length + L.length + q]? = R[q]? := by
  rw [List.getElem?_append_right (by omega), show P.length + L.length + q - P.length = L.length + q by omega, List.getElem?_append_right (by omega), show L.length + q - L.length = q by omega, List.getElem?_append_left h]

/-- What a smaller merge does. -/
def SymIH {α : Type} (E : Cel α) (f : α → α → Int) (cb : Value) (w0 : World) (B N M : Nat) : Prop :=
  ∀ (P L R S : List α) (a m b : Nat), P.length = a → a + L.length = m → m + R.length = b → (P ++ (L ++ (R ++ S))).length = N → Srt f L → Srt f R → 0 < L.length → 0 < R.length → L.length + R.length < M → ∀ w, DW E w0 B (P ++ (L ++ (R ++ S))) w →
    Calls Try.prog 74 #[.slice (some ⟨B, 0, none⟩) N N, .int .i64 (a : Int), .int .i64 (m : Int), .int .i64 (b : Int), .func (.func 64) #[] #[cb]] w fun e w' => e = .returned (.tuple #[]) ∧ DW E w0 B (P ++ (mrg f L R ++ S)) w'

/-- What is left to do behind the search. -/
def SymEnd {α : Type} (E : Cel α) (w0 : World) (B : Nat) (T : List α) (Ω : Ending → World → Prop) : Prop := ∀ w, DW E w0 B T w → Ω (.returned (.tuple #[])) w


end Go.Proofs.Ythojcidbhojlhaa
