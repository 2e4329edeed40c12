/-
  Walks: chapter 2's examples. · The walk of SemverBack.
-/
import Derived.Test.YtaflflelcdcanaaGreatZSg
import Derived.Test.YtaflflelcdcanaaGreatZFe
import Derived.Test.YtaflflelcdcanaaGreatZPlainV
import Derived.Test.YtaflflelcdcanaaGreatZRi
namespace Go.Proofs.YtaflflelcdcanaaGreat
open Go.RowKit Go.Shelf
set_option linter.unusedVariables false

def exCells : Array Value := #[.string ⟨#[49, 46, 48, 46, 48, 45, 97, 108, 112, 104, 97]⟩, .string ⟨#[49, 46, 48, 46, 48, 45, 97, 108, 112, 104, 97, 46, 49]⟩, .string ⟨#[49, 46, 48, 46, 48, 45, 97, 108, 112, 104, 97, 46, 98, 101, 116, 97]⟩, .string ⟨#[49, 46, 48, 46, 48, 45, 98, 101, 116, 97]⟩, .string ⟨#[49, 46, 48, 46, 48, 45, 98, 101, 116, 97, 46, 50]⟩, .string ⟨#[49, 46, 48, 46, 48, 45, 98, 101, 116, 97, 46, 49, 49]⟩, .string ⟨#[49, 46, 48, 46, 48, 45, 114, 99, 46, 49]⟩, .string ⟨#[49, 46, 48, 46, 48]⟩]
theorem ex_cell (k : Nat) (h : k < 8) : exCells[k]? = some (.string (ofL (exs.getD k []))) := by
  match k, h with
  | 0, _ => rfl
  | 1, _ => rfl
  | 2, _ => rfl
  | 3, _ => rfl
  | 4, _ => rfl
  | 5, _ => rfl
  | 6, _ => rfl
  | 7, _ => rfl

end Go.Proofs.YtaflflelcdcanaaGreat

namespace Go.Proofs.YtaflflelcdcanaaGreat
open Go.RowKit Go.Shelf
set_option linter.unusedVariables false

theorem cap_row {W : World} {base : Nat} {e : TypeId} {size : Nat} {v : Value} {k : Nat} {xs : List Value} (h : W.ownsRow base e size v k xs) : Cap v := by
  rintro a n c rfl
  rcases h.2 with ⟨h1, _⟩ | ⟨g, cap, cur, h1, _, _, h2, _⟩
  · cases h1; exact Nat.le_refl _
  · cases h1; exact h2
theorem cap_nil : Cap (.slice none 0 0) := by
  rintro a n c h; cases h; exact Nat.le_refl _
theorem capS_mk {a b c p q : Value} (hp : Cap p) (hq : Cap q) : CapS (.agg #[a, b, c, p, q]) := by
  rintro a' b' c' p' q' h
  cases h
  exact ⟨hp, hq⟩

theorem Parse_three (PA : ∀ (s : ByteArray) (w : World), s.size ≤ 64 → Calls Tryz.prog 39 #[.string s] w (PPost s w)) (s : ByteArray) (w : World) :
    Calls Tryz.prog 39 #[.string s] w fun e w' => Below w.heap.size w w' ∧ ∃ v, e = .returned (.tuple #[v, .agg #[.int .i64 (fauP s.data.toList).1, .int .i64 ((fauP s.data.toList).2 : Int)]]) ∧ SemF w.heap.size w' v (semP s.data.toList) ∧ CapS v := by
  by_cases hs : s.size ≤ 64
  · refine (PA s w hs).mono ?_
    rintro e w' ⟨hb, h⟩
    refine ⟨hb, ?_⟩
    unfold fauP semP
    cases hp : parseR s.data.toList with
    | error x => rw [hp] at h; exact ⟨_, h, semN_at _ w', capS_mk cap_nil cap_nil⟩
    | ok c =>
      rw [hp] at h
      obtain ⟨vp, vb, he, h1, h2⟩ := h
      refine ⟨_, he, ⟨vp, vb, ?_, txt_of_row h1, txt_of_row h2, fresh_row h1, fresh_row h2⟩, capS_mk (cap_row h1) (cap_row h2)⟩
      simp only [semV, semOf, extract_seg]
  · refine (Parse_long s w hs).mono ?_
    rintro e w' ⟨hb, he⟩
    refine ⟨hb, ?_⟩
    have hp : parseR s.data.toList = .error (12, 64) := by unfold parseR; rw [len_data, if_pos (by omega)]
    unfold fauP semP
    rw [hp]
    exact ⟨_, he, semN_at _ w', capS_mk cap_nil cap_nil⟩

/-- What is read is written as it stood. -/
theorem fmt_read (l : List UInt8) (h : (fauP l).1 = 0) : fmtL (semP l) = l := by
  unfold fauP at h
  unfold semP fmtL
  cases hp : parseR l with
  | error y => rw [hp] at h; exact absurd h (parse_err hp)
  | ok c =>
    simp only
    rw [(parse_fit hp).1, if_pos rfl, parse_text hp]
theorem read_fmt (x : SemL) (hs : lenS x ≤ 1048576) (hf : fitW x = true) : semP (textL x) = x ∧ fauP (textL x) = (0, 0) := by
  obtain ⟨c, h1, h2⟩ := text_parse x hs hf
  unfold semP fauP
  rw [h1]
  exact ⟨h2, rfl⟩

end Go.Proofs.YtaflflelcdcanaaGreat
