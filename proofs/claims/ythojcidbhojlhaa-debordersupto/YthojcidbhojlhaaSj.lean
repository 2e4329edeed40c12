/-
  Walks: the stable sort of a row of structs.
-/
import Derived.Test.YthojcidbhojlhaaSh
import Derived.Test.YthojcidbhojlhaaSi
namespace Go.Proofs.Ythojcidbhojlhaa
open Go.RowKit Go.Shelf
set_option linter.unusedVariables false

theorem sym_all {α : Type} (E : Cel α) (f : α → α → Int) (hf : Cmp3 f) (cb : Value) (w0 : World) (B N : Nat) (HC : CmpG E f cb w0 B) (hl : N ≤ 1152921504606846976) : ∀ M, SymIH E f cb w0 B N M
  | 0 => fun P L R S a m b _ _ _ _ _ _ _ _ h => by omega
  | M + 1 => fun P L R S a m b ha hm hb hN hL hR h1 h2 h3 w hd => by
    have ih := sym_all E f hf cb w0 B N HC hl M
    by_cases e1 : L.length = 1
    · obtain ⟨x, rfl⟩ := List.length_eq_one_iff.1 e1
      exact symL_any E f hf cb w0 B HC P R S x hR N a m b hN ha (by simpa using hm) hb w hd hl
    by_cases e2 : R.length = 1
    · obtain ⟨y, rfl⟩ := List.length_eq_one_iff.1 e2
      exact symR_any E f hf cb w0 B HC P L S y hL N a m b hN ha hm (by simpa using hb) e1 w hd hl
    have ih' : SymIH E f cb w0 B N (L.length + R.length) := fun P' L' R' S' a' m' b' q1 q2 q3 q4 q5 q6 q7 q8 q9 => ih P' L' R' S' a' m' b' q1 q2 q3 q4 q5 q6 q7 q8 (by omega)
    by_cases e3 : (a + b) / 2 < m
    · exact symG_any E f hf cb w0 B HC P L R S hL hR N a m b _ hN ha hm hb (by omega) (by omega) rfl e3 ih' w hd hl
    · exact symH_any E f hf cb w0 B HC P L R S hL hR N a m b _ hN ha hm hb (by omega) (by omega) rfl (by omega) ih' w hd hl
theorem symMerge_any {α : Type} (E : Cel α) (f : α → α → Int) (hf : Cmp3 f) (cb : Value) (w0 : World) (B : Nat) (HC : CmpG E f cb w0 B) (P L R S : List α) (hL : Srt f L) (hR : Srt f R) (h1 : 0 < L.length) (h2 : 0 < R.length) (N a m b : Nat) (hN : (P ++ (L ++ (R ++ S))).length = N) (ha : P.length = a) (hm : a + L.length = m) (hb : m + R.length = b) (w : World) (hd : DW E w0 B (P ++ (L ++ (R ++ S))) w) (hl : N ≤ 1152921504606846976) :
    Calls Try.prog 74 #[.slice (some ⟨B, 0, none⟩) N N, .int .i64 (a : Int), .int .i64 (m : Int), .int .i64 (b : Int), .func (.func 64) #[] #[cb]] w fun e w' => e = .returned (.tuple #[]) ∧ DW E w0 B (P ++ (mrg f L R ++ S)) w' :=
  sym_all E f hf cb w0 B N HC hl (L.length + R.length + 1) P L R S a m b ha hm hb hN hL hR h1 h2 (Nat.lt_succ_self _) w hd

section
variable {α : Type} (f : α → α → Int)
/-- A list, each piece of k sorted for itself. -/
def blk (k : Nat) : Nat → List α → List α
  | 0, l => l
  | n + 1, l => srt f (l.take k) ++ blk k n (l.drop k)
/-- As many pieces as there are elements are enough. -/
def blks (k : Nat) (l : List α) : List α := blk f k l.length l
theorem blk_nil (k : Nat) : ∀ n, blk f k n ([] : List α) = []
  | 0 => rfl
  | n + 1 => by rw [blk, List.take_nil, List.drop_nil, blk_nil k n]; rfl
theorem blk_more (k : Nat) (hk : 0 < k) : ∀ (n m : Nat) (l : List α), l.length ≤ n → l.length ≤ m → blk f k n l = blk f k m l
  | 0, m, l, h, _ => by
    have : l = [] := List.length_eq_zero_iff.1 (by omega)
    subst this; rw [blk_nil, blk_nil]
  | n + 1, 0, l, _, h => by
    have : l = [] := List.length_eq_zero_iff.1 (by omega)
    subst this; rw [blk_nil, blk_nil]
  | n + 1, m + 1, l, h1, h2 => by
    rw [blk, blk]
    by_cases h0 : l = []
    · subst h0; rw [List.drop_nil, blk_nil, blk_nil]
    · have hp : 0 < l.length := List.length_pos_iff.2 h0
      rw [blk_more k hk n m (l.drop k) (by rw [List.length_drop]; omega) (by rw [List.length_drop]; omega)]
theorem blks_step (k : Nat) (hk : 0 < k) (l : List α) : blks f k l = srt f (l.take k) ++ blks f k (l.drop k) := by
  unfold blks
  rw [blk_more f k hk l.length (l.length + 1) l (Nat.le_refl _) (by omega), blk, blk_more f k hk l.length (l.drop k).length (l.drop k) (by rw [List.length_drop]; omega) (Nat.le_refl _)]
theorem blks_nil (k : Nat) : blks f k ([] : List α) = [] := rfl
theorem blks_len (k : Nat) (hk : 0 < k) : ∀ (n : Nat) (l : List α), l.length ≤ n → (blks f k l).length = l.length
  | 0, l, h => by
    have : l = [] := List.length_eq_zero_iff.1 (by omega)
    subst this; rfl
  | n + 1, l, h => by
    by_cases h0 : l = []
    · subst h0; rfl
    · have hp : 0 < l.length := List.length_pos_iff.2 h0
      rw [blks_step f k hk, List.length_append, srt_length, blks_len k hk n (l.drop k) (by rw [List.length_drop]; omega), List.length_take, List.length_drop]
      omega
theorem blks_one (k : Nat) (hk : 0 < k) (l : List α) (h : l.length ≤ k) : blks f k l = srt f l := by
  rw [blks_step f k hk, List.take_of_length_le h, List.drop_eq_nil_of_le h, blks_nil, List.append_nil]
end


end Go.Proofs.Ythojcidbhojlhaa
