/-
  Plain laws: the lines that the program's loop collects are the text's lines.
-/
import Derived.Test.YtglceodiajbhiaaWk
namespace Go.Proofs.Ytglceodiajbhiaa

/-- The cells of the lines out of pieces, numbered from k on. -/
def lnC (s : ByteArray) : Nat → List (Nat × Nat) → List Value
  | _, [] => []
  | k, p :: r => [.string (trimCR (s.extract p.1 p.2)), .int .i64 (p.1 : Int), .int .i64 (k : Int)] ++ lnC s (k + 1) r

theorem lnC_snoc (s : ByteArray) (x : Nat × Nat) : ∀ (pre : List (Nat × Nat)) (k : Nat), lnC s k (pre ++ [x]) = lnC s k pre ++ [.string (trimCR (s.extract x.1 x.2)), .int .i64 (x.1 : Int), .int .i64 ((k + pre.length : Nat) : Int)]
  | [], k => by simp [lnC]
  | p :: r, k => by
    rw [List.cons_append, lnC, lnC, lnC_snoc s x r (k + 1), List.append_assoc]
    simp [Nat.add_comm, Nat.add_left_comm]

theorem trimCR_cut (s : ByteArray) (a b : Nat) (hab : a ≤ b) (hb : b ≤ s.size) : trimCR (s.extract a b) = s.extract a (crEnd s.data.toList a b) := by
  have hsz : (s.extract a b).size = b - a := by rw [extract_ofL, ofL_size, List.length_drop, List.length_take, len_data]; omega
  have hg : 0 < b - a → (s.extract a b).data.toList.getD (b - a - 1) 0 = s.data.toList.getD (b - 1) 0 := fun hp => by
    rw [extract_ofL, ofL_data]
    simp only [List.getD]
    rw [List.getElem?_drop, List.getElem?_take_of_lt (by omega)]
    congr 2
    omega
  have he : endsCR (s.extract a b) = decide (a < b ∧ s.data.toList.getD (b - 1) 0 = 13) := by
    unfold endsCR
    rw [hsz]
    by_cases hp : 0 < b - a
    · rw [hg hp]
      have : a < b := by omega
      simp [hp, this]
    · have : ¬ a < b := by omega
      simp [hp, this]
  unfold trimCR crEnd
  rw [he]
  by_cases h : a < b ∧ s.data.toList.getD (b - 1) 0 = 13
  · rw [if_pos (by simpa using h), if_pos h, hsz]
    apply ba_ext
    rw [extract_ofL, extract_ofL, extract_ofL, ofL_data, ofL_data, ofL_data, List.drop_zero, List.take_drop, List.take_take]
    congr 2
    omega
  · rw [if_neg (by simpa using h), if_neg h]

theorem cutsA_in (sep : UInt8) (n : Nat) : ∀ (l : List UInt8) (a i : Nat), a ≤ i → i + l.length ≤ n → ∀ p ∈ cutsA sep l a i, p.1 ≤ p.2 ∧ p.2 ≤ n
  | [], a, i, h1, h2, p, hp => by simp [cutsA] at hp; subst hp; simp at h2; exact ⟨h1, h2⟩
  | c :: r, a, i, h1, h2, p, hp => by
    unfold cutsA at hp
    simp only [List.length_cons] at h2
    split at hp
    · rcases List.mem_cons.1 hp with rfl | hp
      · exact ⟨h1, by show i ≤ n; omega⟩
      · exact cutsA_in sep n r (i + 1) (i + 1) (Nat.le_refl _) (by omega) p hp
    · exact cutsA_in sep n r a (i + 1) (by omega) (by omega) p hp

theorem cuts_in (sep : UInt8) (s : ByteArray) : ∀ p ∈ cuts sep s.data.toList, p.1 ≤ p.2 ∧ p.2 ≤ s.size :=
  cutsA_in sep s.size s.data.toList 0 0 (Nat.le_refl _) (by rw [len_data]; omega)

theorem lns_pre (s : ByteArray) (rest : List (Nat × Nat)) : ∀ (pre : List (Nat × Nat)) (k : Nat), (∀ p ∈ pre, p.1 ≠ s.size) → (∀ p ∈ pre, p.1 ≤ p.2 ∧ p.2 ≤ s.size) →
    ∃ L, lns s.data.toList s.size (pre ++ rest) k = L ++ lns s.data.toList s.size rest (k + pre.length) ∧ lnCells s L = lnC s k pre ∧ L.length = pre.length
  | [], k, _, _ => ⟨[], by simp, rfl, rfl⟩
  | p :: r, k, h1, h2 => by
    obtain ⟨L, hL, hc, hl⟩ := lns_pre s rest r (k + 1) (fun q hq => h1 q (List.mem_cons_of_mem _ hq)) (fun q hq => h2 q (List.mem_cons_of_mem _ hq))
    obtain ⟨a, b⟩ := p
    have hp := h2 (a, b) List.mem_cons_self
    refine ⟨(a, crEnd s.data.toList a b, k) :: L, ?_, ?_, by simp [hl]⟩
    · rw [List.cons_append, lns_mid _ _ _ _ _ _ (h1 (a, b) List.mem_cons_self), hL, List.cons_append, List.length_cons]
      congr 3
      omega
    · show [Value.string (s.extract a (crEnd s.data.toList a b)), .int .i64 (a : Int), .int .i64 (k : Int)] ++ lnCells s L = _
      rw [lnC, hc, trimCR_cut s a b hp.1 hp.2]

theorem lines_all (s : ByteArray) (h : ∀ p ∈ cuts 10 s.data.toList, p.1 ≠ s.size) : lnCells s (linesL s.data.toList) = lnC s 1 (cuts 10 s.data.toList) ∧ (linesL s.data.toList).length = (cuts 10 s.data.toList).length := by
  obtain ⟨L, hL, hc, hl⟩ := lns_pre s [] (cuts 10 s.data.toList) 1 h (cuts_in 10 s)
  rw [List.append_nil, lns, List.append_nil] at hL
  have e : linesL s.data.toList = L := by unfold linesL; rw [len_data]; exact hL
  rw [e]; exact ⟨hc, hl⟩

theorem lines_part (s : ByteArray) (pre : List (Nat × Nat)) (x : Nat × Nat) (hx : x.1 = s.size) (hp : pre ++ [x] <+: cuts 10 s.data.toList) (h : ∀ p ∈ pre, p.1 ≠ s.size) : lnCells s (linesL s.data.toList) = lnC s 1 pre ∧ (linesL s.data.toList).length = pre.length := by
  obtain ⟨rest, hr⟩ := hp
  have hin := cuts_in 10 s
  rw [← hr] at hin
  obtain ⟨L, hL, hc, hl⟩ := lns_pre s (x :: rest) pre 1 h (fun p hp => hin p (by simp [hp]))
  have e : linesL s.data.toList = L := by
    unfold linesL
    rw [len_data, ← hr, List.append_assoc]
    obtain ⟨x1, x2⟩ := x
    simp only at hx
    subst hx
    rw [show pre ++ ([(s.size, x2)] ++ rest) = pre ++ (s.size, x2) :: rest from rfl, hL, lns_stop, List.append_nil]
  rw [e]; exact ⟨hc, hl⟩

end Go.Proofs.Ytglceodiajbhiaa
