/-
  The document's answer: Parse and Canon.
-/
import Derived.Test.YtplbdciikkpjoaaZRh
namespace Go.Proofs.Ytplbdciikkpjoaa
open Go.RowKit Go.Shelf
set_option linter.unusedVariables false

/-- The version that is read, or none. -/
def semP (l : List UInt8) : SemL := match parseR l with | .ok c => semOf l c | .error _ => semN
/-- The fault, or none. -/
def fauP (l : List UInt8) : Int × Nat := match parseR l with | .ok _ => (0, 0) | .error y => y
theorem semP_short (l : List UInt8) : ShortS (semP l) := by
  unfold semP
  cases h : parseR l with
  | ok c => exact parse_short h
  | error y => exact ⟨by simp [semN], by simp [semN], by simp [semN], ⟨by simp [semN], by simp [semN]⟩, ⟨by simp [semN], by simp [semN]⟩⟩
theorem semN_at (n : Nat) (W : World) : SemF n W semZ semN := ⟨_, _, rfl, txt_nil W, txt_nil W, (by rintro a i c h; cases h), (by rintro a i c h; cases h)⟩

theorem Parse_two (PA : ∀ (s : ByteArray) (w : World), s.size ≤ 64 → Calls Try.prog 16 #[.string s] w (PPost s w)) (s : ByteArray) (w : World) :
    Calls Try.prog 16 #[.string s] w fun e w' => Below w.heap.size w w' ∧ ∃ v, e = .returned (.tuple #[v, .agg #[.int .i64 (fauP s.data.toList).1, .int .i64 ((fauP s.data.toList).2 : Int)]]) ∧ SemF w.heap.size w' v (semP s.data.toList) := by
  refine (Parse_sem PA s w).mono ?_
  rintro e w' ⟨hb, h⟩
  refine ⟨hb, ?_⟩
  unfold PRes at h
  unfold fauP semP
  cases hp : parseR s.data.toList with
  | error x => rw [hp] at h; exact ⟨_, h, semN_at _ w'⟩
  | ok c =>
    rw [hp] at h
    obtain ⟨vp, vb, he, h1, h2, h3, h4⟩ := h
    exact ⟨_, he, vp, vb, rfl, h1, h2, h3, h4⟩
theorem canon_ok (l : List UInt8) (h : (fauP l).1 = 0) : canonL l = textL ⟨(semP l).maj, (semP l).min, (semP l).pat, (semP l).pre, []⟩ := by
  unfold fauP at h
  unfold canonL semP
  cases hp : parseR l with
  | error y => rw [hp] at h; exact absurd h (parse_err hp)
  | ok c => exact canon_text hp
theorem canon_none (l : List UInt8) (h : (fauP l).1 ≠ 0) : canonL l = [] := by
  unfold fauP at h
  unfold canonL
  cases hp : parseR l with
  | error y => rfl
  | ok c => rw [hp] at h; exact absurd rfl h
theorem textL_len (x : SemL) : (textL x).length ≤ lenS x := by
  have h1 := joinL_len x.pre
  have h2 := joinL_len x.bld
  unfold textL lenS
  simp only [List.length_append, List.length_cons, List.length_nil]
  have h3 : (if x.pre = [] then ([] : List UInt8) else 45 :: joinL x.pre).length ≤ lenI x.pre := by
    split
    · simp
    · cases hx : x.pre with
      | nil => rename_i h; exact absurd hx h
      | cons t r =>
        have hd : ∀ us : List (List UInt8), (dotted us).length = lenI us := by
          intro us
          induction us with
          | nil => rfl
          | cons u v ih => simp only [dotted, List.flatMap_cons, List.length_append, List.length_cons, lenI] at ih ⊢; omega
        simp only [joinL, List.length_cons, List.length_append, lenI, hd]
        omega
  have h4 : (if x.bld = [] then ([] : List UInt8) else 43 :: joinL x.bld).length ≤ lenI x.bld := by
    split
    · simp
    · cases hx : x.bld with
      | nil => rename_i h; exact absurd hx h
      | cons t r =>
        have hd : ∀ us : List (List UInt8), (dotted us).length = lenI us := by
          intro us
          induction us with
          | nil => rfl
          | cons u v ih => simp only [dotted, List.flatMap_cons, List.length_append, List.length_cons, lenI] at ih ⊢; omega
        simp only [joinL, List.length_cons, List.length_append, lenI, hd]
        omega
  omega
theorem lenI_bound (n m : Nat) : ∀ ts : List (List UInt8), ts.length ≤ n → (∀ t ∈ ts, t.length ≤ m) → lenI ts ≤ n * (m + 1) := by
  intro ts
  induction ts generalizing n with
  | nil => intro _ _; simp [lenI]
  | cons t r ih =>
    intro h1 h2
    cases n with
    | zero => simp at h1
    | succ n =>
      have := ih n (by simpa using h1) (fun u hu => h2 u (List.mem_cons_of_mem _ hu))
      have ht := h2 t List.mem_cons_self
      simp only [lenI]
      rw [Nat.succ_mul]
      omega
theorem semP_len (l : List UInt8) : lenS ⟨(semP l).maj, (semP l).min, (semP l).pat, (semP l).pre, []⟩ ≤ 1048576 ∧ lenS (semP l) ≤ 1048576 := by
  unfold semP
  cases h : parseR l with
  | error y => simp [semN, lenS, lenI]
  | ok c =>
    have hl := parse_len h
    have hx := parse_lists h
    have b1 := lenI_bound 65 64 (semOf l c).pre (by simpa [semOf] using segs_short l hl c.pre hx.1) (by intro t ht; obtain ⟨x, _, rfl⟩ := List.mem_map.1 ht; exact seg_short l hl _ _)
    have b2 := lenI_bound 65 64 (semOf l c).bld (by simpa [semOf] using segs_short l hl c.bld hx.2) (by intro t ht; obtain ⟨x, _, rfl⟩ := List.mem_map.1 ht; exact seg_short l hl _ _)
    have s1 : (semOf l c).maj.length ≤ 64 := seg_short l hl _ _
    have s2 : (semOf l c).min.length ≤ 64 := seg_short l hl _ _
    have s3 : (semOf l c).pat.length ≤ 64 := seg_short l hl _ _
    simp only [lenS, lenI]
    omega

end Go.Proofs.Ytplbdciikkpjoaa
