/-
  Walks: the document's reader: a word behind a mark.
-/
import Derived.Test.YtabmfdedbpmfmaaGreatSXb
namespace Go.Proofs.YtabmfdedbpmfmaaGreat
open Go.RowKit Go.Shelf
set_option linter.unusedVariables false

theorem hasP_pfx (t x : List UInt8) : hasP t x = pfxB t x := by
  unfold hasP
  by_cases h : x.length ≤ t.length
  · rw [pfx_take t x h]
    rw [Bool.eq_iff_iff]; simp
  · rw [pfx_long t x h]
    rw [beq_eq_false_iff_ne]
    intro e
    have := congrArg List.length e
    simp at this
    omega
theorem starts_pfx (l : List UInt8) (m : Nat) (h : m ≤ l.length) (x : List UInt8) : startsL l (m : Int) x = pfxB (l.drop m) x := by
  unfold startsL
  rw [hasP_pfx]
  simp [h]
theorem word_keep (f : ByteArray → Bool) (x : List UInt8) : ∀ ws : List (List UInt8), (∀ y ∈ ws, f (ofL y) = true → ¬ x.length < y.length) → (ws.map ofL).foldl (wstepF f) (ofL x, true) = (ofL x, true)
  | [], _ => rfl
  | y :: ws, h => by
    rw [List.map_cons, List.foldl_cons, wstepF, if_neg]
    · exact word_keep f x ws (fun z hz => h z (List.mem_cons_of_mem _ hz))
    · rintro ⟨h1, h2⟩
      have := h y List.mem_cons_self h1
      rcases h2 with h2 | h2
      · cases h2
      · simp only [ofL_size] at h2; exact this h2
theorem word_first (f : ByteArray → Bool) : ∀ ws : List (List UInt8), ws.Pairwise (fun x y => f (ofL x) = true → f (ofL y) = true → ¬ x.length < y.length) →
    wordF f (ws.map ofL) = match ws.find? (fun x => f (ofL x)) with | some x => (ofL x, true) | none => (ByteArray.empty, false)
  | [], _ => rfl
  | x :: ws, h => by
    rw [List.pairwise_cons] at h
    unfold wordF
    rw [List.map_cons, List.foldl_cons, List.find?_cons]
    cases hx : f (ofL x)
    · rw [wstepF, if_neg (by rintro ⟨h1, _⟩; rw [hx] at h1; cases h1)]
      exact word_first f ws h.2
    · rw [wstepF, if_pos ⟨hx, .inl rfl⟩]
      exact word_keep f x ws (fun y hy hf => h.1 y hy hx hf)
theorem pfx_both {t x y : List UInt8} (hx : pfxB t x = true) (hy : pfxB t y = true) (hl : x.length < y.length) : x.isPrefixOf y = true := by
  unfold pfxB at hx hy
  rw [List.isPrefixOf_iff_prefix] at *
  exact List.prefix_of_prefix_length_le hx hy (by omega)
def Apart (ws : List (List UInt8)) : Prop := ws.Pairwise fun x y => x.length < y.length → x.isPrefixOf y = false
theorem apart_pre : Apart preWs := by unfold Apart preWs; decide
theorem apart_post : Apart postWs := by unfold Apart postWs; decide
theorem apart_dev : Apart devWs := by unfold Apart devWs; decide
theorem word_is (l : List UInt8) (a : Nat) (ha : a ≤ l.length) (ws : List (List UInt8)) (h : Apart ws) :
    wordF (fun x => startsL l ((markL l a : Nat) : Int) x.data.toList) (ws.map ofL) = match wordL l a ws with | some x => (ofL x, true) | none => (ByteArray.empty, false) := by
  have hm := (mark_le l a ha).2.1
  have e : (fun x : ByteArray => startsL l ((markL l a : Nat) : Int) x.data.toList) = fun x => pfxB (l.drop (markL l a)) x.data.toList := funext fun x => starts_pfx l _ hm _
  rw [e, word_first]
  · unfold wordL
    simp only [ofL_data]
  · refine h.imp ?_
    intro x y hxy h1 h2 hl
    simp only [ofL_data] at h1 h2
    have := hxy hl
    rw [pfx_both h1 h2 hl] at this
    cases this

def WPost (s : ByteArray) (a : Nat) (ws : List (List UInt8)) (B : Nat) (e p : Int) (w : World) (r : Ending) (w' : World) : Prop :=
  match wordL s.data.toList a ws with
  | none => r = .returned (.tuple #[.string ByteArray.empty, .bool false]) ∧ DrAt w' B s a e p ∧ Turn B w w'
  | some x => r = .returned (.tuple #[.string (ofL x), .bool true]) ∧ DrAt w' B s (markL s.data.toList a + x.length) e p ∧ Turn B w w'

set_option maxRecDepth 100000 in
set_option maxHeartbeats 2000000 in
theorem Rword_any (B : Nat) (s : ByteArray) (a A c : Nat) (e p : Int) (ws : List (List UInt8)) (w : World) (h : DrAt w B s a e p) (ha : a ≤ s.size) (hs : s.size ≤ 64) (hA : WordsAt w A ws) (hws : ws.length ≤ 64) (hwl : ∀ x ∈ ws, x.length ≤ 64) (hap : Apart ws) :
    Calls Tryz.prog 56 #[.pointer (some ⟨B, 0, none⟩), .slice (some ⟨A, 0, none⟩) ws.length c] w (WPost s a ws B e p w) := by
  have M0 := hide (fun w h => RmarkAt_any B s a e p 0 w h ha (by omega) hs)
  simp only [Nat.add_zero] at M0
  have H := hide h
  have hm := mark_le s.data.toList a (by rw [len_data]; exact ha)
  have HW := word_is s.data.toList a (by rw [len_data]; exact ha) ws hap
  have WD := fun W (hW : W.heap[A]? = w.heap[A]?) => RWord_any s ((markL s.data.toList a : Nat) : Int) (some ⟨A, 0, none⟩) (ws.map ofL) c W (by unfold maxLen; omega) (by rw [List.length_map]; unfold maxLen; omega) (by
    by_cases h0 : ws = []
    · left; rw [h0]; rfl
    · right
      refine ⟨A, 0, rfl, fun i hi => ?_⟩
      rw [List.length_map] at hi
      have hc : WordsAt W A ws := by unfold WordsAt; rw [hW]; exact hA
      have := hc.cell i hi
      rw [Nat.zero_add, this]
      simp [List.getD, hi])
  rw [List.length_map] at WD
  rw [HW] at WD
  have hwx : ∀ x, wordL s.data.toList a ws = some x → markL s.data.toList a + x.length ≤ 200 := fun x hx => by
    have := hwl x (List.mem_of_find?_eq_some hx)
    rw [len_data] at hm
    omega
  unfold WPost
  have hmk : (markB s.data.toList a = true ∧ markL s.data.toList a = a + 1) ∨ (markB s.data.toList a = false ∧ markL s.data.toList a = a) := by
    cases hb : markB s.data.toList a
    · exact .inr ⟨rfl, markL_f hb⟩
    · exact .inl ⟨rfl, markL_t hb⟩
  clear hA h HW hap hwl
  cases hx : wordL s.data.toList a ws with
  | none =>
    rw [hx] at WD
    have WD := hide WD
    clear hwx hx
    rcases hmk with ⟨hb, hl⟩ | ⟨hb, hl⟩
    · rw [hb] at M0
      have e1 : (a : Int) + 1 = ((markL s.data.toList a : Nat) : Int) := by omega
      have w1 : IntKind.i64.wrap ((markL s.data.toList a : Nat) : Int) = ((markL s.data.toList a : Nat) : Int) := by rw [IntKind.wrap_i64, len_data] at *; omega
      clear hl hb hm
      generalize ((markL s.data.toList a : Nat) : Int) = m at *
      go_enter Tryz.func56, Tryz.ntmps56
      go_wp2_with fail
      refine (M0.out _ H.out).mono ?_
      rintro r w1 ⟨rfl, n1, hw1⟩
      have H1 : DrAt w1 B s a e p := by rw [hw1]; exact H.out.drewN _
      have T1 : Turn B w w1 := by rw [hw1]; exact Turn.drewN _ _ _
      have A1 : w1.heap[A]? = w.heap[A]? := by rw [hw1, heap_drewN]
      have WD1 := hide (fun n => WD.out (w1.drewN n) (by rw [heap_drewN]; exact A1))
      clear hw1
      obtain ⟨c0, c1, c2, c3, f1, f2, f3⟩ := H1.seen
      go_wp2_with fail
      go_quiet (first | (go_at_call 84; exact Calls.quiet_of_same (WD1.out _)) | fail)
      go_wp2_with fail
      go_ret2
      exact ⟨rfl, H1.drewN _, T1.trans (Turn.drewN _ _ _)⟩
    · rw [hb] at M0
      have e1 : ((markL s.data.toList a : Nat) : Int) = (a : Int) := by omega
      rw [e1] at WD
      clear hl hb hm e1
      go_enter Tryz.func56, Tryz.ntmps56
      go_wp2_with fail
      refine (M0.out _ H.out).mono ?_
      rintro r w1 ⟨rfl, n1, hw1⟩
      have H1 : DrAt w1 B s a e p := by rw [hw1]; exact H.out.drewN _
      have T1 : Turn B w w1 := by rw [hw1]; exact Turn.drewN _ _ _
      have A1 : w1.heap[A]? = w.heap[A]? := by rw [hw1, heap_drewN]
      have WD1 := hide (fun n => WD.out (w1.drewN n) (by rw [heap_drewN]; exact A1))
      clear hw1
      obtain ⟨c0, c1, c2, c3, f1, f2, f3⟩ := H1.seen
      go_wp2_with fail
      go_quiet (first | (go_at_call 84; exact Calls.quiet_of_same (WD1.out _)) | fail)
      go_wp2_with fail
      go_ret2
      exact ⟨rfl, H1.drewN _, T1.trans (Turn.drewN _ _ _)⟩
  | some x =>
    rw [hx] at WD
    have WD := hide WD
    have hx2 := hwx x hx
    have hxs : (ofL x).size = x.length := ofL_size x
    clear hwx hx
    dsimp only
    obtain ⟨j, hj⟩ : ∃ j, j = markL s.data.toList a + x.length := ⟨_, rfl⟩
    rw [← hj]
    rcases hmk with ⟨hb, hl⟩ | ⟨hb, hl⟩
    · rw [hb] at M0
      rw [hl] at hj WD
      have e1 : ((a + 1 : Nat) : Int) = (a : Int) + 1 := by omega
      rw [e1] at WD
      have w1 : IntKind.i64.wrap ((a : Int) + 1) = (a : Int) + 1 := by rw [IntKind.wrap_i64]; omega
      have e2 : (a : Int) + 1 + (x.length : Int) = (j : Int) := by omega
      have w2 : IntKind.i64.wrap (j : Int) = (j : Int) := by rw [IntKind.wrap_i64]; omega
      clear hl hb hm e1 hj hx2
      go_enter Tryz.func56, Tryz.ntmps56
      go_wp2_with fail
      refine (M0.out _ H.out).mono ?_
      rintro r w1 ⟨rfl, n1, hw1⟩
      have H1 : DrAt w1 B s a e p := by rw [hw1]; exact H.out.drewN _
      have T1 : Turn B w w1 := by rw [hw1]; exact Turn.drewN _ _ _
      have A1 : w1.heap[A]? = w.heap[A]? := by rw [hw1, heap_drewN]
      have WD1 := hide (fun n => WD.out (w1.drewN n) (by rw [heap_drewN]; exact A1))
      clear hw1
      obtain ⟨c0, c1, c2, c3, f1, f2, f3⟩ := H1.seen
      go_wp2_with fail
      go_quiet (first | (go_at_call 84; exact Calls.quiet_of_same (WD1.out _)) | fail)
      go_wp2_with fail
      go_ret2
      exact ⟨rfl, (H1.drewN _).place _, T1.trans ((Turn.drewN _ _ _).trans (Turn.set _ _ _ _))⟩
    · rw [hb] at M0
      rw [hl] at hj WD
      have e2 : (a : Int) + (x.length : Int) = (j : Int) := by omega
      have w2 : IntKind.i64.wrap (j : Int) = (j : Int) := by rw [IntKind.wrap_i64]; omega
      clear hl hb hm hj hx2
      go_enter Tryz.func56, Tryz.ntmps56
      go_wp2_with fail
      refine (M0.out _ H.out).mono ?_
      rintro r w1 ⟨rfl, n1, hw1⟩
      have H1 : DrAt w1 B s a e p := by rw [hw1]; exact H.out.drewN _
      have T1 : Turn B w w1 := by rw [hw1]; exact Turn.drewN _ _ _
      have A1 : w1.heap[A]? = w.heap[A]? := by rw [hw1, heap_drewN]
      have WD1 := hide (fun n => WD.out (w1.drewN n) (by rw [heap_drewN]; exact A1))
      clear hw1
      obtain ⟨c0, c1, c2, c3, f1, f2, f3⟩ := H1.seen
      go_wp2_with fail
      go_quiet (first | (go_at_call 84; exact Calls.quiet_of_same (WD1.out _)) | fail)
      go_wp2_with fail
      go_ret2
      exact ⟨rfl, (H1.drewN _).place _, T1.trans ((Turn.drewN _ _ _).trans (Turn.set _ _ _ _))⟩

end Go.Proofs.YtabmfdedbpmfmaaGreat
