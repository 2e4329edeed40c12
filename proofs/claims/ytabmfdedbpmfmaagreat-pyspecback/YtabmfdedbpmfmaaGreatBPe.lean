/-
  Walks: a word behind a mark, and its number.
-/
import Derived.Test.YtabmfdedbpmfmaaGreatBPd
namespace Go.Proofs.YtabmfdedbpmfmaaGreat
open Go.RowKit Go.Shelf
set_option linter.unusedVariables false

attribute [local go_sem] Oper.semAt_some

theorem turn_own {β : Type} {B B0 : Nat} {w : World} (hB : w.heap.size ≤ B0) : OwnFrom B0 (fun (_ : β) W => Turn B w W) := by
  rintro s X Y row h hg hrow
  exact turn_grown h hg (fun k e => Nat.le_trans hB (hrow k e).1)

def marks (Ds : List Nat) : List Deferred := Ds.map fun D => { target := .collected D, args := #[] }
def Past (n₀ : Nat) (W W' : World) : Prop := Below n₀ W W' ∧ ∀ (b : Nat) (o : Obj), W.heap[b]? = some o → o.isCells = true → W'.heap[b]? = some o
theorem Past.refl (n₀ : Nat) (W : World) : Past n₀ W W := ⟨Below.refl _ _, fun _ _ h _ => h⟩
theorem Past.trans {n₀ : Nat} {A B C : World} (h : Past n₀ A B) (k : Past n₀ B C) : Past n₀ A C := ⟨h.1.trans k.1, fun b o h1 h2 => k.2 b o (h.2 b o h1 h2) h2⟩
theorem Past.own {n₀ base : Nat} {e : TypeId} {size : Nat} {v : Value} {k : Nat} {xs : List Value} {W W' : World} (h : Past n₀ W W') (hr : W.ownsRow base e size v k xs) : W'.ownsRow base e size v k xs := by
  refine ⟨hr.1, ?_⟩
  rcases hr.2 with h2 | ⟨g, cap, cur, hv, hg, hh, r⟩
  · exact .inl h2
  · exact .inr ⟨g, cap, cur, hv, hg, h.2 g _ hh rfl, r⟩
theorem leaves_marks {fn : Func} {tmps : Array Value} {R : Ending → World → Prop} (n₀ : Nat) : ∀ (Ds : List Nat) (W : World), Ds.Nodup → (∀ D ∈ Ds, n₀ ≤ D ∧ W.heap[D]? = some (.deferred (some []))) →
    (∀ W', Past n₀ W W' → LeavesIn Fence.wide 5 Tryz.prog fn tmps R [] .returning W') → LeavesInM Fence.wide 5 Tryz.prog fn tmps R (marks Ds) .returning W
  | [], W, _, _, h => h W (Past.refl _ _)
  | D :: Ds, W, hnd, hD, h => by
    have hd := hD D List.mem_cons_self
    have hne : ∀ E ∈ Ds, E ≠ D := fun E hE e => by subst e; exact (List.nodup_cons.1 hnd).1 hE
    refine ⟨by simp, .inl ⟨_, _, rfl, run_takeDeferred hd.2, ?_⟩⟩
    refine leaves_marks n₀ Ds _ (List.nodup_cons.1 hnd).2 (fun E hE => ⟨(hD E (List.mem_cons_of_mem _ hE)).1, (World.putObj_heap_other (hne E hE)).trans (hD E (List.mem_cons_of_mem _ hE)).2⟩) ?_
    intro W' hW'
    refine h W' (Past.trans ⟨?_, ?_⟩ hW')
    · exact belowK_b (w := { W with heap := W.heap.take n₀ }) (n₀ := n₀) (by have := (Array.getElem?_eq_some_iff.1 hd.2).1; simp; omega) W D _ _ (by simp; omega) hd.2 rfl rfl
    · intro b o hb ho
      by_cases e : b = D
      · subst e; rw [hd.2] at hb; cases hb; cases ho
      · exact (World.putObj_heap_other e).trans hb
theorem Turn.past {B n₀ : Nat} {w W W' : World} (h : Turn B w W) (hp : Past n₀ W W') (hn : w.heap.size ≤ n₀) : Turn B w W' :=
  ⟨hp.1.os.trans h.os, hp.1.tape.trans h.tape, hp.1.output.trans h.output, Nat.le_trans h.size hp.1.size, fun k hk hne => (hp.1.block k (by omega)).trans (h.block k hk hne)⟩
theorem fin62 {R : Ending → World → Prop} (tmps : Array Value) (Ds : List Nat) (W : World) (n₀ B1 B2 : Nat) (x t : ByteArray)
    (h1 : tmps.getD 4 undef = .pointer (some ⟨B1, 0, none⟩)) (h2 : tmps.getD 5 undef = .pointer (some ⟨B2, 0, none⟩)) (e1 : W.heap[B1]? = some (.cells #[.string x] 9 (0, 0))) (e2 : W.heap[B2]? = some (.cells #[.string t] 9 (0, 0)))
    (hnd : Ds.Nodup) (hD : ∀ D ∈ Ds, n₀ ≤ D ∧ W.heap[D]? = some (.deferred (some [])))
    (hR : ∀ W', Past n₀ W W' → R (.returned (.tuple #[.string x, .string t])) W') :
    bodyPostM Fence.wide 5 Tryz.prog Tryz.f144 R .ret { tmps := tmps, defers := marks Ds } W := by
  show LeavesInM _ _ _ _ _ _ _ _ _
  refine leaves_marks n₀ Ds W hnd hD ?_
  intro W' hW'
  have r0 := one_cell (hW'.2 _ _ e1 rfl)
  have r1 := one_cell (hW'.2 _ _ e2 rfl)
  rw [Array.getD_eq_getD_getElem?] at h1 h2
  refine ⟨_, ?_, hR W' hW'⟩
  simp [results, Tryz.results144, go_sem, h1, h2, r0, r1]
  try rfl

def wordL (l : List UInt8) (a : Nat) (ws : List (List UInt8)) : Option (List UInt8) := ws.find? fun x => pfxB (l.drop (markL l a)) x
def StPost (s : ByteArray) (a : Nat) (ws : List (List UInt8)) (B : Nat) (w : World) (r : Ending) (w' : World) : Prop :=
  match wordL s.data.toList a ws with
  | none => r = .returned (.tuple #[.string ⟨#[]⟩, .string ⟨#[]⟩]) ∧ RdAt w' B s a ∧ Turn B w w'
  | some x => r = .returned (.tuple #[.string (ofL x), .string (ofL (trimL (digT s.data.toList (markL s.data.toList a + x.length))))]) ∧ RdAt w' B s (digP s.data.toList (markL s.data.toList a + x.length)) ∧ Turn B w w'

set_option maxRecDepth 100000 in
set_option maxHeartbeats 4000000 in
theorem stage_in (B : Nat) (s : ByteArray) (a A c : Nat) (ws : List (List UInt8)) (w : World) (h : RdAt w B s a) (ha : a ≤ s.size) (hs : s.size ≤ 64) (hA : WordsAt w A ws) (hws : ws.length ≤ 64) (hwl : ∀ x ∈ ws, x.length ≤ 64) (hAB : A ≠ B) :
    CallsIn Fence.wide 5 Tryz.prog 144 #[.pointer (some ⟨B, 0, none⟩), .slice (some ⟨A, 0, none⟩) ws.length c] w (StPost s a ws B w) := by
  refine callsIn_of_wp_marks Tryz.func144 rfl trivial (wpIn_wide.2 ?_) rfl
  simp only [Tryz.ntmps144, List.size_toArray, List.length_cons, List.length_nil, Nat.reduceAdd, Nat.reduceSub, Array.replicate_succ, Array.replicate_zero, List.push_toArray, List.append_toArray, List.nil_append, List.cons_append]
  have hBl := h.lt
  have hAl := (Array.getElem?_eq_some_iff.1 hA).1
  have hm := mark_le s.data.toList a (by rw [len_data]; exact ha)
  rw [len_data] at hm
  have b3 : Below w.heap.size w (((w.alloc (.cells #[.pointer (some ⟨B, 0, none⟩)] 148)).alloc (.cells #[.string ⟨#[]⟩] 9)).alloc (.cells #[.string ⟨#[]⟩] 9)) := (((Below.refl _ w).alloc (Nat.le_refl _) _).alloc (by simp) _).alloc (by simp; omega) _
  have MK := hide (behindMark_any B s a _ (h.below b3) hs)
  have hMI : (0 : Int) ≤ (markL s.data.toList a : Int) := Int.natCast_nonneg _
  have hMJ : (markL s.data.toList a : Int) ≤ (s.size : Int) := by omega
  have HR0 : Hid (s.extract (markL s.data.toList a) s.size = ofL (s.data.toList.drop (markL s.data.toList a))) := extract_end s _
  have HW : Hid (wordL s.data.toList a ws = ws.find? fun x => pfxB (s.data.toList.drop (markL s.data.toList a)) x) := rfl
  have HPost : Hid (StPost s a ws B w = fun r w' => match wordL s.data.toList a ws with
    | none => r = .returned (.tuple #[.string ⟨#[]⟩, .string ⟨#[]⟩]) ∧ RdAt w' B s a ∧ Turn B w w'
    | some x => r = .returned (.tuple #[.string (ofL x), .string (ofL (trimL (digT s.data.toList (markL s.data.toList a + x.length))))]) ∧ RdAt w' B s (digP s.data.toList (markL s.data.toList a + x.length)) ∧ Turn B w w') := rfl
  generalize StPost s a ws B w = PP at *
  generalize markL s.data.toList a = M at *
  go_wp2_with fail
  refine MK.out.mono ?_
  rintro r w1 ⟨rfl, n1, hw1⟩
  have hz1 : w1.heap.size = w.heap.size + 1 + 1 + 1 := by rw [hw1, heap_drewN]; simp
  have B1 : Below w.heap.size w w1 := by rw [hw1]; exact b3.trans (below_drewN _ _ _)
  have e0 : w1.heap[w.heap.size]? = some (.cells #[.pointer (some ⟨B, 0, none⟩)] 148 (0, 0)) := by
    rw [hw1, heap_drewN]
    exact (Below.heap_alloc _ _ _ (by simp; omega)).trans ((Below.heap_alloc _ _ _ (by simp)).trans (World.alloc_heap_new w _))
  have e1 : w1.heap[w.heap.size + 1]? = some (.cells #[.string ⟨#[]⟩] 9 (0, 0)) := by
    rw [hw1, heap_drewN]
    have k := World.alloc_heap_new (w.alloc (.cells #[.pointer (some ⟨B, 0, none⟩)] 148)) (.cells #[.string ⟨#[]⟩] 9)
    simp only [World.size_alloc] at k
    exact (Below.heap_alloc _ _ _ (by simp)).trans k
  have e2 : w1.heap[w.heap.size + 1 + 1]? = some (.cells #[.string ⟨#[]⟩] 9 (0, 0)) := by
    rw [hw1, heap_drewN]
    have k := World.alloc_heap_new ((w.alloc (.cells #[.pointer (some ⟨B, 0, none⟩)] 148)).alloc (.cells #[.string ⟨#[]⟩] 9)) (.cells #[.string ⟨#[]⟩] 9)
    simp only [World.size_alloc] at k
    exact k
  have eB := (B1.block B hBl).trans h
  have eA := (B1.block A hAl).trans hA
  clear hw1 MK b3
  have W2B := (B1.alloc B1.size (.cells #[.int .i64 (M : Int)] 3))
  have L2 := hide ((Lies.cons eB (Lies.cons e0 (Lies.cons e1 (Lies.cons e2 (Lies.cons eA (Lies.nil _)))))).alloc (.cells #[.int .i64 (M : Int)] 3))
  have e3 := World.alloc_heap_new w1 (.cells #[.int .i64 (M : Int)] 3)
  have hz2 : (w1.alloc (.cells #[.int .i64 (M : Int)] 3)).heap.size = w.heap.size + 1 + 1 + 1 + 1 := by simp [hz1]
  rw [hz1] at e3
  clear e0 e1 e2 eB eA
  go_wp2_with fail
  try rw [hz1]
  generalize w1.alloc (.cells #[.int .i64 (M : Int)] 3) = W2 at *
  clear B1 hz1
  have c0 := cell_at 0 L2.out.head rfl
  have c1 := cell_at 0 L2.out.tail.head rfl
  have c2 := cell_at 0 e3 rfl
  go_region_held3 (fun w' => w'.cell? ⟨w.heap.size, 0, none⟩ = some (.pointer (some ⟨B, 0, none⟩)) ∧ w'.cell? ⟨B, 0, none⟩ = some (.string s) ∧ w'.cell? ⟨w.heap.size + 1 + 1 + 1, 0, none⟩ = some (.int .i64 (M : Int)))
    (first | go_keep | exact ⟨s1, s2, s3⟩ | (go_split_ands; exact ⟨s1, s2, s3⟩))
    ((first
      | (go_at_call 166; refine (tries_any _ _ _ _ _ _ rfl).mono ?_; rintro e w3 ⟨rfl, hw3⟩; have bb := (((Below.refl W2.heap.size W2).drew.alloc (Nat.le_refl _) (.cells #[.string (s.extract M s.size)] 9)).alloc (by simp) (.cells #[.slice (some ⟨A, 0, none⟩) ws.length c] 37)); rw [← hw3] at bb; have L3 := L2.out.below bb (fun p hp => L2.out.lt p hp); have e33 := (bb.block _ (Array.getElem?_eq_some_iff.1 e3).1).trans e3; have s1 := cell_at 0 L3.tail.head rfl; have s2 := cell_at 0 L3.head rfl; have s3 := cell_at 0 e33 rfl)
      | fail))
  go_wp2_with fail
  have e4 := World.alloc_heap_new W2 (.cells #[.string (s.extract M s.size)] 9)
  have e5 := World.alloc_heap_new (W2.alloc (.cells #[.string (s.extract M s.size)] 9)) (.cells #[.slice (some ⟨A, 0, none⟩) ws.length c] 37)
  have e4' := (Below.heap_alloc (W2.alloc (.cells #[.string (s.extract M s.size)] 9)) (.cells #[.slice (some ⟨A, 0, none⟩) ws.length c] 37) W2.heap.size (by simp)).trans e4
  simp only [World.size_alloc, hz2] at e4' e5
  have L3 := hide ((L2.out.alloc (.cells #[.string (s.extract M s.size)] 9)).alloc (.cells #[.slice (some ⟨A, 0, none⟩) ws.length c] 37))
  have e3' := (((Lies.cons e3 (Lies.nil W2)).alloc (.cells #[.string (s.extract M s.size)] 9)).alloc (.cells #[.slice (some ⟨A, 0, none⟩) ws.length c] 37)).head
  have B3 := ((W2B.alloc W2B.size (.cells #[.string (s.extract M s.size)] 9)).alloc (by have := W2B.size; simp; omega) (.cells #[.slice (some ⟨A, 0, none⟩) ws.length c] 37)).drew
  obtain ⟨W3, hW3⟩ : ∃ W3, W3 = ((W2.alloc (.cells #[.string (s.extract M s.size)] 9)).alloc (.cells #[.slice (some ⟨A, 0, none⟩) ws.length c] 37)).drew := ⟨_, rfl⟩
  have hz3 : W3.heap.size = w.heap.size + 1 + 1 + 1 + 1 + 1 + 1 := by rw [hW3]; show ((W2.alloc _).alloc _).heap.size = _; simp [hz2]
  have L4 : Hid (Lies W3 [(B, .cells #[.string s, .int .i64 (a : Int)] 122 (0, 0)), (w.heap.size, .cells #[.pointer (some ⟨B, 0, none⟩)] 148), (w.heap.size + 1, .cells #[.string ⟨#[]⟩] 9), (w.heap.size + 1 + 1, .cells #[.string ⟨#[]⟩] 9), (A, .cells (ws.map fun x => Value.string (ofL x)).toArray 9), (w.heap.size + 1 + 1 + 1, .cells #[.int .i64 (M : Int)] 3), (w.heap.size + 1 + 1 + 1 + 1, .cells #[.string (s.extract M s.size)] 9), (w.heap.size + 1 + 1 + 1 + 1 + 1, .cells #[.slice (some ⟨A, 0, none⟩) ws.length c] 37)]) := by
    rw [hW3]
    exact Lies.cons L3.out.head (Lies.cons L3.out.tail.head (Lies.cons L3.out.tail.tail.head (Lies.cons L3.out.tail.tail.tail.head (Lies.cons L3.out.tail.tail.tail.tail.head (Lies.cons e3' (Lies.cons e4' (Lies.cons e5 (Lies.nil _))))))))
  rw [← hW3] at B3 ⊢
  clear hW3 L3 L2 e3 e4 e5 e4' e3' W2B hz2 s1 s2 s3 c0 c1 c2 e33 bb hw3
  have hps : ∀ q ∈ [(B, Obj.cells #[.string s, .int .i64 (a : Int)] 122 (0, 0)), (w.heap.size, .cells #[.pointer (some ⟨B, 0, none⟩)] 148), (w.heap.size + 1, .cells #[.string ⟨#[]⟩] 9), (w.heap.size + 1 + 1, .cells #[.string ⟨#[]⟩] 9), (A, .cells (ws.map fun x => Value.string (ofL x)).toArray 9), (w.heap.size + 1 + 1 + 1, .cells #[.int .i64 (M : Int)] 3), (w.heap.size + 1 + 1 + 1 + 1, .cells #[.string (s.extract M s.size)] 9), (w.heap.size + 1 + 1 + 1 + 1 + 1, .cells #[.slice (some ⟨A, 0, none⟩) ws.length c] 37)], q.1 < W3.heap.size := fun q hq => L4.out.lt q hq
  have hps2 : ∀ (p : Nat) (x t : ByteArray), ∀ q ∈ [(B, Obj.cells #[.string s, .int .i64 (p : Int)] 122 (0, 0)), (w.heap.size + 1, .cells #[.string x] 9), (w.heap.size + 1 + 1, .cells #[.string t] 9)], q.1 < W3.heap.size := by
    intro p x t q hq
    simp only [List.mem_cons, List.not_mem_nil, or_false] at hq
    rcases hq with rfl | rfl | rfl <;> simp only <;> omega
  have hrs : (s.extract M s.size).size ≤ 64 := by rw [extract_seg, ofL_size]; simp [seg]; omega
  have HRR : Hid ((s.extract M s.size).data.toList = s.data.toList.drop M) := by show _ = _; rw [HR0.out, ofL_data]
  clear HR0
  generalize s.extract M s.size = rr at *
  refine (wpIn_wide (n := 5)).1 ?_
  refine wpIn_rangeFunc_ownG rfl (by omega) (gf := 180) (lb := #[.pointer (some ⟨w.heap.size + 1 + 1 + 1 + 1 + 1, 0, none⟩), .pointer (some ⟨w.heap.size + 1 + 1 + 1 + 1, 0, none⟩)]) rfl trivial (enters_of Tryz.func180 (by kernel_rfl) rfl)
    (tries_stops 4 (by omega) (w.heap.size + 1 + 1 + 1 + 1 + 1) (w.heap.size + 1 + 1 + 1 + 1) A c rr hrs ws hws hwl W3 L4.out.tail.tail.tail.tail.tail.tail.tail.head L4.out.tail.tail.tail.tail.tail.tail.head L4.out.tail.tail.tail.tail.head) Two.trans (two_b (by omega) (by omega)) (Below.refl _ _) (fun _ => rfl)
    (fun pre W => Lies W [(B, .cells #[.string s, .int .i64 (a : Int)] 122 (0, 0)), (w.heap.size, .cells #[.pointer (some ⟨B, 0, none⟩)] 148), (w.heap.size + 1, .cells #[.string ⟨#[]⟩] 9), (w.heap.size + 1 + 1, .cells #[.string ⟨#[]⟩] 9), (A, .cells (ws.map fun x => Value.string (ofL x)).toArray 9), (w.heap.size + 1 + 1 + 1, .cells #[.int .i64 (M : Int)] 3), (w.heap.size + 1 + 1 + 1 + 1, .cells #[.string rr] 9), (w.heap.size + 1 + 1 + 1 + 1 + 1, .cells #[.slice (some ⟨A, 0, none⟩) ws.length c] 37)] ∧ (∀ x ∈ pre, pfxB rr.data.toList x = false) ∧ Turn B w W)
    (fun cc ys W => cc = .ret ∧ ∃ pre x, ys = pre ++ [x] ∧ (∀ y ∈ pre, pfxB rr.data.toList y = false) ∧ pfxB rr.data.toList x = true ∧ Lies W [(B, .cells #[.string s, .int .i64 (digP s.data.toList (M + x.length) : Int)] 122 (0, 0)), (w.heap.size + 1, .cells #[.string (ofL x)] 9), (w.heap.size + 1 + 1, .cells #[.string (ofL (trimL (digT s.data.toList (M + x.length))))] 9)] ∧ Turn B w W)
    (fun pre X Y row h hg hr => ⟨lies_own (β := Unit) W3.heap.size _ hps () X Y row h.1 hg hr, h.2.1, turn_own (β := Unit) (B0 := W3.heap.size) (by omega) () X Y row h.2.2 hg hr⟩)
    (fun cc ys X Y row h hg hr => by
      obtain ⟨hc, pre, x, e1, e2, e3, h4, h5⟩ := h
      exact ⟨hc, pre, x, e1, e2, e3, lies_own (β := Unit) W3.heap.size _ (hps2 _ _ _) () X Y row h4 hg hr, turn_own (β := Unit) (B0 := W3.heap.size) (by omega) () X Y row h5 hg hr⟩)
    ⟨L4.out, by simp, Turn.ofBelow B3⟩ ?a1 ?assign ?body ?done ?stop
  case assign =>
    intro l x W K hK
    gi_wp2
    exact hK
  case body =>
    rintro lx pre x Wi ⟨hL, hbad, hT⟩ hlen
    have cP := one_cell hL.tail.head
    have cM := one_cell hL.tail.tail.tail.tail.tail.head
    cases hx : pfxB rr.data.toList x
    · gi_wp2
      exact ⟨KeepsFrom.refl _ _, Two.refl _ _ _, hL, fun y hy => by
        rcases List.mem_append.1 hy with hy | hy
        · exact hbad y hy
        · rw [List.mem_singleton.1 hy]; exact hx, hT⟩
    · have hxl : M + x.length ≤ s.size := by
        have := (List.isPrefixOf_iff_prefix.1 hx).length_le
        rw [HRR.out, List.length_drop, len_data] at this
        omega
      have hRd : RdAt Wi B s a := hL.head
      obtain ⟨c0, c1, f1⟩ := hRd.seen
      have sx := ofL_size x
      have z1 := one_free 0 hL.tail.tail.head
      have z2 := one_free 0 hL.tail.tail.tail.head
      have HRd2 := hide (hRd.place (M + x.length))
      have cP2 : (Wi.setCell ⟨B, 1, none⟩ (.int .i64 ((M + x.length : Nat) : Int))).cell? ⟨w.heap.size, 0, none⟩ = some (.pointer (some ⟨B, 0, none⟩)) := one_cell ((Below.heap_setCell _ _ _ _ (by simp only; omega)).trans hL.tail.head)
      have DG := hide (digits_any B s (M + x.length) _ HRd2.out hxl hs)
      gi_wp2_with fail
      refine ⟨trivial, (CallsIn.inRound lx (callsIn_wide.2 DG.out)).mono ?_⟩
      rintro r w5 ⟨rfl, hr5, t5⟩
      have tB : Turn B Wi w5 := (Turn.set B 1 Wi _).trans t5
      have q1 := (tB.block (w.heap.size + 1) (by have := hT.size; have := hL.lt _ (List.mem_cons_of_mem _ (List.mem_cons_of_mem _ List.mem_cons_self)); simpa using this) (by omega)).trans hL.tail.tail.head
      have q2 := (tB.block (w.heap.size + 1 + 1) (by have := hL.lt _ (List.mem_cons_of_mem _ (List.mem_cons_of_mem _ (List.mem_cons_of_mem _ List.mem_cons_self))); simpa using this) (by omega)).trans hL.tail.tail.tail.head
      have g1 := one_cell q1
      have g2 := one_cell q2
      have y1 := one_free 0 q1
      have y2 := one_free 0 q2
      have TR := hide (fun W => Trim_any (ofL (digT s.data.toList (M + x.length))) W (by rw [ofL_size, digT, seg]; simp only [List.length_drop, List.length_take, len_data]; unfold maxLen; omega))
      rw [ofL_data] at TR
      gi_wp2_with fail
      refine ⟨trivial, (CallsIn.inRound lx (callsIn_wide.2 (TR.out _))).mono ?_⟩
      rintro r w6 ⟨rfl, hw6⟩
      rw [hw6]
      clear hw6 w6
      gi_wp2_with fail
      have hkk : KeepsFrom W3.heap.size Wi w5 := KeepsFrom.of_grownBy tB.grown (fun j e => by injection e with e; omega)
      refine ⟨(hkk.trans ((KeepsOthers.setCell _ _ _).from _)).trans ((KeepsOthers.setCell _ _ _).from _), rfl, pre, x, rfl, hbad, hx, ?_, ?_⟩
      · refine Lies.cons ?_ (Lies.cons ?_ (Lies.cons ?_ (Lies.nil _)))
        · exact (Below.heap_setCell _ _ _ _ (by simp only; omega)).trans ((Below.heap_setCell _ _ _ _ (by simp only; omega)).trans hr5)
        · exact (Below.heap_setCell _ _ _ _ (by simp only; omega)).trans (set_lies 0 (.string (ofL x)) q1)
        · exact set_lies 0 _ ((Below.heap_setCell _ _ _ _ (by simp only; omega)).trans q2)
      · have hb := (hT.trans tB)
        have b1 : Below w.heap.size w5 ((w5.setCell ⟨w.heap.size + 1, 0, none⟩ (.string (ofL x))).setCell ⟨w.heap.size + 1 + 1, 0, none⟩ (.string (ofL (trimL (digT s.data.toList (M + x.length)))))) := ((Below.refl _ _).setCell (p := ⟨w.heap.size + 1, 0, none⟩) (by simp only; omega) _).setCell (p := ⟨w.heap.size + 1 + 1, 0, none⟩) (by simp only; omega) _
        exact ⟨b1.os.trans hb.os, b1.tape.trans hb.tape, b1.output.trans hb.output, Nat.le_trans hb.size b1.size, fun k hk hn => (b1.block k hk).trans (hb.block k hk hn)⟩
  case done =>
    rintro D ys W hD rfl ⟨hL, hbad, hT⟩ hK
    have hN : wordL s.data.toList a ys = none := by
      rw [HW.out, List.find?_eq_none]
      intro x hx
      have := hbad x hx
      rw [HRR.out] at this
      simp [this]
    have HN := hide hN
    clear hN
    have q1 := hL.tail.tail.head
    have q2 := hL.tail.tail.tail.head
    have g1 := one_cell q1
    have g2 := one_cell q2
    have y1 := one_free 0 q1
    have y2 := one_free 0 q2
    gi_wp2
    go_wp2_with fail
    refine fin62 _ [D] _ w.heap.size (w.heap.size + 1) (w.heap.size + 1 + 1) ⟨#[]⟩ ⟨#[]⟩ rfl rfl ((Below.heap_setCell _ _ _ _ (by simp only; omega)).trans (set_lies 0 (.string ⟨#[]⟩) q1)) (set_lies 0 _ ((Below.heap_setCell _ _ _ _ (by simp only; omega)).trans q2)) (by simp) (by intro E hE; rw [List.mem_singleton.1 hE]; exact ⟨by omega, ((KeepsOthers.setCell _ _ _).trans (KeepsOthers.setCell _ _ _)).same D _ hK rfl⟩) ?_
    intro W' hp
    rw [HPost.out, HN.out]
    have b1 : Below w.heap.size W ((W.setCell ⟨w.heap.size + 1, 0, none⟩ (.string ⟨#[]⟩)).setCell ⟨w.heap.size + 1 + 1, 0, none⟩ (.string ⟨#[]⟩)) := ((Below.refl _ _).setCell (p := ⟨w.heap.size + 1, 0, none⟩) (by simp only; omega) _).setCell (p := ⟨w.heap.size + 1 + 1, 0, none⟩) (by simp only; omega) _
    have hT2 : Turn B w ((W.setCell ⟨w.heap.size + 1, 0, none⟩ (.string ⟨#[]⟩)).setCell ⟨w.heap.size + 1 + 1, 0, none⟩ (.string ⟨#[]⟩)) := ⟨b1.os.trans hT.os, b1.tape.trans hT.tape, b1.output.trans hT.output, Nat.le_trans hT.size b1.size, fun k hk hn => (b1.block k hk).trans (hT.block k hk hn)⟩
    exact ⟨rfl, hp.2 _ _ ((b1.block B hBl).trans hL.head) rfl, hT2.past hp (Nat.le_refl _)⟩
  case stop =>
    rintro D cc ys W hD hpre ⟨rfl, pre, x, rfl, hbad, hx, hL, hT⟩ hK
    have hN : wordL s.data.toList a ws = some x := by
      obtain ⟨rest, hrest⟩ := hpre
      rw [HW.out, ← hrest, List.append_assoc, List.find?_append]
      have h1 : pre.find? (fun x => pfxB (s.data.toList.drop M) x) = none := by
        rw [List.find?_eq_none]
        intro y hy
        have := hbad y hy
        rw [HRR.out] at this
        simp [this]
      rw [HRR.out] at hx
      rw [h1]
      simp [hx]
    have HN := hide hN
    clear hN
    gi_wp2
    refine fin62 _ [D] W w.heap.size (w.heap.size + 1) (w.heap.size + 1 + 1) (ofL x) _ rfl rfl hL.tail.head hL.tail.tail.head (by simp) (by intro E hE; rw [List.mem_singleton.1 hE]; exact ⟨by omega, hK⟩) ?_
    intro W' hp
    rw [HPost.out, HN.out]
    exact ⟨rfl, hp.2 _ _ hL.head rfl, hT.past hp (Nat.le_refl _)⟩

theorem stage_any (B : Nat) (s : ByteArray) (a A c : Nat) (ws : List (List UInt8)) (w : World) (h : RdAt w B s a) (ha : a ≤ s.size) (hs : s.size ≤ 64) (hA : WordsAt w A ws) (hws : ws.length ≤ 64) (hwl : ∀ x ∈ ws, x.length ≤ 64) (hAB : A ≠ B) :
    Calls Tryz.prog 144 #[.pointer (some ⟨B, 0, none⟩), .slice (some ⟨A, 0, none⟩) ws.length c] w (StPost s a ws B w) :=
  (callsIn_wide (n := 5)).1 (stage_in B s a A c ws w h ha hs hA hws hwl hAB)

end Go.Proofs.YtabmfdedbpmfmaaGreat
