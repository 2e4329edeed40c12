/-
  Walks: texts read and compared.
-/
import Derived.Test.YtninjeahngkaoaaPq
namespace Go.Proofs.Ytninjeahngkaoaa
open Go.RowKit Go.Shelf
set_option linter.unusedVariables false

theorem txt_vals {W : World} {base : Nat} {v : Value} {u : List UInt8} {xs : List (Nat × Nat)} (h : W.ownsRow base 9 1 v (vals u xs).length (vals u xs)) : Txt W v (rowL u xs) := by
  rw [vals_len] at h
  rcases h.2 with ⟨rfl, h0⟩ | ⟨g, cap, cur, rfl, hg, hh, r1, r2, r3, r4⟩
  · refine ⟨none, 0, by simp [rowL, h0], .inl ?_⟩
    rw [List.length_eq_zero_iff.1 h0]; rfl
  · refine ⟨some ⟨g, 0, none⟩, cap, by simp [rowL], .inr ⟨g, 0, rfl, (Array.getElem?_eq_some_iff.1 hh).1, fun i hi => ?_⟩⟩
    have hi' : i < xs.length := by simpa [rowL] using hi
    have hc : cur[i]? = some (.string (ofL (plainL (seg u xs[i].1 xs[i].2)))) := by
      have e1 : (cur.toList.take (xs.length * 1))[i]? = (vals u xs)[i]? := by rw [r4]
      rw [List.getElem?_take, if_pos (by omega)] at e1
      rw [← Array.getElem?_toList, e1, vals]
      simp [hi']
    rw [Nat.zero_add, cell_at i hh hc]
    simp [rowL]
theorem plain_len (t : List UInt8) : (plainL t).length ≤ t.length + 1 := by
  unfold plainL
  split
  · exact trimL_le t
  · omega
theorem seg_le (l : List UInt8) (a e : Nat) : (seg l a e).length ≤ l.length := by
  unfold seg
  rw [List.length_drop, List.length_take]
  omega
theorem digT_le (l : List UInt8) (a : Nat) : (trimL (digT l a)).length ≤ l.length + 1 := Nat.le_trans (trimL_le _) (Nat.succ_le_succ (seg_le l _ _))
theorem stN_le (l : List UInt8) (a : Nat) (ws : List (List UInt8)) : (stN l a ws).length ≤ l.length + 1 := by
  unfold stN
  split
  · simp
  · exact digT_le l _
theorem posN_le (l : List UInt8) (a : Nat) : (posN l a).length ≤ l.length + 1 := by
  unfold posN
  split
  · exact digT_le l _
  · exact stN_le l _ _
theorem epoT_le (l : List UInt8) (a : Nat) : (epoT l a).length ≤ l.length + 1 := by
  unfold epoT
  split
  · have h1 := trimL_le (cutB (l.drop a))
    have h2 : (cutB (l.drop a)).length ≤ (l.drop a).length := by unfold cutB; exact (List.takeWhile_sublist _).length_le
    rw [List.length_drop] at h2
    omega
  · simp
theorem row_short (u : List UInt8) (hu : u.length ≤ 64) (xs : List (Nat × Nat)) (hx : xs.length ≤ 65) : (rowL u xs).length ≤ 65 ∧ ∀ t ∈ rowL u xs, t.length ≤ 65 := by
  refine ⟨by simp [rowL]; exact hx, fun t ht => ?_⟩
  obtain ⟨x, _, rfl⟩ := List.mem_map.1 ht
  have := plain_len (seg u x.1 x.2)
  have := seg_le u x.1 x.2
  omega
theorem short65 {ts : List (List UInt8)} (h : ts.length ≤ 65 ∧ ∀ t ∈ ts, t.length ≤ 65) : Short ts := ⟨by omega, fun t ht => by have := h.2 t ht; omega⟩
/-- What was read is small. -/
structure SmallP (x : PepL) : Prop where
  e : x.ep.length ≤ 65
  n : x.n.length ≤ 65
  m : x.m.length ≤ 65
  k : x.k.length ≤ 65
  r : x.rel.length ≤ 65 ∧ ∀ t ∈ x.rel, t.length ≤ 65
  l : x.loc.length ≤ 65 ∧ ∀ t ∈ x.loc, t.length ≤ 65
theorem SmallP.short {x : PepL} (h : SmallP x) : ShortP x := ⟨by have := h.e; omega, by have := h.n; omega, by have := h.m; omega, by have := h.k; omega, short65 h.r, short65 h.l⟩
theorem pep_small (u : List UInt8) (hu : u.length ≤ 64) : SmallP (pepOf u) := by
  have h1 := epoT_le u (vp1 u)
  have h2 := stN_le u (vp3 u) preWs
  have h3 := posN_le u (vp4 u)
  have h4 := stN_le u (vp5 u) devWs
  have r1 := runs_len u 1 [46] _ (vp2 u) rfl
  have r2 := runs_len u 5 [45, 95, 46] _ (vp7 u) rfl
  refine ⟨?_, ?_, ?_, ?_, row_short u hu _ ?_, row_short u hu _ ?_⟩
  · show (epoT u (vp1 u)).length ≤ 65; omega
  · show (stN u (vp3 u) preWs).length ≤ 65; omega
  · show (posN u (vp4 u)).length ≤ 65; omega
  · show (stN u (vp5 u) devWs).length ≤ 65; omega
  · show (vrel u).length ≤ 65
    unfold vrel
    omega
  · unfold vlocs
    split
    · unfold vloc
      omega
    · simp
/-- The error of a text that is none, and its place. -/
def errX (l : List UInt8) : Int × Nat := if 64 < l.length then (12, 64) else verX (lowL l)

theorem Parse_ok (s : ByteArray) (w : World) (h : okP s.data.toList = true) :
    Calls Try.prog 7 #[.string s] w fun e w' => ∃ vr vl, e = .returned (.tuple #[pepV (ofL (pepOf (lowL s.data.toList)).ep) vr (pepOf (lowL s.data.toList)).c (ofL (pepOf (lowL s.data.toList)).n) (pepOf (lowL s.data.toList)).b (ofL (pepOf (lowL s.data.toList)).m) (pepOf (lowL s.data.toList)).d (ofL (pepOf (lowL s.data.toList)).k) vl, .agg #[.int .i64 0, .int .i64 0]]) ∧
      Txt w' vr (pepOf (lowL s.data.toList)).rel ∧ Txt w' vl (pepOf (lowL s.data.toList)).loc ∧ Cap vr ∧ Cap vl ∧ Below w.heap.size w w' := by
  unfold okP at h
  simp only [Bool.and_eq_true, decide_eq_true_eq] at h
  have hl := h.1
  rw [len_data] at hl
  refine (Parse_any s w (by unfold maxLen; omega)).mono ?_
  rintro e w' ⟨hb, hp⟩
  rw [if_neg (by omega), if_pos h.2] at hp
  obtain ⟨v, rfl, ⟨vr, vl, rfl, h1, h2⟩⟩ := hp
  exact ⟨vr, vl, rfl, txt_vals h1, txt_vals h2, cap_row h1, cap_row h2, hb⟩
theorem Parse_no (s : ByteArray) (w : World) (hs : s.size ≤ 140737488351232) (h : okP s.data.toList = false) :
    Calls Try.prog 7 #[.string s] w fun e w' => e = .returned (.tuple #[.agg pepZ, .agg #[.int .i64 (errX s.data.toList).1, .int .i64 ((errX s.data.toList).2 : Int)]]) ∧ Below w.heap.size w w' := by
  refine (Parse_any s w (by unfold maxLen; omega)).mono ?_
  rintro e w' ⟨hb, hp⟩
  unfold okP at h
  unfold errX
  by_cases hl : 64 < s.data.toList.length
  · rw [if_pos hl] at hp ⊢
    exact ⟨hp, hb⟩
  · rw [if_neg hl] at hp ⊢
    have hx : ¬ (verX (lowL s.data.toList)).1 = 0 := fun he => by
      rw [decide_eq_true (show s.data.toList.length ≤ 64 by omega), decide_eq_true he] at h
      cases h
    rw [if_neg hx] at hp
    exact ⟨hp, hb⟩
theorem errX_ne (l : List UInt8) (h : okP l = false) : ((errX l).1 == 0) = false := by
  unfold okP at h
  unfold errX
  by_cases hl : 64 < l.length
  · rw [if_pos hl]; rfl
  · rw [if_neg hl]
    have hx : ¬ (verX (lowL l)).1 = 0 := fun he => by
      rw [decide_eq_true (show l.length ≤ 64 by omega), decide_eq_true he] at h
      cases h
    simpa using hx
theorem lies2 {W W' : World} {A F : Obj} (hb : Below ((W.alloc A).alloc F).heap.size ((W.alloc A).alloc F) W') : W'.heap[W.heap.size]? = some A ∧ W'.heap[W.heap.size + 1]? = some F := by
  refine ⟨(hb.block _ (by simp; omega)).trans ?_, (hb.block _ (by simp)).trans ?_⟩
  · rw [Below.heap_alloc _ _ _ (by simp)]
    exact World.alloc_heap_new W _
  · have := World.alloc_heap_new (W.alloc A) F
    rwa [World.size_alloc] at this

set_option maxRecDepth 100000 in
set_option maxHeartbeats 2000000 in
theorem Compare_NN (s t : ByteArray) (w : World) (hs : s.size ≤ 140737488351232) (ht : t.size ≤ 140737488351232) (ha : okP s.data.toList = false) (hb : okP t.data.toList = false) :
    Calls Try.prog 6 #[.string s, .string t] w fun e w' => e = .returned (.int .i64 (cmpT s.data.toList t.data.toList)) ∧ Below w.heap.size w w' := by
  have HC : Hid (cmpT s.data.toList t.data.toList = 0) := by show _ = _; unfold cmpT; rw [ha, hb]; rfl
  have P1 := fun w => Parse_no s w hs ha
  have P2 := fun w => Parse_no t w ht hb
  have n1 := errX_ne _ ha
  have n2 := errX_ne _ hb
  generalize cmpT s.data.toList t.data.toList = C at *
  generalize (errX s.data.toList).1 = e1 at *
  generalize ((errX s.data.toList).2 : Int) = p1 at *
  unfold pepZ at P1
  generalize (errX t.data.toList).1 = e2 at *
  generalize ((errX t.data.toList).2 : Int) = p2 at *
  unfold pepZ at P2
  have P1 := hide P1
  have P2 := hide P2
  clear ha hb
  go_enter Try.func6, Try.ntmps6
  go_wp2_with fail
  refine (P1.out _).mono ?_
  rintro e w1 ⟨rfl, b1⟩
  go_wp2_with fail
  refine (P2.out _).mono ?_
  rintro e w2 ⟨rfl, b2⟩
  obtain ⟨eA, eF⟩ := lies2 b2
  have hl1 := (Array.getElem?_eq_some_iff.1 eA).1
  have hl2 := (Array.getElem?_eq_some_iff.1 eF).1
  have hl3 : w1.heap.size < w2.heap.size + 1 := by omega
  have hl4 : w1.heap.size + 1 < w2.heap.size + 1 := by omega
  have f0 := cell_at 0 eF rfl
  have f1 := cell_at 1 eF rfl
  have B0 := b1.alloc b1.size (.cells #[.string ⟨#[]⟩, .slice none 0 0, .int .u8 0, .string ⟨#[]⟩, .bool false, .string ⟨#[]⟩, .bool false, .string ⟨#[]⟩, .slice none 0 0] 25)
  have B1 := B0.alloc B0.size (.cells #[.int .i64 e1, .int .i64 p1] 28)
  have B2 := B1.trans (b2.mono B1.size)
  have B3 := B2.alloc B2.size (.cells #[.string ⟨#[]⟩, .slice none 0 0, .int .u8 0, .string ⟨#[]⟩, .bool false, .string ⟨#[]⟩, .bool false, .string ⟨#[]⟩, .slice none 0 0] 25)
  have B4 := B3.alloc B3.size (.cells #[.int .i64 e2, .int .i64 p2] 28)
  have B4 := hide B4
  clear b1 b2 B0 B1 B2 B3
  go_wp2_with fail
  go_quiet (fail)
  go_wp2_with fail
  go_ret
  exact ⟨ret_i HC.out.symm, B4.out.trans (below_drewN _ _ _)⟩

set_option maxRecDepth 100000 in
set_option maxHeartbeats 2000000 in
theorem Compare_NO (s t : ByteArray) (w : World) (hs : s.size ≤ 140737488351232) (ht : t.size ≤ 140737488351232) (ha : okP s.data.toList = false) (hb : okP t.data.toList = true) :
    Calls Try.prog 6 #[.string s, .string t] w fun e w' => e = .returned (.int .i64 (cmpT s.data.toList t.data.toList)) ∧ Below w.heap.size w w' := by
  have HC : Hid (cmpT s.data.toList t.data.toList = -1) := by show _ = _; unfold cmpT; rw [ha, hb]; rfl
  have P1 := fun w => Parse_no s w hs ha
  have P2 := fun w => Parse_ok t w hb
  have n1 := errX_ne _ ha
  have SY : SmallP (pepOf (lowL t.data.toList)) := pep_small _ (by rw [lowL_len]; unfold okP at hb; simp only [Bool.and_eq_true, decide_eq_true_eq] at hb; exact hb.1)
  generalize cmpT s.data.toList t.data.toList = C at *
  generalize (errX s.data.toList).1 = e1 at *
  generalize ((errX s.data.toList).2 : Int) = p1 at *
  unfold pepZ at P1
  generalize pepOf (lowL t.data.toList) = Y at *
  have P1 := hide P1
  have P2 := hide P2
  clear ha hb
  go_enter Try.func6, Try.ntmps6
  go_wp2_with fail
  refine (P1.out _).mono ?_
  rintro e w1 ⟨rfl, b1⟩
  go_wp2_with fail
  refine (P2.out _).mono ?_
  rintro e w2 ⟨vr', vl', rfl, t1', t2', _, _, b2⟩
  obtain ⟨r2, c2, rfl, _⟩ := id t1'
  obtain ⟨q2, d2, rfl, _⟩ := id t2'
  try unfold pepV
  obtain ⟨eA, eF⟩ := lies2 b2
  have hl1 := (Array.getElem?_eq_some_iff.1 eA).1
  have hl2 := (Array.getElem?_eq_some_iff.1 eF).1
  have hl3 : w1.heap.size < w2.heap.size + 1 := by omega
  have hl4 : w1.heap.size + 1 < w2.heap.size + 1 := by omega
  have f0 := cell_at 0 eF rfl
  have f1 := cell_at 1 eF rfl
  have B0 := b1.alloc b1.size (.cells #[.string ⟨#[]⟩, .slice none 0 0, .int .u8 0, .string ⟨#[]⟩, .bool false, .string ⟨#[]⟩, .bool false, .string ⟨#[]⟩, .slice none 0 0] 25)
  have B1 := B0.alloc B0.size (.cells #[.int .i64 e1, .int .i64 p1] 28)
  have B2 := B1.trans (b2.mono B1.size)
  have B3 := B2.alloc B2.size (.cells #[.string (ofL Y.ep), .slice r2 Y.rel.length c2, .int .u8 Y.c, .string (ofL Y.n), .bool Y.b, .string (ofL Y.m), .bool Y.d, .string (ofL Y.k), .slice q2 Y.loc.length d2] 25)
  have B4 := B3.alloc B3.size (.cells #[.int .i64 0, .int .i64 0] 28)
  have B4 := hide B4
  clear b1 b2 B0 B1 B2 B3
  go_wp2_with fail
  go_quiet (fail)
  go_wp2_with fail
  go_ret
  exact ⟨ret_i HC.out.symm, B4.out.trans (below_drewN _ _ _)⟩

set_option maxRecDepth 100000 in
set_option maxHeartbeats 2000000 in
theorem Compare_ON (s t : ByteArray) (w : World) (hs : s.size ≤ 140737488351232) (ht : t.size ≤ 140737488351232) (ha : okP s.data.toList = true) (hb : okP t.data.toList = false) :
    Calls Try.prog 6 #[.string s, .string t] w fun e w' => e = .returned (.int .i64 (cmpT s.data.toList t.data.toList)) ∧ Below w.heap.size w w' := by
  have HC : Hid (cmpT s.data.toList t.data.toList = 1) := by show _ = _; unfold cmpT; rw [ha, hb]; rfl
  have P1 := fun w => Parse_ok s w ha
  have P2 := fun w => Parse_no t w ht hb
  have SX : SmallP (pepOf (lowL s.data.toList)) := pep_small _ (by rw [lowL_len]; unfold okP at ha; simp only [Bool.and_eq_true, decide_eq_true_eq] at ha; exact ha.1)
  have n2 := errX_ne _ hb
  generalize cmpT s.data.toList t.data.toList = C at *
  generalize pepOf (lowL s.data.toList) = X at *
  generalize (errX t.data.toList).1 = e2 at *
  generalize ((errX t.data.toList).2 : Int) = p2 at *
  unfold pepZ at P2
  have P1 := hide P1
  have P2 := hide P2
  clear ha hb
  go_enter Try.func6, Try.ntmps6
  go_wp2_with fail
  refine (P1.out _).mono ?_
  rintro e w1 ⟨vr, vl, rfl, t1, t2, _, _, b1⟩
  obtain ⟨r1, c1, rfl, _⟩ := id t1
  obtain ⟨q1, d1, rfl, _⟩ := id t2
  try unfold pepV
  go_wp2_with fail
  refine (P2.out _).mono ?_
  rintro e w2 ⟨rfl, b2⟩
  obtain ⟨eA, eF⟩ := lies2 b2
  have hl1 := (Array.getElem?_eq_some_iff.1 eA).1
  have hl2 := (Array.getElem?_eq_some_iff.1 eF).1
  have hl3 : w1.heap.size < w2.heap.size + 1 := by omega
  have hl4 : w1.heap.size + 1 < w2.heap.size + 1 := by omega
  have f0 := cell_at 0 eF rfl
  have f1 := cell_at 1 eF rfl
  have B0 := b1.alloc b1.size (.cells #[.string (ofL X.ep), .slice r1 X.rel.length c1, .int .u8 X.c, .string (ofL X.n), .bool X.b, .string (ofL X.m), .bool X.d, .string (ofL X.k), .slice q1 X.loc.length d1] 25)
  have B1 := B0.alloc B0.size (.cells #[.int .i64 0, .int .i64 0] 28)
  have B2 := B1.trans (b2.mono B1.size)
  have B3 := B2.alloc B2.size (.cells #[.string ⟨#[]⟩, .slice none 0 0, .int .u8 0, .string ⟨#[]⟩, .bool false, .string ⟨#[]⟩, .bool false, .string ⟨#[]⟩, .slice none 0 0] 25)
  have B4 := B3.alloc B3.size (.cells #[.int .i64 e2, .int .i64 p2] 28)
  have B4 := hide B4
  clear b1 b2 B0 B1 B2 B3
  go_wp2_with fail
  go_quiet (fail)
  go_wp2_with fail
  go_ret
  exact ⟨ret_i HC.out.symm, B4.out.trans (below_drewN _ _ _)⟩

set_option maxRecDepth 100000 in
set_option maxHeartbeats 2000000 in
theorem Compare_OO (s t : ByteArray) (w : World) (hs : s.size ≤ 140737488351232) (ht : t.size ≤ 140737488351232) (ha : okP s.data.toList = true) (hb : okP t.data.toList = true) :
    Calls Try.prog 6 #[.string s, .string t] w fun e w' => e = .returned (.int .i64 (cmpT s.data.toList t.data.toList)) ∧ Below w.heap.size w w' := by
  have HC : Hid (cmpT s.data.toList t.data.toList = ordP (pepOf (lowL s.data.toList)) (pepOf (lowL t.data.toList))) := by show _ = _; unfold cmpT; rw [ha, hb]; rfl
  have P1 := fun w => Parse_ok s w ha
  have P2 := fun w => Parse_ok t w hb
  have SX : SmallP (pepOf (lowL s.data.toList)) := pep_small _ (by rw [lowL_len]; unfold okP at ha; simp only [Bool.and_eq_true, decide_eq_true_eq] at ha; exact ha.1)
  have SY : SmallP (pepOf (lowL t.data.toList)) := pep_small _ (by rw [lowL_len]; unfold okP at hb; simp only [Bool.and_eq_true, decide_eq_true_eq] at hb; exact hb.1)
  generalize cmpT s.data.toList t.data.toList = C at *
  generalize pepOf (lowL s.data.toList) = X at *
  generalize pepOf (lowL t.data.toList) = Y at *
  have P1 := hide P1
  have P2 := hide P2
  clear ha hb
  go_enter Try.func6, Try.ntmps6
  go_wp2_with fail
  refine (P1.out _).mono ?_
  rintro e w1 ⟨vr, vl, rfl, t1, t2, _, _, b1⟩
  obtain ⟨r1, c1, rfl, _⟩ := id t1
  obtain ⟨q1, d1, rfl, _⟩ := id t2
  try unfold pepV
  go_wp2_with fail
  refine (P2.out _).mono ?_
  rintro e w2 ⟨vr', vl', rfl, t1', t2', _, _, b2⟩
  obtain ⟨r2, c2, rfl, _⟩ := id t1'
  obtain ⟨q2, d2, rfl, _⟩ := id t2'
  try unfold pepV
  obtain ⟨eA, eF⟩ := lies2 b2
  have hl1 := (Array.getElem?_eq_some_iff.1 eA).1
  have hl2 := (Array.getElem?_eq_some_iff.1 eF).1
  have hl3 : w1.heap.size < w2.heap.size + 1 := by omega
  have hl4 : w1.heap.size + 1 < w2.heap.size + 1 := by omega
  have f0 := cell_at 0 eF rfl
  have f1 := cell_at 1 eF rfl
  have a0 := cell_at 0 eA rfl
  have a1 := cell_at 1 eA rfl
  have a2 := cell_at 2 eA rfl
  have a3 := cell_at 3 eA rfl
  have a4 := cell_at 4 eA rfl
  have a5 := cell_at 5 eA rfl
  have a6 := cell_at 6 eA rfl
  have a7 := cell_at 7 eA rfl
  have a8 := cell_at 8 eA rfl
  have B0 := b1.alloc b1.size (.cells #[.string (ofL X.ep), .slice r1 X.rel.length c1, .int .u8 X.c, .string (ofL X.n), .bool X.b, .string (ofL X.m), .bool X.d, .string (ofL X.k), .slice q1 X.loc.length d1] 25)
  have B1 := B0.alloc B0.size (.cells #[.int .i64 0, .int .i64 0] 28)
  have B2 := B1.trans (b2.mono B1.size)
  have B3 := B2.alloc B2.size (.cells #[.string (ofL Y.ep), .slice r2 Y.rel.length c2, .int .u8 Y.c, .string (ofL Y.n), .bool Y.b, .string (ofL Y.m), .bool Y.d, .string (ofL Y.k), .slice q2 Y.loc.length d2] 25)
  have B4 := B3.alloc B3.size (.cells #[.int .i64 0, .int .i64 0] 28)
  have bq : Below w1.heap.size w1 ((w2.alloc (.cells #[.string (ofL Y.ep), .slice r2 Y.rel.length c2, .int .u8 Y.c, .string (ofL Y.n), .bool Y.b, .string (ofL Y.m), .bool Y.d, .string (ofL Y.k), .slice q2 Y.loc.length d2] 25)).alloc (.cells #[.int .i64 0, .int .i64 0] 28)) := (((((Below.refl w1.heap.size w1).alloc (Nat.le_refl _) (.cells #[.string (ofL X.ep), .slice r1 X.rel.length c1, .int .u8 X.c, .string (ofL X.n), .bool X.b, .string (ofL X.m), .bool X.d, .string (ofL X.k), .slice q1 X.loc.length d1] 25)).alloc (by simp) (.cells #[.int .i64 0, .int .i64 0] 28)).trans (b2.mono (by simp; omega))).alloc (by omega) _).alloc (by simp; omega) _
  have bq2 : Below w2.heap.size w2 ((w2.alloc (.cells #[.string (ofL Y.ep), .slice r2 Y.rel.length c2, .int .u8 Y.c, .string (ofL Y.n), .bool Y.b, .string (ofL Y.m), .bool Y.d, .string (ofL Y.k), .slice q2 Y.loc.length d2] 25)).alloc (.cells #[.int .i64 0, .int .i64 0] 28)) := ((Below.refl _ w2).alloc (Nat.le_refl _) _).alloc (by simp) _
  have OO := fun m => order_any _ _ X Y (((w2.alloc (.cells #[.string (ofL Y.ep), .slice r2 Y.rel.length c2, .int .u8 Y.c, .string (ofL Y.n), .bool Y.b, .string (ofL Y.m), .bool Y.d, .string (ofL Y.k), .slice q2 Y.loc.length d2] 25)).alloc (.cells #[.int .i64 0, .int .i64 0] 28)).drewN m) ⟨_, _, rfl, (t1.below bq).drewN m, (t2.below bq).drewN m⟩ ⟨_, _, rfl, (t1'.below bq2).drewN m, (t2'.below bq2).drewN m⟩ SX.short SY.short
  unfold pepV at OO
  have OO := hide OO
  clear t1 t2 t1' t2' bq bq2
  have B4 := hide B4
  clear b1 b2 B0 B1 B2 B3
  go_wp2_with fail
  go_quiet (fail)
  go_wp2_with fail
  refine (OO.out _).mono ?_
  rintro e w3 ⟨rfl, b3⟩
  go_wp2_with fail
  go_ret
  have B5 := B4.out.trans (below_drewN _ _ nq)
  exact ⟨ret_i HC.out.symm, B5.trans (b3.mono B5.size)⟩

theorem CompareT_any (s t : ByteArray) (w : World) (hs : s.size ≤ 140737488351232) (ht : t.size ≤ 140737488351232) :
    Calls Try.prog 6 #[.string s, .string t] w fun e w' => e = .returned (.int .i64 (cmpT s.data.toList t.data.toList)) ∧ Below w.heap.size w w' := by
  cases ha : okP s.data.toList
  · cases hb : okP t.data.toList
    · exact Compare_NN s t w hs ht ha hb
    · exact Compare_NO s t w hs ht ha hb
  · cases hb : okP t.data.toList
    · exact Compare_ON s t w hs ht ha hb
    · exact Compare_OO s t w hs ht ha hb

end Go.Proofs.Ytninjeahngkaoaa
