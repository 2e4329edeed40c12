/-
  Walks: the program's Sort: a text read, and the comparing closure.
-/
import Derived.Test.YtobcoppbphfcaaaDoorSk
import Derived.Test.YtobcoppbphfcaaaDoorDn
import Derived.Test.YtobcoppbphfcaaaDoorFf
import Derived.Laws.AppendOwnNone
import Derived.Test.YtobcoppbphfcaaaDoorDr
import Derived.Test.YtobcoppbphfcaaaDoorDs
namespace Go.Proofs.YtobcoppbphfcaaaDoor
open Go.RowKit Go.Shelf
set_option linter.unusedVariables false

/-- What reading leaves, and where. -/
def ReadNew (s : ByteArray) (w : World) (r : Ending) (w' : World) : Prop := ∃ a n c k, r = .returned (.agg #[.string s, .slice a n c, .bool k]) ∧ Rd w' s.data.toList (.slice a n c) k ∧ Below w.heap.size w w' ∧ ∀ ad, a = some ad → w.heap.size ≤ ad.block

set_option maxRecDepth 100000 in
set_option maxHeartbeats 1000000 in
theorem read_new (s : ByteArray) (w : World) (hk : Kn w) :
    Calls Tryd.prog 68 #[.string s, .func (.func 8) #[] #[]] w (ReadNew s w) := by
  cases hp : toksL s.data.toList with
  | error x =>
    have C := hide (fun w => Tokens_no s x hp w)
    have hx0 : (x.1 == 0) = false := by simpa using toks_errs hp
    go_enter Tryd.func68, Tryd.ntmps68
    go_wp2_with fail
    refine (C.out _).mono ?_
    rintro e' w1 ⟨rfl, b1⟩
    have eR := (b1.block w.heap.size (by simp)).trans (World.alloc_heap_new w (.cells #[.string ⟨#[]⟩, .slice none 0 0, .bool false] 87))
    have bw := ((Below.refl _ w).alloc (Nat.le_refl _) (.cells #[.string ⟨#[]⟩, .slice none 0 0, .bool false] 87)).trans (b1.mono (by simp))
    have hlt : w.heap.size < w1.heap.size := (Array.getElem?_eq_some_iff.1 eR).1
    have hlt1 : w.heap.size < w1.heap.size + 1 := by omega
    have r0 := cell_at 0 eR rfl
    have r1 := cell_at 1 eR rfl
    have r2 := cell_at 2 eR rfl
    have z0 := one_free 0 eR
    have z1 := one_free 1 eR
    have z2 := one_free 2 eR
    clear b1
    go_wp2_with fail
    obtain ⟨W9, hW9, g1, b9, _⟩ := three87 (.string s) (.slice none 0 0) (.bool false) (.cells #[.int .i64 x.1, .int .i64 (x.2 : Int)] 25) eR
    rw [← hW9]
    exact fin68 _ W9 w.heap.size s _ _ _ _ rfl g1 ⟨_, _, _, _, rfl, .inl ⟨x, hp, rfl, rfl⟩, bw.trans b9, fun ad h => by cases h⟩
  | ok ts =>
    have C := hide (fun w h => Tokens_ok s ts hp w h)
    go_enter Tryd.func68, Tryd.ntmps68
    go_wp2_with fail
    refine (C.out _ (by simp)).mono ?_
    rintro e' w1 ⟨v, rfl, ht, b1⟩
    have eR := (b1.block w.heap.size (by simp)).trans (World.alloc_heap_new w (.cells #[.string ⟨#[]⟩, .slice none 0 0, .bool false] 87))
    have bw := ((Below.refl _ w).alloc (Nat.le_refl _) (.cells #[.string ⟨#[]⟩, .slice none 0 0, .bool false] 87)).trans (b1.mono (by simp))
    have hlt : w.heap.size < w1.heap.size := (Array.getElem?_eq_some_iff.1 eR).1
    have hlt1 : w.heap.size < w1.heap.size + 1 := by omega
    have HT := hide ht
    obtain ⟨b, cap, sp, rfl, hnb, _⟩ := ht
    have hnb : w.heap.size ≤ b := by simp only [World.size_alloc] at hnb; omega
    have r0 := cell_at 0 eR rfl
    have r1 := cell_at 1 eR rfl
    have r2 := cell_at 2 eR rfl
    have z0 := one_free 0 eR
    have z1 := one_free 1 eR
    have z2 := one_free 2 eR
    clear b1
    go_wp2_with fail
    obtain ⟨W9, hW9, g1, b9, k9⟩ := three87 (.string s) (.slice (some ⟨b, 0, none⟩) ts.length cap) (.bool true) (.cells #[.int .i64 0, .int .i64 0] 25) eR
    rw [← hW9]
    exact fin68 _ W9 w.heap.size s _ _ _ _ rfl g1 ⟨_, _, _, _, rfl, .inr ⟨ts, hp, rfl, (k9 _ _ _ (by simp) HT.out).toks⟩, bw.trans b9, fun ad h => by cases h; exact hnb⟩


/-- A text with where its tokens lie. -/
structure Rdg where
  txt : List UInt8
  sl : Option Addr × Nat × Nat
  ok : Bool
/-- It says what its text says, outside of a block. -/
def Good (W : World) (B : Nat) (r : Rdg) : Prop := Rd W r.txt (.slice r.sl.1 r.sl.2.1 r.sl.2.2) r.ok ∧ ∀ ad, r.sl.1 = some ad → ad.block ≠ B
theorem Good.turn {W W' : World} {B : Nat} {r : Rdg} (h : Good W B r) (ht : Turn B W W') : Good W' B r := by
  obtain ⟨h1, h2⟩ := h
  refine ⟨?_, h2⟩
  rcases h1 with h1 | ⟨ts, e1, e2, a, cap, hv, h0 | ⟨b, off, ha, hlt, hc⟩⟩
  · exact .inl h1
  · exact .inr ⟨ts, e1, e2, a, cap, hv, .inl h0⟩
  · have hb : b ≠ B := by
      have e : r.sl.1 = a := (Value.slice.inj hv).1
      exact h2 ⟨b, off, none⟩ (by rw [e, ha])
    exact .inr ⟨ts, e1, e2, a, cap, hv, .inr ⟨b, off, ha, Nat.lt_of_lt_of_le hlt ht.size, hc.of_block (ht.block b hlt hb)⟩⟩
def zeroR : Rdg := ⟨[], (none, 0, 0), false⟩
theorem toks_nil : toksL [] = .error (11, 0) := by kernel_rfl
theorem good_zero (W : World) (B : Nat) : Good W B zeroR := ⟨.inl ⟨_, toks_nil, rfl, rfl⟩, fun ad h => by cases h⟩

/-- A reading, cell by cell. -/
def rdE : Cel Rdg where
  c0 r := ofL r.txt
  c1 r := r.sl
  c2 r := r.ok
/-- Readings that say what their texts say. -/
structure GRd (W : World) (B : Nat) where
  rd : Rdg
  good : Good W B rd
def grE (W : World) (B : Nat) : Cel (GRd W B) where
  c0 r := ofL r.rd.txt
  c1 r := r.rd.sl
  c2 r := r.rd.ok
def grF (W : World) (B : Nat) (x y : GRd W B) : Int := cmpT x.rd.txt y.rd.txt
theorem grF_cmp3 (W : World) (B : Nat) : Cmp3 (grF W B) := cmpT_cmp3.pull (fun x : GRd W B => x.rd.txt)
def good_list (W : World) (B : Nat) : (rs : List Rdg) → (∀ r ∈ rs, Good W B r) → List (GRd W B)
  | [], _ => []
  | r :: rs, h => ⟨r, h r List.mem_cons_self⟩ :: good_list W B rs (fun q hq => h q (List.mem_cons_of_mem _ hq))
theorem good_flat (W : World) (B : Nat) : ∀ (rs : List Rdg) (h : ∀ r ∈ rs, Good W B r), (grE W B).flat (good_list W B rs h) = rdE.flat rs
  | [], _ => rfl
  | r :: rs, h => by
    rw [good_list, flat_cons, flat_cons, good_flat W B rs]
    rfl
theorem good_txt (W : World) (B : Nat) : ∀ (rs : List Rdg) (h : ∀ r ∈ rs, Good W B r), (good_list W B rs h).map (fun x => x.rd.txt) = rs.map Rdg.txt
  | [], _ => rfl
  | r :: rs, h => by
    rw [good_list, List.map_cons, List.map_cons, good_txt W B rs]

set_option maxRecDepth 100000 in
set_option maxHeartbeats 1000000 in
/-- The comparing closure. -/
theorem cmpG_any (w0 : World) (B Bo : Nat) (hBo : Bo ≠ B) (hB0 : B ≠ 0) (hk : Kn w0) (ho : Boxed w0 Bo 35 (.func (.func 41) #[] #[])) : CmpG (grE w0 B) (grF w0 B) (.pointer (some ⟨Bo, 0, none⟩)) w0 B := by
  intro W hW x y
  have ho' : Boxed W Bo 35 (.func (.func 41) #[] #[]) := (hW.block Bo ho.lt hBo).trans ho
  have hkW : Kn W := hk.block hW.size (hW.block 0 hk.pos (fun e => hB0 e.symm))
  have gx := (x.good.turn hW).1
  have gy := (y.good.turn hW).1
  have lo := ho'.lt
  have b0 := hide (((Below.refl _ W).alloc (Nat.le_refl _) (.cells #[.string ((grE w0 B).c0 x), .slice ((grE w0 B).c1 x).1 ((grE w0 B).c1 x).2.1 ((grE w0 B).c1 x).2.2, .bool ((grE w0 B).c2 x)] 87)).alloc (by simp) (.cells #[.string ((grE w0 B).c0 y), .slice ((grE w0 B).c1 y).1 ((grE w0 B).c1 y).2.1 ((grE w0 B).c1 y).2.2, .bool ((grE w0 B).c2 y)] 87))
  have CR : Calls Tryd.prog 67 #[.agg #[.string ((grE w0 B).c0 x), .slice ((grE w0 B).c1 x).1 ((grE w0 B).c1 x).2.1 ((grE w0 B).c1 x).2.2, .bool ((grE w0 B).c2 x)], .agg #[.string ((grE w0 B).c0 y), .slice ((grE w0 B).c1 y).1 ((grE w0 B).c1 y).2.1 ((grE w0 B).c1 y).2.2, .bool ((grE w0 B).c2 y)], .func (.func 41) #[] #[], .func (.func 69) #[] #[]] _ _ :=
    compareR_any x.rd.txt y.rd.txt _ _ _ _ _ _ _ _ _ (hkW.below hkW.pos b0.out) (gx.below b0.out) (gy.below b0.out)
  have CR := hide CR
  unfold Cel.val
  have HF : Hid (grF w0 B x y = cmpT x.rd.txt y.rd.txt) := rfl
  generalize grF w0 B x y = R at *
  generalize (grE w0 B).c0 x = x0 at *
  generalize (grE w0 B).c1 x = x1 at *
  generalize (grE w0 B).c2 x = x2 at *
  generalize (grE w0 B).c0 y = y0 at *
  generalize (grE w0 B).c1 y = y1 at *
  generalize (grE w0 B).c2 y = y2 at *
  obtain ⟨xa, xn, xc⟩ := x1
  obtain ⟨ya, yn, yc⟩ := y1
  dsimp only at CR b0 ⊢
  have co := ho'.cell
  have lo1 : Bo < W.heap.size + 1 := by omega
  clear ho ho' gx gy
  go_enter Tryd.func71, Tryd.ntmps71
  go_wp2_with fail
  refine CR.out.mono ?_
  rintro e w1 ⟨rfl, b1⟩
  go_wp2_with fail
  go_ret
  exact ⟨ret_i HF.out.symm, b0.out.trans (b1.mono b0.out.size)⟩

end Go.Proofs.YtobcoppbphfcaaaDoor

/-
  Walks: the program's Sort: the two rows it makes.
-/
namespace Go.Proofs.YtobcoppbphfcaaaDoor
open Go.RowKit Go.Shelf
set_option linter.unusedVariables false

/-- A reading of nothing. -/
def zero87 : Array Value := #[.string ⟨#[]⟩, .slice none 0 0, .bool false]
theorem made_flat (n : Nat) : (madeCells zero87 (n * 3)).toList = rdE.flat (List.replicate n zeroR) := by
  apply List.ext_getElem?
  intro i
  by_cases hi : i < n * 3
  · have hq : (List.replicate n zeroR)[i / 3]? = some zeroR := by
      rw [List.getElem?_replicate, if_pos (by omega)]
    obtain ⟨h0, h1, h2⟩ := flat_at rdE _ _ _ hq
    have e : (madeCells zero87 (n * 3)).toList[i]? = some (zero87[i % 3]!) := by
      unfold madeCells
      rw [Array.getElem?_toList, Array.getElem?_map, Array.getElem?_range, if_pos hi]
      rfl
    rw [e]
    have hr : i % 3 = 0 ∨ i % 3 = 1 ∨ i % 3 = 2 := by omega
    rcases hr with hr | hr | hr
    · rw [hr, show i = i / 3 * 3 by omega, h0]; rfl
    · rw [hr, show i = i / 3 * 3 + 1 by omega, h1]; rfl
    · rw [hr, show i = i / 3 * 3 + 2 by omega, h2]; rfl
  · rw [List.getElem?_eq_none (by rw [Array.length_toList, size_madeCells]; omega), List.getElem?_eq_none (by rw [flat_len, List.length_replicate]; omega)]

theorem inf87 : ∃ i, Tryd.prog.info? 87 = some i ∧ i.zero = some (.agg zero87) ∧ i.bytes = 48 ∧ i.size = 3 := by
  cases h : Tryd.prog.info? 87 with
  | none => exact absurd (show (Tryd.prog.info? 87).isSome = true by kernel_rfl) (by rw [h]; simp)
  | some i =>
    refine ⟨i, rfl, ?_, ?_, ?_⟩
    · have : (Tryd.prog.info? 87).bind (fun i => i.zero) = some (.agg zero87) := by kernel_rfl
      rwa [h] at this
    · have : (Tryd.prog.info? 87).map (fun i => i.bytes) = some 48 := by kernel_rfl
      rw [h] at this; simpa using this
    · have : (Tryd.prog.info? 87).map (fun i => i.size) = some 3 := by kernel_rfl
      rw [h] at this; simpa using this
theorem inf9 : ∃ i, Tryd.prog.info? 9 = some i ∧ i.zero = some (.string ⟨#[]⟩) ∧ i.bytes = 16 ∧ i.size = 1 := by
  cases h : Tryd.prog.info? 9 with
  | none => exact absurd (show (Tryd.prog.info? 9).isSome = true by kernel_rfl) (by rw [h]; simp)
  | some i =>
    refine ⟨i, rfl, ?_, ?_, ?_⟩
    · have : (Tryd.prog.info? 9).bind (fun i => i.zero) = some (.string ⟨#[]⟩) := by kernel_rfl
      rwa [h] at this
    · have : (Tryd.prog.info? 9).map (fun i => i.bytes) = some 16 := by kernel_rfl
      rw [h] at this; simpa using this
    · have : (Tryd.prog.info? 9).map (fun i => i.size) = some 1 := by kernel_rfl
      rw [h] at this; simpa using this
theorem mk87 (n : Nat) (hn : n ≤ 1048576) (w : World) : (Instr.makeSlice 89 (.int .i64 (n : Int)) (.int .i64 (n : Int))).run Tryd.prog w = .ok (.slice (some ⟨w.heap.size, 0, none⟩) n n) (w.alloc (.cells (rdE.flat (List.replicate n zeroR)).toArray 87)) := by
  obtain ⟨i, h1, h2, h3, h4⟩ := inf87
  have h := run_make (P := Tryd.prog) w 89 87 i (.agg zero87) Tryd.underlying89 h1 h2 .i64 .i64 (n : Int) (n : Int) (by omega) (Int.le_refl _) (by rw [h3]; omega) (by omega)
  rw [h, h4, Int.toNat_natCast]
  have e : madeCells zero87 (n * 3) = (rdE.flat (List.replicate n zeroR)).toArray := by rw [← made_flat]
  rw [← e]
  rfl
theorem mk9 (n : Nat) (hn : n ≤ 1048576) (w : World) : (Instr.makeSlice 33 (.int .i64 (n : Int)) (.int .i64 (n : Int))).run Tryd.prog w = .ok (.slice (some ⟨w.heap.size, 0, none⟩) n n) (w.alloc (.cells (List.replicate n (.string ⟨#[]⟩)).toArray 9)) := by
  obtain ⟨i, h1, h2, h3, h4⟩ := inf9
  have h := run_make (P := Tryd.prog) w 33 9 i (.string ⟨#[]⟩) Tryd.underlying33 h1 h2 .i64 .i64 (n : Int) (n : Int) (by omega) (Int.le_refl _) (by rw [h3]; omega) (by omega)
  rw [h, h4, Int.toNat_natCast, Nat.mul_one]
  have e : madeCells #[.string ⟨#[]⟩] n = (List.replicate n (.string ⟨#[]⟩ : Value)).toArray := by rw [← toList_madeCells_one]
  rw [← e]
  rfl


end Go.Proofs.YtobcoppbphfcaaaDoor

/-
  Walks: the program's Sort.
-/
namespace Go.Proofs.YtobcoppbphfcaaaDoor
open Go.RowKit Go.Shelf
set_option linter.unusedVariables false

theorem txt_at {W : World} {a : Option Addr} {n cap : Nat} {ts : List (List UInt8)} (h : Txt W (.slice a n cap) ts) (hne : 0 < ts.length) :
    ∃ b off, a = some ⟨b, off, none⟩ ∧ b < W.heap.size ∧ ∀ i (h : i < ts.length), W.cell? ⟨b, off + i, none⟩ = some (.string (ofL ts[i])) := by
  obtain ⟨a', cap', hv, h0 | ⟨b, off, ha, hlt, hc⟩⟩ := h
  · subst h0; simp at hne
  · cases hv
    exact ⟨b, off, ha, hlt, hc⟩
theorem cell_kept {W W' : World} {b o : Nat} (h : W'.heap[b]? = W.heap[b]?) : W'.cell? ⟨b, o, none⟩ = W.cell? ⟨b, o, none⟩ := by simp only [World.cell?]; rw [h]
theorem take_set {α : Type} (ts : List α) (z : α) (i : Nat) (hi : i < ts.length) : (ts.take i ++ List.replicate (ts.length - i) z).set i ts[i] = ts.take (i + 1) ++ List.replicate (ts.length - (i + 1)) z := by
  have hl : (ts.take i).length = i := by rw [List.length_take]; omega
  rw [List.set_append_right _ _ (by rw [hl]; exact Nat.le_refl _), hl, Nat.sub_self, show ts.length - i = (ts.length - (i + 1)) + 1 by omega, List.replicate_succ, List.set_cons_zero, List.take_succ_eq_append_getElem hi, List.append_assoc]
  rfl

theorem all_set {α : Type} {p : α → Prop} {l : List α} (h : ∀ r ∈ l, p r) (i : Nat) (x : α) (hx : p x) : ∀ r ∈ l.set i x, p r := fun r hr => by
  rcases List.mem_or_eq_of_mem_set hr with hr | rfl
  · exact h r hr
  · exact hx

/-- The rows of the second loop: readings, and texts told so far. -/
structure SW {α : Type} (E : Cel α) (w2 : World) (B C : Nat) (S : List α) (i : Nat) (W : World) : Prop where
  dw : DW E w2 B S W
  ne : C ≠ B
  cs : W.heap[C]? = some (.cells (((S.take i).map fun t => (.string (E.c0 t) : Value)) ++ List.replicate (S.length - i) (.string ⟨#[]⟩ : Value)).toArray 9 (0, 0))
theorem SW.alloc {α : Type} {E : Cel α} {w2 : World} {B C : Nat} {S : List α} {i : Nat} {W : World} (h : SW E w2 B C S i W) (o : Obj) : SW E w2 B C S i (W.alloc o) :=
  ⟨h.dw.next ((Below.refl _ W).alloc (Nat.le_refl _) o), h.ne, (Below.heap_alloc _ _ _ (Array.getElem?_eq_some_iff.1 h.cs).1).trans h.cs⟩
theorem SW.put {α : Type} {E : Cel α} {w2 : World} {B C : Nat} {S : List α} {i : Nat} {W : World} (h : SW E w2 B C S i W) (hC : w2.heap.size ≤ C) (hi : i < S.length) : SW E w2 B C S (i + 1) (W.setCell ⟨C, i, none⟩ (.string (E.c0 S[i]))) := by
  refine ⟨⟨?_, ?_⟩, h.ne, ?_⟩
  · exact ⟨h.dw.turn.os, h.dw.turn.tape, h.dw.turn.output, by rw [show (W.setCell ⟨C, i, none⟩ (.string (E.c0 S[i]))).heap.size = W.heap.size from Array.size_modify]; exact h.dw.turn.size, fun k hk hn => (Below.heap_setCell _ _ _ k (by simp only; omega)).trans (h.dw.turn.block k hk hn)⟩
  · exact (Below.heap_setCell _ _ _ B (fun e => h.ne e.symm)).trans h.dw.cells
  · rw [set_list i _ h.cs]
    congr 3
    have hl : ((S.take i).map fun t => (.string (E.c0 t) : Value)).length = i := by rw [List.length_map, List.length_take]; omega
    rw [List.set_append_right _ _ (by rw [hl]; exact Nat.le_refl _), hl, Nat.sub_self, show S.length - i = (S.length - (i + 1)) + 1 by omega, List.replicate_succ, List.set_cons_zero, List.take_succ_eq_append_getElem hi, List.map_append, List.append_assoc]
    rfl

set_option maxRecDepth 100000 in
set_option maxHeartbeats 4000000 in
theorem TextsSort_any (a : Option Addr) (cap n : Nat) (ts : List (List UInt8)) (hlen : ts.length = n) (w : World) (hk : Kn w) (hT : Txt w (.slice a n cap) ts) (hn : n ≤ 1048576) :
    Calls Tryd.prog 45 #[.slice a n cap, .func (.func 8) #[] #[], .func (.func 41) #[] #[]] w fun e w' => ∃ b, e = .returned (.slice (some ⟨b, 0, none⟩) n n) ∧ Txt w' (.slice (some ⟨b, 0, none⟩) n n) (srt cmpT ts) ∧ w.heap.size ≤ b ∧ Below w.heap.size w w' := by
  have M1 := mk87 n hn
  have HT := hide hT
  have HL := hide hlen
  have HK := hide hk
  have hpos := hk.pos
  have hob : Boxed (w.alloc (.cells #[.func (.func 41) #[] #[]] 35)) w.heap.size 35 (.func (.func 41) #[] #[]) := World.alloc_heap_new w _
  clear hT hlen hk
  obtain ⟨w1, hw1⟩ : ∃ w1, w1 = w.alloc (.cells #[.func (.func 41) #[] #[]] 35) := ⟨_, rfl⟩
  have z1 : w1.heap.size = w.heap.size + 1 := by rw [hw1]; simp
  have b1 : Below w.heap.size w w1 := by rw [hw1]; exact (Below.refl _ w).alloc (Nat.le_refl _) _
  obtain ⟨w2, hw2⟩ : ∃ w2, w2 = w1.alloc (.cells (rdE.flat (List.replicate n zeroR)).toArray 87) := ⟨_, rfl⟩
  have z2 : w2.heap.size = w.heap.size + 1 + 1 := by rw [hw2]; simp; omega
  have b2 : Below w.heap.size w w2 := by rw [hw2]; exact b1.alloc (by omega) _
  have hob2 : Boxed w2 w.heap.size 35 (.func (.func 41) #[] #[]) := by
    rw [hw2]; rw [← hw1] at hob
    exact (Below.heap_alloc _ _ _ (by omega)).trans hob
  have d0 : DW rdE w2 (w.heap.size + 1) (List.replicate n zeroR) w2 := ⟨Turn.refl _ _, by rw [hw2, ← z1]; exact World.alloc_heap_new w1 _⟩
  have HL2 : Hid (∀ W, Turn (w.heap.size + 1) w2 W → ∀ i (h : i < ts.length), ∃ b off, a = some ⟨b, off, none⟩ ∧ W.cell? ⟨b, off + i, none⟩ = some (.string (ofL ts[i]))) := by
    intro W hW i h
    obtain ⟨b, off, ha, hlt, hc⟩ := txt_at HT.out (by omega)
    refine ⟨b, off, ha, ?_⟩
    rw [← hc i h]
    exact cell_kept ((hW.block b (by omega) (by omega)).trans (b2.block b hlt))
  have HK2 : Hid (∀ W, Turn (w.heap.size + 1) w2 W → Kn W) := fun W hW =>
    HK.out.below hpos (b2.trans (hW.below (by omega) (by omega)))
  have HOB := hide hob2
  clear hob hob2
  rw [hw1] at hw2
  clear hw1
  have hz1 : (w.alloc (.cells #[.func (.func 41) #[] #[]] 35)).heap.size = w.heap.size + 1 := by simp
  go_enter Tryd.func45, Tryd.ntmps45
  go_wp2_with fail
  rw [← hw2]
  clear hw2 M1 hz1
  go_loopw [18] (fun x wr => ∃ (i : Nat) (rs : List Rdg), i ≤ n ∧ x = .int .i64 i ∧ DW rdE w2 (w.heap.size + 1) rs wr ∧ Hid (rs.map Rdg.txt = ts.take i ++ List.replicate (ts.length - i) []) ∧ Hid (∀ r ∈ rs, Good wr (w.heap.size + 1) r)) (fun x _ => n - (intOf x).toNat)
  case atStart => exact ⟨0, List.replicate n zeroR, by omega, rfl, d0, by show _ = _; rw [HL.out, List.map_replicate, List.take_zero, List.nil_append, Nat.sub_zero]; rfl, fun r hr => by rw [(List.mem_replicate.1 hr).2]; exact good_zero _ _⟩
  case round =>
    clear d0
    rename World => wo
    obtain ⟨i, rs, hi, rfl, hD, HM, HG⟩ := hrel
    have HRL : Hid (rs.length = n) := by
      have := congrArg List.length HM.out
      rw [List.length_map, List.length_append, List.length_take, List.length_replicate, HL.out] at this
      show _ = _
      omega
    by_cases hlt : i < n
    · have hlt' : (i : Int) < (n : Int) := by omega
      have hil : i < ts.length := by rw [HL.out]; exact hlt
      obtain ⟨b, off, rfl, hc⟩ := HL2.out wo hD.turn i hil
      have HTS := hide (take_set ts [] i hil)
      have HXI : Hid (∃ z, rs[i]? = some z) := some_at _ i (by rw [HRL.out]; exact hlt)
      have HLI : Hid (i < rs.length) := by show _ < _; rw [HRL.out]; exact hlt
      have RD := fun w h => read_new (ofL ts[i]) w h
      unfold ReadNew at RD
      rw [ofL_data] at RD
      have RD := hide RD
      generalize ts[i] = s at *
      have hBl : w.heap.size + 1 < wo.heap.size := hD.lt
      clear hil
      go_wp2_with fail
      refine (RD.out _ (HK2.out wo hD.turn)).mono ?_
      rintro e w3 ⟨ra, rn, rc, rk, rfl, rd3, b3, new3⟩
      have hD3 := hD.next b3
      obtain ⟨z, hz⟩ := HXI.out
      obtain ⟨p0, p1, p2⟩ := hD3.seen i z hz
      have f0 := hD3.free (i * 3)
      have f1 := hD3.free (i * 3 + 1)
      have f2 := hD3.free (i * 3 + 2)
      have HP := hide (hD3.put i ⟨s, (ra, rn, rc), rk⟩ HLI.out)
      have TU : Turn (w.heap.size + 1) w3 (((w3.setCell ⟨w.heap.size + 1, i * 3, none⟩ (.string (ofL s))).setCell ⟨w.heap.size + 1, i * 3 + 1, none⟩ (.slice ra rn rc)).setCell ⟨w.heap.size + 1, i * 3 + 2, none⟩ (.bool rk)) := ((Turn.set _ _ _ _).trans (Turn.set _ _ _ _)).trans (Turn.set _ _ _ _)
      have HGG : Hid (∀ r ∈ rs.set i ⟨s, (ra, rn, rc), rk⟩, Good (((w3.setCell ⟨w.heap.size + 1, i * 3, none⟩ (.string (ofL s))).setCell ⟨w.heap.size + 1, i * 3 + 1, none⟩ (.slice ra rn rc)).setCell ⟨w.heap.size + 1, i * 3 + 2, none⟩ (.bool rk)) (w.heap.size + 1) r) :=
        all_set (fun r hr => ((HG.out r hr).turn (Turn.ofBelow b3)).turn TU) i _ (Good.turn (W := w3) ⟨rd3, fun ad h => by have := new3 ad h; omega⟩ TU)
      have HMM : Hid ((rs.set i ⟨s, (ra, rn, rc), rk⟩).map Rdg.txt = ts.take (i + 1) ++ List.replicate (ts.length - (i + 1)) []) := by
        show _ = _
        rw [List.map_set, HM.out]
        exact HTS.out
      clear hz
      go_wp2_with fail
      go_roundw
      case rel => exact ⟨i + 1, _, by omega, by go_num, HP.out, HMM, HGG⟩
      case measure => simp [intOf]; omega
    · have hlt' : ¬ (i : Int) < (n : Int) := by omega
      have HM0 : Hid (rs.map Rdg.txt = ts) := by
        show _ = _
        rw [HM.out, List.take_of_length_le (by rw [HL.out]; omega), show ts.length - i = 0 by rw [HL.out]; omega]; simp
      have HB1 : Hid (Below w.heap.size w wo) := b2.trans (hD.turn.below (by omega) (by omega))
      have HBO : Boxed wo w.heap.size 35 (.func (.func 41) #[] #[]) := (hD.turn.block _ (by omega) (by omega)).trans HOB.out
      obtain ⟨xs, hxs⟩ : ∃ xs, xs = good_list wo (w.heap.size + 1) rs HG.out := ⟨_, rfl⟩
      have hD0 : DW (grE wo (w.heap.size + 1)) wo (w.heap.size + 1) xs wo := ⟨Turn.refl _ _, by rw [hxs, good_flat]; exact hD.cells⟩
      have HXT : Hid (xs.map (fun x => x.rd.txt) = ts) := by show _ = _; rw [hxs, good_txt]; exact HM0.out
      have HXL : Hid (xs.length = n) := by have := congrArg List.length HXT.out; rw [List.length_map, HL.out] at this; exact this
      have CG := hide (cmpG_any wo (w.heap.size + 1) w.heap.size (by omega) (by omega) (HK2.out wo hD.turn) HBO)
      have SO := hide (fun W hd => sortStable_any (grE wo (w.heap.size + 1)) (grF wo (w.heap.size + 1)) (grF_cmp3 _ _) _ wo (w.heap.size + 1) CG.out xs n HXL.out W hd (by omega))
      obtain ⟨S, HS⟩ : ∃ S, Hid (S = srt (grF wo (w.heap.size + 1)) xs) := ⟨_, rfl⟩
      have HSL : Hid (S.length = n) := by show _ = _; rw [HS.out, srt_length]; exact HXL.out
      have HST : Hid (S.map (fun x => x.rd.txt) = srt cmpT ts) := by
        show _ = _
        rw [HS.out, ← HXT.out]
        exact srt_perm_pull (f := cmpT) (fun x : GRd wo (w.heap.size + 1) => x.rd.txt) xs
      have hwr : w.heap.size + 1 < wo.heap.size := hD.lt
      clear hD HL2 HM HG hxs HBO HK2 HOB
      obtain ⟨E, hE⟩ : ∃ E, E = grE wo (w.heap.size + 1) := ⟨_, rfl⟩
      have HC0 : Hid (∀ x : GRd wo (w.heap.size + 1), E.c0 x = ofL x.rd.txt) := fun x => by rw [hE]; rfl
      rw [← hE] at hD0 SO
      clear hE CG
      go_wp2_with fail
      refine (SO.out _ hD0).mono ?_
      rintro e w4 ⟨rfl, d4⟩
      clear hD0 SO
      have M2 := mk9 n hn
      rw [← HS.out] at d4
      have sw0 : SW E wo (w.heap.size + 1) w4.heap.size S 0 (w4.alloc (.cells (Array.replicate n (.string ⟨#[]⟩)) 9)) := by
        have h4 := d4.turn.size
        refine ⟨d4.next ((Below.refl _ w4).alloc (Nat.le_refl _) _), by omega, ?_⟩
        rw [show ((S.take 0).map fun t => (.string (E.c0 t) : Value)) ++ List.replicate (S.length - 0) (.string ⟨#[]⟩ : Value) = List.replicate n (.string ⟨#[]⟩) by rw [HSL.out]; simp]
        rw [List.toArray_replicate]
        exact World.alloc_heap_new w4 _
      have hC : wo.heap.size ≤ w4.heap.size := d4.turn.size
      clear d4
      go_wp2_with fail
      clear M2
      generalize w4.alloc (.cells (Array.replicate n (.string ⟨#[]⟩)) 9) = w5 at *
      generalize w4.heap.size = C at *
      go_loopw [38] (fun x wr => ∃ i : Nat, i ≤ n ∧ x = .int .i64 i ∧ SW E wo (w.heap.size + 1) C S i wr) (fun x _ => n - (intOf x).toNat)
      case atStart => exact ⟨0, by omega, rfl, sw0⟩
      case round =>
        clear sw0
        obtain ⟨i, hi, rfl, hW⟩ := hrel
        by_cases hlt : i < n
        · have hlt' : (i : Int) < (n : Int) := by omega
          have hil : i < S.length := by rw [HSL.out]; exact hlt
          obtain ⟨p0, p1, p2⟩ := hW.dw.seen i S[i] (List.getElem?_eq_getElem hil)
          have HPU : Hid (SW E wo (w.heap.size + 1) C S (i + 1) ((wr.setCell ⟨C, i, none⟩ (.string (E.c0 S[i]))).alloc (.cells #[.string (E.c0 S[i]), .slice (E.c1 S[i]).1 (E.c1 S[i]).2.1 (E.c1 S[i]).2.2, .bool (E.c2 S[i])] 87))) := (hW.put hC hil).alloc _
          have cz : wr.cell? ⟨C, i, none⟩ = some (.string ⟨#[]⟩) := cell_at i hW.cs (by
            have hl : ((S.take i).map fun t => (.string (E.c0 t) : Value)).length = i := by rw [List.length_map, List.length_take]; omega
            rw [List.getElem?_toArray, List.getElem?_append_right (by omega), hl, Nat.sub_self, List.getElem?_replicate, if_pos (by omega)])
          have fz := one_free (W := wr) i hW.cs
          have lC := (Array.getElem?_eq_some_iff.1 hW.cs).1
          have lB := hW.dw.lt
          have hne : C ≠ w.heap.size + 1 := hW.ne
          generalize S[i] = s at *
          clear hil
          go_wp2_with fail
          go_roundw
          case rel => exact ⟨i + 1, by omega, by go_num, HPU.out⟩
          case measure => simp [intOf]; omega
        · have hlt' : ¬ (i : Int) < (n : Int) := by omega
          obtain rfl : i = n := by omega
          have HFI : Hid (Txt wr (.slice (some ⟨C, 0, none⟩) i i) (srt cmpT ts)) := by
            have hl : (srt cmpT ts).length = i := by rw [srt_length]; exact HL.out
            refine ⟨some ⟨C, 0, none⟩, i, by rw [hl], .inr ⟨C, 0, rfl, (Array.getElem?_eq_some_iff.1 hW.cs).1, fun q hq => ?_⟩⟩
            refine cell_at _ hW.cs ?_
            have hqS : q < S.length := by rw [HSL.out]; rw [hl] at hq; exact hq
            have e : (srt cmpT ts)[q] = S[q].rd.txt := by
              have h1 : (srt cmpT ts)[q]? = (S.map (fun x => x.rd.txt))[q]? := by rw [HST.out]
              rw [List.getElem?_eq_getElem hq, List.getElem?_map, List.getElem?_eq_getElem hqS] at h1
              simpa using h1
            rw [e, List.getElem?_toArray, Nat.zero_add, List.getElem?_append_left (by rw [List.length_map, List.length_take]; omega), List.getElem?_map, List.getElem?_take, if_pos (by rw [HSL.out] at hqS; omega), List.getElem?_eq_getElem hqS]
            simp only [Option.map_some, HC0.out]
          have hbw : Below w.heap.size w wr := HB1.out.trans (hW.dw.turn.below (by omega) (by omega))
          go_wp2_with fail
          go_ret
          exact ⟨C, rfl, HFI.out, by omega, hbw⟩

theorem Sort_any (a : Option Addr) (cap n : Nat) (ts : List (List UInt8)) (hlen : ts.length = n) (w : World) (hk : Kn w) (hT : Txt w (.slice a n cap) ts) (hn : n ≤ 1048576) :
    Calls Tryd.prog 25 #[.slice a n cap] w fun e w' => ∃ b, e = .returned (.slice (some ⟨b, 0, none⟩) n n) ∧ Txt w' (.slice (some ⟨b, 0, none⟩) n n) (srt cmpT ts) ∧ w.heap.size ≤ b ∧ Below w.heap.size w w' := by
  have TS := hide (TextsSort_any a cap n ts hlen w hk hT hn)
  clear hT hlen hk
  go_enter Tryd.func25, Tryd.ntmps25
  go_wp2_with fail
  refine TS.out.mono ?_
  rintro e w1 ⟨b, rfl, h1, h2, h3⟩
  go_wp2_with fail
  go_ret
  exact ⟨b, rfl, h1, h2, h3⟩

end Go.Proofs.YtobcoppbphfcaaaDoor

/-
  Walks: the document's Texts.
-/
namespace Go.Proofs.YtobcoppbphfcaaaDoor
open Go.RowKit Go.Shelf
set_option linter.unusedVariables false

set_option maxRecDepth 100000 in
set_option maxHeartbeats 4000000 in
theorem RTexts_any (a1 a2 : Option Addr) (n1 n2 c1 c2 : Nat) (ts1 ts2 : List (List UInt8)) (hl1 : ts1.length = n1) (hl2 : ts2.length = n2) (hn : n1 ≤ 1048576) (w : World) (hT1 : Txt w (.slice a1 n1 c1) ts1) (hT2 : Txt w (.slice a2 n2 c2) ts2) :
    Calls Tryd.prog 24 #[.slice a1 n1 c1, .slice a2 n2 c2] w fun e w' => e = .returned (.bool (decide (ts1 = ts2))) ∧ Below w.heap.size w w' := by
  have HT1 := hide hT1
  have HT2 := hide hT2
  have HL1 := hide hl1
  have HL2 := hide hl2
  clear hT1 hT2 hl1 hl2
  by_cases hne : n1 = n2
  · subst hne
    have hb : ((n1 : Int) != (n1 : Int)) = false := by simp
    go_enter Tryd.func24, Tryd.ntmps24
    go_wp2_with fail
    go_loopw [5] (fun x wr => ∃ i : Nat, i ≤ n1 ∧ x = .int .i64 i ∧ Below w.heap.size w wr ∧ Hid (ts1.take i = ts2.take i)) (fun x _ => n1 - (intOf x).toNat)
    case atStart => exact ⟨0, by omega, rfl, Below.refl _ _, rfl⟩
    case round =>
      obtain ⟨i, hi, rfl, hB, hE⟩ := hrel
      by_cases hlt : i < n1
      · have hlt' : (i : Int) < (n1 : Int) := by omega
        have i1 : i < ts1.length := by rw [HL1.out]; exact hlt
        have i2 : i < ts2.length := by rw [HL2.out]; exact hlt
        obtain ⟨b1, o1, rfl, q1, d1⟩ := txt_at (HT1.out.below hB) (by omega)
        obtain ⟨b2, o2, rfl, q2, d2⟩ := txt_at (HT2.out.below hB) (by omega)
        have e1 := d1 i i1
        have e2 := d2 i i2
        clear d1 d2
        by_cases hst : ts1[i] = ts2[i]
        · rw [hst] at e1
          have HE : Hid (ts1.take (i + 1) = ts2.take (i + 1)) := by
            show _ = _
            rw [List.take_succ_eq_append_getElem i1, List.take_succ_eq_append_getElem i2, hE.out, hst]
          generalize ofL ts2[i] = x at *
          clear hst i1 i2
          go_wp2_with fail
          go_quiet (fail)
          go_wp2_with fail
          go_roundw
          case rel => exact ⟨i + 1, by omega, by go_num, hB.trans (below_drewN _ _ _), HE⟩
          case measure => simp [intOf]; omega
        · have hx : ((ofL ts1[i]).toList == (ofL ts2[i]).toList) = false := by simp only [beq_eq_false_iff_ne, ne_eq]; intro e; rw [toL, toL, ofL_data, ofL_data] at e; exact hst e
          have HN : Hid (¬ ts1 = ts2) := fun e => hst (by subst e; rfl)
          generalize ofL ts1[i] = x at *
          generalize ofL ts2[i] = y at *
          clear hst i1 i2
          go_wp2_with fail
          go_quiet (fail)
          go_wp2_with fail
          go_ret
          exact ⟨by rw [decide_eq_false HN.out]; rfl, hB.trans (below_drewN _ _ _)⟩
      · have hlt' : ¬ (i : Int) < (n1 : Int) := by omega
        have HY : Hid (ts1 = ts2) := by
          have h := hE.out
          rw [List.take_of_length_le (by rw [HL1.out]; omega), List.take_of_length_le (by rw [HL2.out]; omega)] at h
          exact h
        go_wp2_with fail
        go_ret
        exact ⟨by rw [decide_eq_true HY.out]; rfl, hB⟩
  · have hb : ((n1 : Int) != (n2 : Int)) = true := by simp; omega
    have HN : Hid (¬ ts1 = ts2) := fun e => hne (by rw [← HL1.out, ← HL2.out, e])
    clear hne
    go_enter Tryd.func24, Tryd.ntmps24
    go_wp2_with fail
    go_ret
    exact ⟨by rw [decide_eq_false HN.out]; rfl, Below.refl _ _⟩

end Go.Proofs.YtobcoppbphfcaaaDoor

/-
  Walks: the document's Sort.
-/
namespace Go.Proofs.YtobcoppbphfcaaaDoor
open Go.RowKit Go.Shelf
set_option linter.unusedVariables false

def strs (S : List (List UInt8)) : List Value := S.map fun t => .string (ofL t)
theorem strs_len (S : List (List UInt8)) : (strs S).length = S.length := List.length_map _
theorem strs_app (S R : List (List UInt8)) : strs (S ++ R) = strs S ++ strs R := List.map_append
theorem strs_one (R : List (List UInt8)) : ∀ u ∈ strs R, u.oneCell' = true := by
  intro u hu
  obtain ⟨t, _, rfl⟩ := List.mem_map.1 hu
  rfl
theorem own_belowS {W W' : World} {B n : Nat} {v : Value} {xs : List Value} (h : W.ownsRow B 9 1 v n xs) (hb : Below W.heap.size W W') : W'.ownsRow B 9 1 v n xs :=
  h.kept (row := none) ⟨hb.os, hb.tape, hb.output, hb.size, fun k hk _ => hb.block k hk⟩ (by
    cases v.ownBlock with
    | none => exact .inl rfl
    | some k => exact .inr (by simp))
theorem own_base {W : World} {B B' n : Nat} {v : Value} {xs : List Value} (h : W.ownsRow B' 9 1 v n xs) (hb : B ≤ B') : W.ownsRow B 9 1 v n xs := by
  refine ⟨h.1, ?_⟩
  rcases h.2 with h | ⟨g, cap, cur, h1, h2, h3⟩
  · exact .inl h
  · exact .inr ⟨g, cap, cur, h1, Nat.le_trans hb h2, h3⟩
theorem own_shape {W : World} {B n : Nat} {v : Value} {xs : List Value} (h : W.ownsRow B 9 1 v n xs) : ∃ ao cv, v = .slice ao n cv := by
  rcases h.2 with ⟨h, h0⟩ | ⟨g, cap, cur, h1, _⟩
  · exact ⟨none, 0, by rw [h, h0]⟩
  · exact ⟨_, _, h1⟩
theorem own_block (ao : Option Addr) (n cv : Nat) : (Value.slice ao n cv).ownBlock = ao.map (·.block) := by cases ao <;> rfl
theorem cell_new (w : World) (e : TypeId) (x : List UInt8) : ∀ j u, (strs [x])[j]? = some u → (w.alloc (.cells #[.string (ofL x)] e)).cell? ((⟨w.heap.size, 0, none⟩ : Addr).add j) = some u := by
  intro j u hj
  have h := fun j => World.cell?_alloc_mark w #[.string (ofL x)] e (0, 0) j
  match j, hj with
  | 0, hj => simp [strs] at hj; subst hj; exact h 0

theorem app_any {w : World} {ops : Array Oper} {rest : List Oper} {o : Oper} {a : Act} {Q : Exit → Act → World → Prop} (hgd : o.guard = none) (s x : Operand)
    (ho : o.op = .call { callee := .builtin .append, args := #[s, x], argTypes := #[33, 33] })
    (B : Nat) (ao : Option Addr) (n cv : Nat) (S : List (List UInt8)) (hs : a.eval s = .slice ao n cv) (hown : w.ownsRow B 9 1 (.slice ao n cv) n (strs S))
    (bo : Option Addr) (m c : Nat) (R : List (List UInt8)) (hx : a.eval x = .slice bo m c) (hR : R.length = m)
    (hnone : bo = none → m = 0 ∧ c = 0) (hc : ∀ ad, bo = some ad → ∀ j u, (strs R)[j]? = some u → w.cell? (ad.add j) = some u) (hb : n + m ≤ 4194304) (hB : B ≤ w.heap.size)
    (h : ∀ ao' cv' w', w'.ownsRow B 9 1 (.slice ao' (n + m) cv') (n + m) (strs (S ++ R)) → w.grownBy w' (ao.map (·.block)) → wpList Tryd.prog ops Q rest (a.put o.dst (.slice ao' (n + m) cv')) w') :
    wpList Tryd.prog ops Q (o :: rest) a w := by
  obtain ⟨i0, hi, hz0, hz2, hz1⟩ := inf9
  cases bo with
  | none =>
    obtain ⟨rfl, rfl⟩ := hnone rfl
    obtain rfl : R = [] := List.length_eq_zero_iff.1 hR
    refine wpList_append_own_none hgd s x 33 ho B 9 i0 1 Tryd.underlying33 hi _ n _ hs hown hx ?_
    have := h ao cv w (by simpa using hown) (World.grownBy.refl _ _)
    simpa using this
  | some ad =>
    refine wpList_append_own _ hgd s x 33 ho B 9 i0 (.string ⟨#[]⟩) 1 16 Tryd.underlying33 hi hz0 hz1 hz2 rfl (by decide) _ n _ hs hown ad m c (strs R) hx (by rw [strs_len, hR]; omega) (hc ad rfl) (strs_one R) (by unfold maxLen; omega) (by omega) hB ?_
    intro v' w' h1 h2 _
    obtain ⟨ao', cv', rfl⟩ := own_shape h1
    rw [own_block] at h2
    exact h ao' cv' w' (by rw [strs_app]; exact h1) h2

theorem ins_at (S : List (List UInt8)) (x : List UInt8) (j : Nat) (hs : Srt cmpT S) (hi : ∀ q (h : q < S.length), j ≤ q → 0 < cmpT S[q] x) (lo : ∀ q (h : q < S.length), q + 1 = j → cmpT S[q] x ≤ 0) (hj : j ≤ S.length) :
    mrg cmpT S [x] = S.take j ++ ([x] ++ S.drop j) := by
  have h := mrg_one_r cmpT x (S.take j) (S.drop j) (fun l hl => by
    obtain ⟨q, hq, rfl⟩ := List.getElem_of_mem hl
    rw [List.length_take] at hq
    rw [List.getElem_take]
    have hl : cmpT (S[q]'(by omega)) x ≤ 0 := by
      by_cases e : q + 1 = j
      · exact lo q (by omega) e
      · have h1 := List.pairwise_iff_getElem.1 hs q (j - 1) (by omega) (by omega) (by omega)
        exact cmpT_cmp3.trans _ _ _ h1 (lo (j - 1) (by omega) (by omega))
    rw [cmpT_cmp3.anti (S[q]'(by omega)) x]; omega) (fun l hl => by
    obtain ⟨q, hq, rfl⟩ := List.getElem_of_mem hl
    rw [List.length_drop] at hq
    rw [List.getElem_drop]
    have h1 := hi (j + q) (by omega) (by omega)
    rw [cmpT_cmp3.anti (S[j + q]'(by omega)) x]; omega)
  rw [List.take_append_drop] at h
  rw [h]
  rfl

theorem own_lt {W : World} {B n cv : Nat} {ao : Option Addr} {xs : List Value} (h : W.ownsRow B 9 1 (.slice ao n cv) n xs) : ∀ k, ao.map (·.block) = some k → B ≤ k ∧ k < W.heap.size := fun k hk => h.lt k (by rw [own_block]; exact hk)
theorem keep3 {w1 w2 w3 : World} {B g i cv j cv1 : Nat} {ao1 : Option Addr} {xs xs1 : List Value} {o : Obj} (OQ : w1.ownsRow B 9 1 (.slice (some ⟨g, 0, none⟩) i cv) i xs) (grow1 : w1.grownBy w2 none) (own1 : w2.ownsRow w1.heap.size 9 1 (.slice ao1 j cv1) j xs1) (grow2 : (w2.alloc o).grownBy w3 (ao1.map (·.block))) :
    w3.ownsRow B 9 1 (.slice (some ⟨g, 0, none⟩) i cv) i xs := by
  have hg := (OQ.lt g rfl).2
  refine ((OQ.kept grow1 (.inr (fun h => by cases h))).alloc o).kept grow2 (.inr (fun h => ?_))
  have := (own_lt own1 g h.symm).1
  omega
theorem drop_cells {W : World} {B g i cv j : Nat} {S : List (List UInt8)} (h : W.ownsRow B 9 1 (.slice (some ⟨g, 0, none⟩) i cv) i (strs S)) {q : Nat} {u : Value} (hu : (strs (S.drop j))[q]? = some u) : W.cell? ((⟨g, j, none⟩ : Addr).add q) = some u := by
  have h1 := h.cells (g := g) rfl (j + q) u (by rw [strs, List.map_drop, List.getElem?_drop] at hu; exact hu)
  have e1 : (⟨g, 0, none⟩ : Addr).add (j + q) = ⟨g, j + q, none⟩ := by unfold Addr.add; split <;> simp_all
  have e2 : (⟨g, j, none⟩ : Addr).add q = ⟨g, j + q, none⟩ := by unfold Addr.add; split <;> simp_all
  rw [e2, ← e1]; exact h1
theorem drop_none {W : World} {ad : Addr} {j : Nat} {S : List (List UInt8)} (hj : S.length ≤ j) {q : Nat} {u : Value} (hu : (strs (S.drop j))[q]? = some u) : W.cell? (ad.add q) = some u := by
  rw [List.drop_eq_nil_of_le hj] at hu
  simp [strs] at hu
theorem done3 {w wo w1 w2 w3 w4 : World} {o : Obj} {ao1 ao2 : Option Addr} {j cv1 cv2 : Nat} {xs1 xs2 : List Value} (hB : Below w.heap.size w wo) (BQ1 : Below wo.heap.size wo w1) (grow1 : w1.grownBy w2 none) (own1 : w2.ownsRow w1.heap.size 9 1 (.slice ao1 j cv1) j xs1) (grow2 : (w2.alloc o).grownBy w3 (ao1.map (·.block))) (own2 : w3.ownsRow w1.heap.size 9 1 (.slice ao2 (j + 1) cv2) (j + 1) xs2) (grow3 : w3.grownBy w4 (ao2.map (·.block))) :
    Below w.heap.size w w4 := by
  have s1 := BQ1.size
  have s2 := grow1.size
  have s3 := grow2.size
  simp at s3
  have b2 := BQ1.grown grow1 s1 (fun k h => by cases h)
  have b3 := (b2.alloc (by omega) o).grown grow2 (by simp; omega) (fun k h => Nat.le_trans s1 (own_lt own1 k h).1)
  have b4 := b3.grown grow3 (by omega) (fun k h => Nat.le_trans s1 (own_lt own2 k h).1)
  exact hB.trans (b4.mono hB.size)


set_option maxRecDepth 100000 in
set_option maxHeartbeats 4000000 in
theorem RSort_any (a : Option Addr) (cap n : Nat) (ts : List (List UInt8)) (hlen : ts.length = n) (w : World) (hT : Txt w (.slice a n cap) ts) (hn : n ≤ 1048576) :
    Calls Tryd.prog 26 #[.slice a n cap] w fun e w' => ∃ b cv, e = .returned (.slice b n cv) ∧ Txt w' (.slice b n cv) (srt cmpT ts) ∧ Below w.heap.size w w' := by
  have HT := hide hT
  have HL := hide hlen
  clear hT hlen
  go_enter Tryd.func26, Tryd.ntmps26
  go_wp2_with fail
  go_loopw [3, 4] (fun v x wr => ∃ (i : Nat) (ao : Option Addr) (cv : Nat), i ≤ n ∧ x = .int .i64 i ∧ v = .slice ao i cv ∧ Hid (wr.ownsRow w.heap.size 9 1 (.slice ao i cv) i (strs (srt cmpT (ts.take i)))) ∧ Below w.heap.size w wr) (fun _ x _ => n - (intOf x).toNat)
  case atStart => exact ⟨0, none, 0, by omega, rfl, rfl, World.ownsRow_nil _ _ _ _, Below.refl _ _⟩
  case round =>
    rename World => wo
    obtain ⟨i, ao, cv, hi, rfl, rfl, HO, hB⟩ := hrel
    by_cases hlt : i < n
    · have hlt' : (i : Int) < (n : Int) := by omega
      have i1 : i < ts.length := by rw [HL.out]; exact hlt
      obtain ⟨b, off, rfl, lb, dc⟩ := txt_at HT.out (by omega)
      have hbx : Hid (∀ W, Below wo.heap.size wo W → W.cell? ⟨b, off + i, none⟩ = some (.string (ofL ts[i]))) := fun W h => by
        rw [← dc i i1]; exact cell_kept ((h.block b (Nat.lt_of_lt_of_le lb hB.size)).trans (hB.block b lb))
      clear dc lb
      have HI : Hid (mrg cmpT (srt cmpT (ts.take i)) [ts[i]] = srt cmpT (ts.take (i + 1))) := by
        show _ = _
        rw [List.take_succ_eq_append_getElem i1, srt_snoc cmpT_cmp3]
      have HSS : Hid (Srt cmpT (srt cmpT (ts.take i))) := srt_srt cmpT_cmp3 _
      have HSL : Hid ((srt cmpT (ts.take i)).length = i) := by show _ = _; rw [srt_length, List.length_take]; omega
      obtain ⟨S, HS⟩ : ∃ S, Hid (S = srt cmpT (ts.take i)) := ⟨srt cmpT (ts.take i), show _ = _ from rfl⟩
      rw [← HS.out] at HI HSS HSL HO
      obtain ⟨x, HX⟩ : ∃ x, Hid (x = ts[i]) := ⟨ts[i], show ts[i] = ts[i] from rfl⟩
      rw [← HX.out] at hbx HI
      clear HS HX i1
      rcases HO.out.2 with ⟨hv, h0⟩ | ⟨g, cap', cur, hv, hg1, hg2, hg3, hg4, hg5, hg6⟩
      · cases hv
        obtain rfl : S = [] := List.length_eq_zero_iff.1 HSL.out
        have HE : Hid (strs (srt cmpT (ts.take (0 + 1))) = strs ([] ++ [x])) := by
          show _ = _
          rw [← HI.out, mrg_nil_l]; rfl
        have hs0 := hB.size
        go_wp2_with fail
        go_loopw [5] (fun y wq => y = .int .i64 ((0 : Nat) : Int) ∧ Below wo.heap.size wo wq) (fun y _ => (intOf y).toNat)
        case atStart => exact ⟨by first | rfl | go_num, Below.refl _ _⟩
        case round =>
          obtain ⟨rfl, BQ⟩ := hrel
          have BQ1 : Below wo.heap.size wo wr.drew := BQ.trans (below_drewN _ wr 1)
          go_wp2_with fail
          go_big_region
          generalize wr.drew = w1 at *
          clear BQ
          have hs1 := BQ1.size
          go_wp2_with (first
            | (at_builtin; refine app_any rfl (.tmp 32) (.tmp 35) rfl w1.heap.size none 0 0 [] rfl (World.ownsRow_nil _ _ _ _) none 0 0 [] rfl rfl (fun _ => ⟨rfl, rfl⟩) (fun ad h => by cases h) (by omega) (Nat.le_refl _) ?_; intro ao1 cv1 w2 own1 grow1; simp only [Nat.zero_add, List.nil_append] at own1; have cX2 := hbx.out _ (BQ1.grown grow1 hs1 (fun k h => by cases h)); rw [Nat.add_zero] at cX2)
            | (at_builtin; refine app_any rfl (.tmp 37) (.tmp 42) rfl w1.heap.size ao1 0 cv1 [] rfl (own1.alloc _) (some ⟨w2.heap.size, 0, none⟩) 1 1 [x] rfl rfl (fun h => by cases h) (fun ad h => by cases h; exact cell_new _ _ _) (by omega) (by have := grow1.size; simp; omega) ?_; intro ao2 cv2 w3 own2 grow2)
            | (at_builtin; refine app_any rfl (.tmp 44) (.tmp 47) rfl w1.heap.size ao2 (0 + 1) cv2 ([] ++ [x]) rfl own2 none 0 0 [] rfl rfl (fun _ => ⟨rfl, rfl⟩) (fun ad h => by cases h) (by omega) (by have := grow1.size; have h3 := grow2.size; simp at h3; omega) ?_; intro ao3 cv3 w4 own3 grow3)
            | fail)
          go_roundw
          case rel =>
            refine ⟨0 + 1, ao3, cv3, by omega, by first | rfl | go_num, by first | rfl | simp, ?_, done3 hB BQ1 grow1 own1 grow2 own2 grow3⟩
            rw [HE.out]
            rw [List.append_nil] at own3
            exact own_base own3 (by omega)
          case measure => simp [intOf]; omega
      · cases hv
        have HCS : Hid (∀ W, Below wo.heap.size wo W → ∀ q (h : q < S.length), W.cell? ⟨g, q, none⟩ = some (.string (ofL S[q]))) := fun W h q hq => by
          have := (own_belowS HO.out h).cells (g := g) rfl q (.string (ofL S[q])) (by rw [strs, List.getElem?_map, List.getElem?_eq_getElem hq]; rfl)
          have e : (⟨g, 0, none⟩ : Addr).add q = ⟨g, q, none⟩ := by unfold Addr.add; split <;> simp_all
          rwa [e] at this
        clear hg2 hg4 hg5 hg6
        go_wp2_with fail
        go_loopw [5] (fun y wq => ∃ j : Nat, j ≤ i ∧ y = .int .i64 j ∧ Below wo.heap.size wo wq ∧ Hid (∀ q (h : q < S.length), j ≤ q → 0 < cmpT S[q] x)) (fun y _ => (intOf y).toNat)
        case atStart => exact ⟨i, by omega, by first | rfl | go_num, Below.refl _ _, fun q h hq => by have := HSL.out; omega⟩
        case round =>
          obtain ⟨j, hj, rfl, BQ, HQ⟩ := hrel
          by_cases hj0 : 0 < j
          · have hj0' : (0 : Int) < (j : Int) := by omega
            have eJ : (j : Int) - 1 = ((j - 1 : Nat) : Int) := by omega
            have wJ : IntKind.i64.wrap ((j - 1 : Nat) : Int) = ((j - 1 : Nat) : Int) := by rw [IntKind.wrap_i64]; omega
            have lJ : ((j - 1 : Nat) : Int) < (i : Int) := by omega
            have jl : j - 1 < S.length := by rw [HSL.out]; omega
            have HCJ := hide (fun W h => HCS.out W h (j - 1) jl)
            have cJ := HCJ.out _ BQ
            have cX := hbx.out _ BQ
            have BD : Below wo.heap.size wo wr.drew := BQ.trans (below_drewN _ wr 1)
            have CM := hide (fun W => RCompare_any (ofL S[j - 1]) (ofL x) W)
            have eC : cmpT (ofL S[j - 1]).data.toList (ofL x).data.toList = cmpT S[j - 1] x := by rw [ofL_data, ofL_data]
            rw [eC] at CM
            have HQ1 : Hid (0 < cmpT S[j - 1] x → ∀ q (h : q < S.length), j - 1 ≤ q → 0 < cmpT S[q] x) := fun h q hq hle => by
              by_cases e : q = j - 1
              · subst e; exact h
              · exact HQ.out q hq (by omega)
            have HQ2 : Hid (cmpT S[j - 1] x ≤ 0 → ∀ q (h : q < S.length), q + 1 = j → cmpT S[q] x ≤ 0) := fun h q hq hle => by
              obtain rfl : q = j - 1 := by omega
              exact h
            have hjj : j - 1 + 1 = j := by omega
            generalize cmpT S[j - 1] x = d at *
            generalize ofL S[j - 1] = sj at *
            generalize hJ1 : j - 1 = J1 at *
            have HJ1 := hide hJ1
            clear hJ1 eC jl
            by_cases hd : 0 < d
            · have hdb : decide (d > 0) = true := by simpa using hd
              go_wp2_with fail
              go_region_held3 (fun w' => w'.cell? ⟨g, J1, none⟩ = some (.string sj) ∧ w'.cell? ⟨b, off + i, none⟩ = some (.string (ofL x)))
                (go_keep)
                ((first
                  | (go_at_call 23; refine (CM.out _).mono ?_; rintro e w1 ⟨rfl, b1⟩; have BQ1 := BD.trans (b1.mono BD.size); have g0 := HCJ.out _ BQ1; have g1 := hbx.out _ BQ1)
                  | fail))
              go_wp2_with fail
              go_roundw
              case rel => exact ⟨J1, by omega, by first | rfl | go_num | (congr 1; omega), BQ1, HQ1.out hd⟩
              case measure => simp [intOf]; omega
            · have hdb : decide (d > 0) = false := by simpa using hd
              have HLO := hide (HQ2.out (by omega))
              go_wp2_with fail
              go_region_held3 (fun w' => w'.cell? ⟨g, J1, none⟩ = some (.string sj) ∧ w'.cell? ⟨b, off + i, none⟩ = some (.string (ofL x)))
                (go_keep)
                ((first
                  | (go_at_call 23; refine (CM.out _).mono ?_; rintro e w1 ⟨rfl, b1⟩; have BQ1 := BD.trans (b1.mono BD.size); have g0 := HCJ.out _ BQ1; have g1 := hbx.out _ BQ1)
                  | fail))
              clear cJ cX g0 g1 BD BQ hd hdb
              have lS := HSL.out
              have OQ := hide (own_belowS HO.out BQ1)
              have gl : g < w1.heap.size := (OQ.out.lt g rfl).2
              have hs1 := BQ1.size
              have hs0 := hB.size
              have H1 : Hid (∀ ad, some (⟨g, 0, none⟩ : Addr) = some ad → ∀ q u, (strs (S.take j))[q]? = some u → w1.cell? (ad.add q) = some u) := by
                intro ad h q u hu
                cases h
                refine OQ.out.cells (g := g) rfl q u ?_
                rw [strs, List.getElem?_map, List.getElem?_take] at hu
                split at hu
                · rw [strs, List.getElem?_map]; exact hu
                · simp at hu
              clear hg1
              have hic := hg3
              clear hg3
              by_cases hcv : j = cv
              · subst hcv
                go_wp2_with (first
                  | (at_builtin; refine app_any rfl (.tmp 32) (.tmp 35) rfl w1.heap.size none 0 0 [] rfl (World.ownsRow_nil _ _ _ _) (some ⟨g, 0, none⟩) j j (S.take j) rfl (by rw [List.length_take]; omega) (fun h => by cases h) H1.out (by omega) (Nat.le_refl _) ?_; intro ao1 cv1 w2 own1 grow1; simp only [Nat.zero_add, List.nil_append] at own1; have cX2 := hbx.out _ (BQ1.grown grow1 hs1 (fun k h => by cases h)))
                  | (at_builtin; refine app_any rfl (.tmp 37) (.tmp 42) rfl w1.heap.size ao1 j cv1 (S.take j) rfl (own1.alloc _) (some ⟨w2.heap.size, 0, none⟩) 1 1 [x] rfl rfl (fun h => by cases h) (fun ad h => by cases h; exact cell_new _ _ _) (by omega) (by have := grow1.size; simp; omega) ?_; intro ao2 cv2 w3 own2 grow2)
                  | (at_builtin; refine app_any rfl (.tmp 44) (.tmp 47) rfl w1.heap.size ao2 (j + 1) cv2 (S.take j ++ [x]) rfl own2 (some ⟨g, 0, none⟩) 0 0 (S.drop j) rfl (by rw [List.length_drop]; omega) (fun h => by cases h) (fun ad h q u hu => by cases h; exact drop_none (by omega) hu) (by omega) (by have := grow1.size; have h3 := grow2.size; simp at h3; omega) ?_; intro ao3 cv3 w4 own3 grow3)
                  | fail)
                go_roundw
                case rel =>
                  · (refine ⟨i + 1, ao3, cv3, by omega, by first | rfl | go_num, by first | rfl | (congr 1; omega), ?_, done3 hB BQ1 grow1 own1 grow2 own2 grow3⟩
                     rw [show j + 1 + 0 = i + 1 by omega, List.append_assoc, ← ins_at S x j HSS.out HQ.out HLO.out (by omega), HI.out] at own3
                     exact own_base own3 (by omega))
                case measure => simp [intOf]; omega
              · have hcv' : ¬ cv = j := fun e => hcv e.symm
                go_wp2_with (first
                  | (at_builtin; refine app_any rfl (.tmp 32) (.tmp 35) rfl w1.heap.size none 0 0 [] rfl (World.ownsRow_nil _ _ _ _) (some ⟨g, 0, none⟩) j cv (S.take j) rfl (by rw [List.length_take]; omega) (fun h => by cases h) H1.out (by omega) (Nat.le_refl _) ?_; intro ao1 cv1 w2 own1 grow1; simp only [Nat.zero_add, List.nil_append] at own1; have cX2 := hbx.out _ (BQ1.grown grow1 hs1 (fun k h => by cases h)))
                  | (at_builtin; refine app_any rfl (.tmp 37) (.tmp 42) rfl w1.heap.size ao1 j cv1 (S.take j) rfl (own1.alloc _) (some ⟨w2.heap.size, 0, none⟩) 1 1 [x] rfl rfl (fun h => by cases h) (fun ad h => by cases h; exact cell_new _ _ _) (by omega) (by have := grow1.size; simp; omega) ?_; intro ao2 cv2 w3 own2 grow2)
                  | (at_builtin; refine app_any rfl (.tmp 44) (.tmp 47) rfl w1.heap.size ao2 (j + 1) cv2 (S.take j ++ [x]) rfl own2 (some ⟨g, j, none⟩) (i - j) (cv - j) (S.drop j) rfl (by rw [List.length_drop]; omega) (fun h => by cases h) (fun ad h q u hu => by cases h; exact drop_cells (keep3 OQ.out grow1 own1 grow2) hu) (by omega) (by have := grow1.size; have h3 := grow2.size; simp at h3; omega) ?_; intro ao3 cv3 w4 own3 grow3)
                  | fail)
                go_roundw
                case rel =>
                  · (refine ⟨i + 1, ao3, cv3, by omega, by first | rfl | go_num, by rw [show j + 1 + (i - j) = i + 1 by omega], ?_, done3 hB BQ1 grow1 own1 grow2 own2 grow3⟩
                     rw [show j + 1 + (i - j) = i + 1 by omega, List.append_assoc, ← ins_at S x j HSS.out HQ.out HLO.out (by omega), HI.out] at own3
                     exact own_base own3 (by omega))
                case measure => simp [intOf]; omega
          · have hj0' : ¬ (0 : Int) < (j : Int) := by omega
            have hjd : decide ((j : Int) > 0) = false := by simp; omega
            have HLO : Hid (∀ q (h : q < S.length), q + 1 = j → cmpT S[q] x ≤ 0) := fun q h e => by omega
            have BQ1 : Below wo.heap.size wo wr.drew := BQ.trans (below_drewN _ wr 1)
            go_wp2_with fail
            go_big_region
            generalize wr.drew = w1 at *
            clear BQ
            have lS := HSL.out
            have OQ := hide (own_belowS HO.out BQ1)
            have gl : g < w1.heap.size := (OQ.out.lt g rfl).2
            have hs1 := BQ1.size
            have hs0 := hB.size
            have H1 : Hid (∀ ad, some (⟨g, 0, none⟩ : Addr) = some ad → ∀ q u, (strs (S.take j))[q]? = some u → w1.cell? (ad.add q) = some u) := by
              intro ad h q u hu
              cases h
              refine OQ.out.cells (g := g) rfl q u ?_
              rw [strs, List.getElem?_map, List.getElem?_take] at hu
              split at hu
              · rw [strs, List.getElem?_map]; exact hu
              · simp at hu
            clear hg1
            have hic := hg3
            clear hg3
            by_cases hcv : j = cv
            · subst hcv
              go_wp2_with (first
                | (at_builtin; refine app_any rfl (.tmp 32) (.tmp 35) rfl w1.heap.size none 0 0 [] rfl (World.ownsRow_nil _ _ _ _) (some ⟨g, 0, none⟩) j j (S.take j) rfl (by rw [List.length_take]; omega) (fun h => by cases h) H1.out (by omega) (Nat.le_refl _) ?_; intro ao1 cv1 w2 own1 grow1; simp only [Nat.zero_add, List.nil_append] at own1; have cX2 := hbx.out _ (BQ1.grown grow1 hs1 (fun k h => by cases h)))
                | (at_builtin; refine app_any rfl (.tmp 37) (.tmp 42) rfl w1.heap.size ao1 j cv1 (S.take j) rfl (own1.alloc _) (some ⟨w2.heap.size, 0, none⟩) 1 1 [x] rfl rfl (fun h => by cases h) (fun ad h => by cases h; exact cell_new _ _ _) (by omega) (by have := grow1.size; simp; omega) ?_; intro ao2 cv2 w3 own2 grow2)
                | (at_builtin; refine app_any rfl (.tmp 44) (.tmp 47) rfl w1.heap.size ao2 (j + 1) cv2 (S.take j ++ [x]) rfl own2 (some ⟨g, 0, none⟩) 0 0 (S.drop j) rfl (by rw [List.length_drop]; omega) (fun h => by cases h) (fun ad h q u hu => by cases h; exact drop_none (by omega) hu) (by omega) (by have := grow1.size; have h3 := grow2.size; simp at h3; omega) ?_; intro ao3 cv3 w4 own3 grow3)
                | fail)
              go_roundw
              case rel =>
                · (refine ⟨i + 1, ao3, cv3, by omega, by first | rfl | go_num, by first | rfl | (congr 1; omega), ?_, done3 hB BQ1 grow1 own1 grow2 own2 grow3⟩
                   rw [show j + 1 + 0 = i + 1 by omega, List.append_assoc, ← ins_at S x j HSS.out HQ.out HLO.out (by omega), HI.out] at own3
                   exact own_base own3 (by omega))
              case measure => simp [intOf]; omega
            · have hcv' : ¬ cv = j := fun e => hcv e.symm
              go_wp2_with (first
                | (at_builtin; refine app_any rfl (.tmp 32) (.tmp 35) rfl w1.heap.size none 0 0 [] rfl (World.ownsRow_nil _ _ _ _) (some ⟨g, 0, none⟩) j cv (S.take j) rfl (by rw [List.length_take]; omega) (fun h => by cases h) H1.out (by omega) (Nat.le_refl _) ?_; intro ao1 cv1 w2 own1 grow1; simp only [Nat.zero_add, List.nil_append] at own1; have cX2 := hbx.out _ (BQ1.grown grow1 hs1 (fun k h => by cases h)))
                | (at_builtin; refine app_any rfl (.tmp 37) (.tmp 42) rfl w1.heap.size ao1 j cv1 (S.take j) rfl (own1.alloc _) (some ⟨w2.heap.size, 0, none⟩) 1 1 [x] rfl rfl (fun h => by cases h) (fun ad h => by cases h; exact cell_new _ _ _) (by omega) (by have := grow1.size; simp; omega) ?_; intro ao2 cv2 w3 own2 grow2)
                | (at_builtin; refine app_any rfl (.tmp 44) (.tmp 47) rfl w1.heap.size ao2 (j + 1) cv2 (S.take j ++ [x]) rfl own2 (some ⟨g, j, none⟩) (i - j) (cv - j) (S.drop j) rfl (by rw [List.length_drop]; omega) (fun h => by cases h) (fun ad h q u hu => by cases h; exact drop_cells (keep3 OQ.out grow1 own1 grow2) hu) (by omega) (by have := grow1.size; have h3 := grow2.size; simp at h3; omega) ?_; intro ao3 cv3 w4 own3 grow3)
                | fail)
              go_roundw
              case rel =>
                · (refine ⟨i + 1, ao3, cv3, by omega, by first | rfl | go_num, by rw [show j + 1 + (i - j) = i + 1 by omega], ?_, done3 hB BQ1 grow1 own1 grow2 own2 grow3⟩
                   rw [show j + 1 + (i - j) = i + 1 by omega, List.append_assoc, ← ins_at S x j HSS.out HQ.out HLO.out (by omega), HI.out] at own3
                   exact own_base own3 (by omega))
              case measure => simp [intOf]; omega
    · have hlt' : ¬ (i : Int) < (n : Int) := by omega
      obtain rfl : i = n := by omega
      have e : ts.take i = ts := List.take_of_length_le (by rw [HL.out]; exact Nat.le_refl _)
      rw [e] at HO
      have HF : Hid (Txt wo (.slice ao i cv) (srt cmpT ts)) := by
        have hl : (srt cmpT ts).length = i := by rw [srt_length]; exact HL.out
        refine ⟨ao, cv, by rw [hl], ?_⟩
        rcases HO.out.2 with ⟨hv, h0⟩ | ⟨g, cap', cur, hv, hg1, hg2, hg3, hg4, hg5, hg6⟩
        · exact .inl (List.length_eq_zero_iff.1 (by omega))
        · cases hv
          refine .inr ⟨g, 0, rfl, (Array.getElem?_eq_some_iff.1 hg2).1, fun q hq => ?_⟩
          have := HO.out.cells (g := g) rfl q (.string (ofL (srt cmpT ts)[q])) (by rw [strs, List.getElem?_map, List.getElem?_eq_getElem hq]; rfl)
          have e : (⟨g, 0, none⟩ : Addr).add q = ⟨g, 0 + q, none⟩ := by unfold Addr.add; split <;> simp_all
          rwa [e] at this
      clear e
      go_wp2_with fail
      go_ret
      exact ⟨ao, cv, rfl, HF.out, hB⟩

end Go.Proofs.YtobcoppbphfcaaaDoor

/-
  Walks: the law on orders.
-/
namespace Go.Proofs.YtobcoppbphfcaaaDoor
open Go.RowKit Go.Shelf
set_option linter.unusedVariables false

theorem RTexts_same (a1 a2 : Option Addr) (n c1 c2 : Nat) (ts : List (List UInt8)) (hl : ts.length = n) (hn : n ≤ 1048576) (w : World) (hT1 : Txt w (.slice a1 n c1) ts) (hT2 : Txt w (.slice a2 n c2) ts) :
    Calls Tryd.prog 24 #[.slice a1 n c1, .slice a2 n c2] w fun e w' => e = .returned (.bool true) ∧ Below w.heap.size w w' := by
  refine (RTexts_any a1 a2 n n c1 c2 ts ts hl hl hn w hT1 hT2).mono ?_
  rintro e w' ⟨rfl, h⟩
  exact ⟨by simp, h⟩
theorem txt_own {W : World} {B n cv : Nat} {ao : Option Addr} {S : List (List UInt8)} (h : W.ownsRow B 9 1 (.slice ao n cv) n (strs S)) (hl : S.length = n) : Txt W (.slice ao n cv) S := by
  refine ⟨ao, cv, by rw [hl], ?_⟩
  rcases h.2 with ⟨hv, h0⟩ | ⟨g, cap', cur, hv, hg1, hg2, hg3, hg4, hg5, hg6⟩
  · exact .inl (List.length_eq_zero_iff.1 (by omega))
  · cases hv
    refine .inr ⟨g, 0, rfl, (Array.getElem?_eq_some_iff.1 hg2).1, fun q hq => ?_⟩
    have := h.cells (g := g) rfl q (.string (ofL S[q])) (by rw [strs, List.getElem?_map, List.getElem?_eq_getElem hq]; rfl)
    have e : (⟨g, 0, none⟩ : Addr).add q = ⟨g, 0 + q, none⟩ := by unfold Addr.add; split <;> simp_all
    rwa [e] at this
/-- Cells of a row of tokens. -/
theorem row_flat {W : World} {b off : Nat} {ts : List Tok} (h : TRow W b off ts) : ∀ j u, (flatT ts)[j]? = some u → W.cell? ((⟨b, off, none⟩ : Addr).add j) = some u := by
  intro j u hj
  rw [addr_add]
  have hlt := (List.getElem?_eq_some_iff.1 hj).1
  rw [flatT_len] at hlt
  have hq : j / 3 < ts.length := by omega
  obtain ⟨h0, h1, h2⟩ := h (j / 3) hq
  obtain ⟨g0, g1, g2⟩ := flatT_at ts (j / 3) ts[j / 3] (List.getElem?_eq_getElem hq)
  have hr : j % 3 = 0 ∨ j % 3 = 1 ∨ j % 3 = 2 := by omega
  rcases hr with hr | hr | hr
  · have e : j = j / 3 * 3 := by omega
    rw [← e] at h0 g0
    rw [g0] at hj
    rw [h0]; exact hj
  · have e : j = j / 3 * 3 + 1 := by omega
    rw [Nat.add_assoc, ← e] at h1
    rw [← e] at g1
    rw [g1] at hj
    rw [h1]; exact hj
  · have e : j = j / 3 * 3 + 2 := by omega
    rw [Nat.add_assoc, ← e] at h2
    rw [← e] at g2
    rw [g2] at hj
    rw [h2]; exact hj

/-- What the law holds while it calls. -/
structure OD (w : World) (vm va vb vo vl : Value) (A Bq : List Tok) (ts : List (List UInt8)) (W : World) : Prop where
  bel : Below w.heap.size w W
  kn : Kn W
  tm : Toks W vm A
  ta : Toks W va A
  tb : Toks W vb Bq
  to : Txt W vo ts
  tl : Txt W vl ts
theorem OD.next {w : World} {vm va vb vo vl : Value} {A Bq : List Tok} {ts : List (List UInt8)} {W W' : World} (h : OD w vm va vb vo vl A Bq ts W) (hb : Below W.heap.size W W') : OD w vm va vb vo vl A Bq ts W' :=
  ⟨h.bel.trans (hb.mono h.bel.size), h.kn.below h.kn.pos hb, h.tm.below hb, h.ta.below hb, h.tb.below hb, h.to.below hb, h.tl.below hb⟩

set_option maxRecDepth 100000 in
set_option maxHeartbeats 8000000 in
theorem Orders_walk (aa : Option Addr) (na ca : Nat) (A : List Tok) (ab : Option Addr) (nb cb : Nat) (Bq : List Tok) (s t : ByteArray) (al : Option Addr) (n cap : Nat) (ts : List (List UInt8)) (w : World) (hk : Kn w)
    (hA : Toks w (.slice aa na ca) A) (hB : Toks w (.slice ab nb cb) Bq) (hna : na ≤ 1048576) (hnb : nb ≤ 1048576) (fA : ∀ t ∈ A, t.text.length ≤ 1048576) (fB : ∀ t ∈ Bq, t.text.length ≤ 1048576)
    (hl : ts.length = n) (hn : n ≤ 1048576) (hT : Txt w (.slice al n cap) ts) (hnil : al = none → n = 0 ∧ cap = 0) (hnila : aa = none → na = 0 ∧ ca = 0) :
    Calls Tryd.prog 4 #[.slice aa na ca, .slice ab nb cb, .string s, .string t, .slice al n cap] w fun e w' => e = .returned (.bool true) ∧ Below w.heap.size w w' := by
  have hal := toks_n hA
  have F1 := hide (fun (am : Option Addr) (cm : Nat) w h0 hT => Fit_any am na cm A w h0 hT hna fA)
  have F2 := fun w hT => RFit_any aa na ca A w hT hna fA
  rw [← fit_doc] at F2
  have F2 := hide F2
  have O1 := hide (fun (am : Option Addr) (cm : Nat) w hk hX hY => Order_any am ab na nb cm cb A Bq w hk hX hY hna hnb fA fB)
  have O2 := hide (fun w hX hY => ROrder_any aa ab na nb ca cb A Bq w hX hY hna hnb fA fB)
  have SM := hide (fun va vb w h1 h2 => RSame_true va vb A w h1 h2 (by rw [hal]; omega))
  have C1 := hide (fun w hk => CompareT_any s t w hk)
  have C2 := hide (fun w => RCompare_any s t w)
  generalize cmpT s.data.toList t.data.toList = co at *
  have SR := hide (fun (a : Option Addr) (cap : Nat) W h => RSort_any a cap n ts hl W h hn)
  have SP := hide (fun (a : Option Addr) (cap : Nat) W hk h => Sort_any a cap n ts hl W hk h hn)
  have TX := hide (fun (a1 a2 : Option Addr) (c1 c2 : Nat) (ts' : List (List UInt8)) (h : ts'.length = n) W h1 h2 => RTexts_same a1 a2 n c1 c2 ts' h hn W h1 h2)
  have hls : Hid ((srt cmpT ts).length = n) := by show _ = _; rw [srt_length]; exact hl
  have HC : Hid (∀ W, Below w.heap.size w W → ∀ ad, al = some ad → ∀ j u, (strs ts)[j]? = some u → W.cell? (ad.add j) = some u) := by
    intro W hb ad had j u hu
    obtain ⟨a', cap', hv, h0 | ⟨b, off, ha, hlt, hc⟩⟩ := hT.below hb
    · subst h0; simp [strs] at hu
    · cases hv
      rw [had] at ha
      cases ha
      rw [strs, List.getElem?_map] at hu
      have hj : j < ts.length := by
        by_cases h : j < ts.length
        · exact h
        · rw [List.getElem?_eq_none (by omega)] at hu; simp at hu
      rw [List.getElem?_eq_getElem hj] at hu
      rw [addr_add, hc j hj]
      simpa using hu
  have HCA : Hid (∀ W, Below w.heap.size w W → ∀ ad, aa = some ad → ∀ j u, (flatT A)[j]? = some u → W.cell? (ad.add j) = some u) := by
    intro W hb ad had j u hu
    obtain ⟨a', cap', hv, h0 | ⟨b, off, ha, hlt, hc⟩⟩ := hA.below hb
    · subst h0; simp [flatT] at hu
    · cases hv
      rw [had] at ha
      cases ha
      exact row_flat hc j u hu
  have HL := hide hl
  have HAL := hide hal
  have HT := hide hT
  have HN := hide hnil
  have HNA := hide hnila
  have HTA := hide hA
  have HTB := hide hB
  have HK := hide hk
  generalize fitB A = fv at *
  generalize ordF A Bq = ov at *
  have ef : (fv == fv) = true := by simp
  have eo : (ov == ov) = true := by simp
  have ec : (co == co) = true := by simp
  clear hal hA hB fA fB hl hT hnil hnila hk
  go_enter Tryd.func4, Tryd.ntmps4
  go_wp2_with (at_builtin; refine app_any rfl (.tmp 13) (.tmp 14) rfl w.heap.size (some ⟨w.heap.size, 0, none⟩) 0 0 [] rfl (by have := World.ownsRow_made (base := w.heap.size) (e := 9) (size := 1) w #[] 0 (by simp) (by unfold maxLen; omega) (by simp); simpa [strs] using this) al n cap ts rfl HL.out HN.out (HC.out _ ((Below.refl w.heap.size w).alloc (Nat.le_refl _) _)) (by omega) (by simp) ?h1)
  case h1 =>
    intro ao1 cv1 W4 own1 grow1
    have b4 : Below w.heap.size w W4 := ((Below.refl w.heap.size w).alloc (Nat.le_refl _) (.cells #[] 9)).grown (grow1 : (w.alloc (.cells #[] 9)).grownBy W4 (some w.heap.size)) (by simp) (fun k h => by have := Option.some.inj h; omega)
    go_wp2_with (at_builtin; refine app_tok rfl (.tmp 16) (.tmp 17) rfl W4.heap.size (some ⟨W4.heap.size, 0, none⟩) 0 0 [] rfl (by have := World.ownsRow_made (base := W4.heap.size) (e := 48) (size := 3) W4 #[] 0 (by simp) (by unfold maxLen; omega) (by simp); simpa [flatT] using this) aa na ca A rfl HAL.out HNA.out (HCA.out _ (b4.alloc b4.size _)) (by omega) (by simp) ?h2)
    case h2 =>
      intro ao2 cv2 W5 own2 grow2
      have b5 : Below W4.heap.size W4 W5 := ((Below.refl W4.heap.size W4).alloc (Nat.le_refl _) (.cells #[] 48)).grown (grow2 : (W4.alloc (.cells #[] 48)).grownBy W5 (some W4.heap.size)) (by simp) (fun k h => by have := Option.some.inj h; omega)
      (try simp only [Nat.zero_add, List.nil_append] at own1)
      (try simp only [Nat.zero_add, List.nil_append] at own2)
      have S0 : OD w (.slice ao2 na cv2) (.slice aa na ca) (.slice ab nb cb) (.slice ao1 n cv1) (.slice al n cap) A Bq ts W5 := by
        have b45 := b4.trans (b5.mono b4.size)
        refine ⟨b45, HK.out.below HK.out.pos b45, ?_, HTA.out.below b45, HTB.out.below b45, (txt_own own1 HL.out).below b5, HT.out.below b45⟩
        rw [← HAL.out] at own2 ⊢
        exact own_toks own2
      go_wp2_with fail
      clear own1 own2 grow1 grow2 b4 b5 HC HCA HN HNA HT HTA HTB HK
      refine (F1.out _ _ _ S0.kn.pos S0.tm).mono ?_
      rintro e w1 ⟨rfl, b1⟩
      have Q1 := S0.next b1
      go_wp2_with fail
      refine (F2.out _ Q1.ta).mono ?_
      rintro e w2 ⟨rfl, b2⟩
      have Q2 := Q1.next b2
      go_wp2_with fail
      refine (O1.out _ _ _ Q2.kn Q2.tm Q2.tb).mono ?_
      rintro e w3 ⟨rfl, b3⟩
      have Q3 := Q2.next b3
      go_wp2_with fail
      refine (O2.out _ Q3.ta Q3.tb).mono ?_
      rintro e w4 ⟨rfl, b4⟩
      have Q4 := Q3.next b4
      go_wp2_with fail
      refine (SM.out _ _ _ Q4.tm Q4.ta).mono ?_
      rintro e w5 ⟨rfl, b5⟩
      have Q5 := Q4.next b5
      go_wp2_with fail
      refine (C1.out _ Q5.kn).mono ?_
      rintro e w6 ⟨rfl, b6⟩
      have Q6 := Q5.next b6
      go_wp2_with fail
      refine (C2.out _).mono ?_
      rintro e w7 ⟨rfl, b7⟩
      have Q7 := Q6.next b7
      go_wp2_with fail
      refine (SP.out _ _ _ Q7.kn Q7.to).mono ?_
      rintro e w8 ⟨g8, rfl, T8, hg8, b8⟩
      have Q8 := Q7.next b8
      go_wp2_with fail
      refine (SR.out _ _ _ Q8.tl).mono ?_
      rintro e w9 ⟨g9, cv9, rfl, T9, b9⟩
      have Q9 := Q8.next b9
      have T8b := T8.below b9
      go_wp2_with fail
      refine (TX.out _ _ _ _ _ hls.out _ T8b T9).mono ?_
      rintro e w10 ⟨rfl, b10⟩
      have Q10 := Q9.next b10
      go_wp2_with fail
      refine (TX.out _ _ _ _ _ HL.out _ Q10.to Q10.tl).mono ?_
      rintro e w11 ⟨rfl, b11⟩
      have Q11 := Q10.next b11
      go_wp2_with fail
      refine (awake_any _ Q11.kn).mono ?_
      rintro e w12 ⟨rfl, b12⟩
      have Q12 := Q11.next b12
      go_wp2_with fail
      go_ret
      exact ⟨rfl, Q12.bel⟩

end Go.Proofs.YtobcoppbphfcaaaDoor
