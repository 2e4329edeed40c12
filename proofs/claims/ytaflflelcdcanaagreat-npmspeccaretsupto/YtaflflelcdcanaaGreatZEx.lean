/-
  What is known of the parts that are handed out; what they mean. · append of comparators onto a set of the call's own.
-/
import Derived.Test.YtaflflelcdcanaaGreatZEv
import Derived.Test.YtaflflelcdcanaaGreatZGa
import Derived.Laws.AppendOwnNone
import Derived.Maps.AppendAt
import Derived.Laws.OwnMore
namespace Go.Proofs.YtaflflelcdcanaaGreat
open Go.RowKit Go.Shelf
set_option linter.unusedVariables false
variable {A : Nat → Prop}

/-- The functions that say what an operator means. -/
def fns : List Nat := [160, 161, 87, 162, 85, 163, 164]
/-- What an operator means of a partial. -/
def meanL (f : Nat) (p : PartL) : List Comp :=
  if f = 160 then equalL p else if f = 161 then lessL p else if f = 87 then upToL p else if f = 162 then moreL p else if f = 85 then fromL p else if f = 163 then tildeL p else caretL p
theorem mean_any (f : Nat) (hf : f ∈ fns) (v : Value) (p : PartL) (w : World) (hA : ∀ b, w.heap.size ≤ b → A b) (hv : PartV A w v p) (hp : PShort p) : Calls Tryz.prog f #[v] w (CompsP A w (meanL f p)) := by
  simp only [fns, List.mem_cons, List.not_mem_nil, or_false] at hf
  rcases hf with rfl | rfl | rfl | rfl | rfl | rfl | rfl
  · exact equal_any v p w hA hv hp
  · exact less_any v p w hA hv hp
  · exact upTo_any v p w hA hv hp
  · exact more_any v p w hA hv hp
  · exact from_any v p w hA hv hp
  · exact tilde_any v p w hA hv hp
  · exact caret_any v p w hA hv hp

theorem op_fns (l : List UInt8) : ∀ k, k ≤ 9 → 0 < k → (opGo l k).2 ∈ fns
  | 0, _, h => absurd h (by decide)
  | 1, _, _ => by
    rw [opGo_succ l 0 (by decide)]
    unfold opStep
    rw [if_pos ⟨by show hasP l [] = true; simp [hasP], Nat.le_of_ble_eq_true rfl⟩]
    exact List.mem_cons_self
  | k + 2, h, _ => by
    rw [opGo_succ l (k + 1) h]
    unfold opStep
    split
    · have : ∀ x ∈ ops9, x.2 ∈ fns := by decide
      exact this _ (List.getElem_mem h)
    · exact op_fns l (k + 1) (by omega) (by omega)
theorem sem_short (t : List UInt8) : (semP t).pre.length ≤ 64 ∧ ∀ u ∈ (semP t).pre, u.length ≤ 64 := by
  unfold semP
  split
  · rename_i c h
    have h1 := (parse_fit h).2
    have h2 := lenI_ge (semOf t c).pre
    unfold lenS at h1
    exact ⟨by omega, fun u hu => by have := h2.2 u hu; omega⟩
  · exact ⟨by simp [semN], by simp [semN]⟩
theorem pre_short (l : List UInt8) (a : Nat) : (preR l a).1.length ≤ 64 ∧ ∀ u ∈ (preR l a).1, u.length ≤ 64 := by
  unfold preR
  split
  · split
    · exact sem_short _
    · split
      · exact ⟨by simp, by simp⟩
      · split <;> exact ⟨by simp, by simp⟩
  · exact ⟨by simp, by simp⟩
theorem segT_short {l : List UInt8} (hl : l.length ≤ 256) (sg : List (Nat × Nat)) (i : Nat) : (segT l sg i).length ≤ 1024 := by
  unfold segT
  split
  · unfold seg; simp; omega
  · simp
theorem short_end {l : List UInt8} {a : Nat} {p : PartL} {z r : Int} (hp : PShort p) : PShort (endP l a p z r).1 := by
  have h0 : PShort partN := ⟨by simp [partN], by simp [partN], by simp [partN], ⟨by simp [partN], by simp [partN]⟩, by simp [partN]⟩
  unfold endP
  split
  · exact h0
  · split
    · exact h0
    · exact hp
/-- A partial that is read is short. -/
theorem rp_short {l : List UInt8} {a : Nat} (ha : a ≤ l.length) (hl : l.length ≤ 256) : PShort (rpL l a).1 := by
  unfold rpL
  cases hg : rnGo l 2 0 (vL l a) [] with
  | error x => exact short_end ⟨by simp [partN], by simp [partN], by simp [partN], ⟨by simp [partN], by simp [partN]⟩, by simp [partN]⟩
  | ok x =>
    have hx := ((rn_le 2 0 _ [] (vL_le ha).1 (Nat.zero_le _)).2 x hg).2
    have hp := pre_short l x.2
    dsimp only
    split
    · exact short_end ⟨segT_short hl _ _, segT_short hl _ _, segT_short hl _ _, ⟨by simp only; omega, fun u hu => by have := hp.2 u hu; omega⟩, by simp⟩
    · exact short_end ⟨segT_short hl _ _, segT_short hl _ _, segT_short hl _ _, ⟨by simp, by simp⟩, by simp only; omega⟩
theorem dash_short {l : List UInt8} {a : Nat} (ha : a ≤ l.length) (hl : l.length ≤ 256) : PShort (dashL l a).1 := by
  unfold dashL
  split
  · exact ⟨by simp [partN], by simp [partN], by simp [partN], ⟨by simp [partN], by simp [partN]⟩, by simp [partN]⟩
  · exact rp_short (blk_le ha) hl
/-- What is known of a part that is handed out and not wrong. -/
structure GoodI (l : List UInt8) (x : Item) : Prop where
  fn : x.f ∈ fns
  short : PShort x.p
  place : ∃ e : Nat, x.pos = (e : Int) ∧ e ≤ l.length
theorem row_good {l : List UInt8} (hl : l.length ≤ 256) : ∀ (n k a : Nat), a ≤ l.length → ∀ x ∈ rowG l n k a, x.err = 0 → GoodI l x
  | 0, _, _, _, x, h, _ => by cases h
  | n + 1, k, a, ha, x, h, he => by
    have hE : opE l a ≤ l.length := blk_le (op_in ha)
    have hI : (itemL l a).err = 0 → GoodI l (itemL l a) := fun h0 => by
      obtain ⟨e, h1, _, h2⟩ := rp_ok hE h0
      exact ⟨op_fns _ 9 (by omega) (by omega), rp_short hE hl, e, h1, h2⟩
    unfold rowG at h
    split at h
    · cases h
    · split at h
      · simp at h; subst h; cases he
      · split at h
        · simp at h; subst h; exact hI he
        · rename_i h0
          have h0 : (itemL l a).err = 0 := by simpa using h0
          rcases List.mem_cons.1 h with rfl | h
          · exact hI he
          · obtain ⟨e, h1, h2⟩ := (hI h0).place
            rw [h1, Int.toNat_natCast] at h
            exact row_good hl n (k + 1) (blk l e) (blk_le h2) x h he
theorem ft_good {l : List UInt8} (hl : l.length ≤ 256) {p : PartL} {e : Nat} (hp : PShort p) (he : e ≤ l.length) (hd : blk l e + 1 ≤ l.length) : ∀ x ∈ ftL l p e, x.err = 0 → GoodI l x := by
  intro x h h0
  unfold ftL at h
  rcases List.mem_cons.1 h with rfl | h
  · exact ⟨by show 85 ∈ fns; decide, hp, e, rfl, he⟩
  rcases List.mem_cons.1 h with rfl | h
  · obtain ⟨e2, h1, h2⟩ := dash_ok hd h0
    exact ⟨by show 87 ∈ fns; decide, dash_short hd hl, e2, h1, h2⟩
  · split at h
    · simp at h; subst h; cases h0
    · cases h
/-- Each part of a set that is not wrong is good. -/
theorem parts_good {l : List UInt8} (hl : l.length ≤ 256) {a : Nat} (ha : a ≤ l.length) : ∀ x ∈ partsL l a, x.err = 0 → GoodI l x := by
  unfold partsL
  split
  · rename_i hf
    unfold isFrom at hf
    rw [Bool.and_eq_true] at hf
    have hr : (headL l a).2.2 = 0 := by simpa using hf.1
    obtain ⟨e, h1, _, h2⟩ := rp_ok (blk_le ha) hr
    have h1' : (headL l a).2.1 = (e : Int) := h1
    have h45 := hf.2
    rw [h1', Int.toNat_natCast] at h45 ⊢
    have h45 : l[blk l e]? = some 45 := by simpa using h45
    exact ft_good hl (rp_short (blk_le ha) hl) h2 (List.getElem?_eq_some_iff.1 h45).1
  · exact row_good hl 33 0 _ (blk_le ha)

end Go.Proofs.YtaflflelcdcanaaGreat

namespace Go.Proofs.YtaflflelcdcanaaGreat
open Go.RowKit Go.Shelf
set_option linter.unusedVariables false
variable {A : Nat → Prop}

theorem one6 {W : World} : ∀ {cs : List Comp} {xs : List Value}, CompsC A W cs xs → ∀ u ∈ xs, u.oneCell' = true
  | [], xs, h, u, hu => by cases h; cases hu
  | c :: cs, xs, h, u, hu => by
    obtain ⟨ys, zs, rfl, ⟨vp, vb, rfl, t1, t2, _⟩, h3⟩ := h
    obtain ⟨a1, k1, rfl, _⟩ := t1
    obtain ⟨a2, k2, rfl, _⟩ := t2
    rcases List.mem_append.1 hu with hu | hu
    · simp only [List.mem_cons, List.not_mem_nil, or_false] at hu
      rcases hu with rfl | rfl | rfl | rfl | rfl | rfl <;> rfl
    · exact one6 h3 u hu
theorem infoC : (Tryz.prog.info? 35).map (fun i => (i.zero, i.size, i.bytes)) = some (some (.agg #[.int .i64 0, .string ⟨#[]⟩, .string ⟨#[]⟩, .string ⟨#[]⟩, .slice none 0 0, .slice none 0 0]), 6, 104) := by kernel_rfl
theorem cell_add {w : World} {b j : Nat} {u : Value} (h : w.cell? ⟨b, j, none⟩ = some u) : w.cell? ((⟨b, 0, none⟩ : Addr).add j) = some u := by
  unfold Addr.add
  split
  · rename_i hj; subst hj; exact h
  · simpa using h
/-- Comparators that a call has made, onto a row of the call's own. -/
theorem app_comps {w0 w : World} {base : Nat} {v : Value} {cs ds : List Comp} {xs : List Value} {e : Ending} (hown : w.ownsRow base 35 6 v cs.length xs) (hc : CompsC A w cs xs)
    (hd : CompsP A w0 ds e w) (hb : base ≤ w.heap.size) (hn : cs.length + ds.length ≤ 1048576) :
    ∃ u, e = .returned u ∧ ∃ v' w' ys, (Builtin.append_ #[39, 39] 39 #[v, u]).run Tryz.prog w = .ok v' w' ∧ w'.ownsRow base 35 6 v' (cs ++ ds).length ys ∧ CompsC A w (cs ++ ds) ys ∧ w.grownBy w' v.ownBlock ∧ (v'.ownBlock = v.ownBlock ∨ v'.ownBlock = some w.heap.size) := by
  obtain ⟨i0, hi, hz0, hz1, hz2⟩ := info_parts infoC
  obtain ⟨_, ⟨rfl, rfl⟩ | ⟨b, ys, rfl, _, hy, hyc⟩⟩ := hd
  · refine ⟨_, rfl, v, w, xs, run_append_owned_none w base 39 39 35 i0 6 Tryz.underlying39 hi v _ xs hown, ?_, ?_, ⟨rfl, rfl, rfl, Nat.le_refl _, fun _ _ _ => rfl⟩, .inl rfl⟩
    · rw [List.append_nil]; exact hown
    · rw [List.append_nil]; exact hc
  · obtain ⟨v', w', h1, h2, h3, _, h4⟩ := run_append_own_at (P := Tryz.prog) (w := w) base 39 39 35 i0 _ 6 104 Tryz.underlying39 hi hz0 hz1 hz2 rfl (by decide) v cs.length xs hown ⟨b, 0, none⟩ ds.length ds.length ys hyc.len
      (fun j u hu => cell_add (cell_at j hy (by rw [List.getElem?_toArray]; exact hu))) (one6 hyc) (by unfold maxLen; omega) (by omega) hb
    exact ⟨_, rfl, v', w', xs ++ ys, h1, by rw [List.length_append]; exact h2, hc.app hyc, h3, h4⟩

end Go.Proofs.YtaflflelcdcanaaGreat
