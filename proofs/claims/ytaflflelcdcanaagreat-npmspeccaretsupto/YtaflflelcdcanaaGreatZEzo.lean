/-
  Walks: Parse at any text, Valid; what is read is short. · Walks: chapter 8's examples.
-/
import Derived.Test.YtaflflelcdcanaaGreatZEzm
import Derived.Test.YtaflflelcdcanaaGreatZWr
import Derived.Test.YtaflflelcdcanaaGreatZEzh
namespace Go.Proofs.YtaflflelcdcanaaGreat
open Go.RowKit Go.Shelf
set_option linter.unusedVariables false

set_option maxRecDepth 100000 in
theorem NParse_long (s : ByteArray) (w : World) (hs : 256 < s.size) :
    CallsIn Fence.wide 5 Tryz.prog 8 #[.string s] w (NPost (12, 256, []) w) := by
  refine callsIn_of_wp_marks Tryz.func8 rfl trivial (wpIn_wide.2 ?_) rfl
  simp only [Tryz.ntmps8, List.size_toArray, List.length_cons, List.length_nil, Nat.reduceAdd, Nat.reduceSub, Array.replicate_succ, Array.replicate_zero, List.push_toArray, List.append_toArray, List.nil_append, List.cons_append]
  have hs' : decide ((256 : Int) < (s.size : Int)) = true := by simp; omega
  clear hs
  go_wp2_with fail
  go_step3
  go_wp2_with fail
  refine fin8 _ [] _ w.heap.size w.heap.size (.slice none 0 0) _ _ rfl rfl (World.alloc_heap_new w _) List.nodup_nil (fun D h => by cases h) ?_
  intro W' hp
  exact ⟨_, rfl, ⟨none, 0, rfl, .inl rfl⟩, ((Below.refl _ w).alloc (Nat.le_refl _) _).trans hp.1⟩
theorem NParse_any (s : ByteArray) (w : World) : Calls Tryz.prog 8 #[.string s] w (NPost (nParse s.data.toList) w) := by
  refine (callsIn_wide (n := 5)).1 ?_
  unfold nParse
  rw [len_data]
  by_cases h : 256 < s.size
  · rw [if_pos h]
    exact NParse_long s w h
  · rw [if_neg h]
    exact NParse_in s w (by omega)

set_option maxRecDepth 100000 in
theorem ValidR_any (s : ByteArray) (w : World) :
    Calls Tryz.prog 11 #[.string s] w fun e w' => e = .returned (.bool ((nParse s.data.toList).1 == 0)) ∧ Below w.heap.size w w' := by
  have PA := hide (fun W => NParse_any s W)
  unfold NPost at PA
  generalize nParse s.data.toList = R at *
  obtain ⟨re, ra, l⟩ := R
  dsimp only at *
  go_enter Tryz.func11, Tryz.ntmps11
  go_wp2_with fail
  refine (PA.out _).mono ?_
  rintro e w1 ⟨v1, rfl, hS, b1⟩
  obtain ⟨a1, k1, rfl, _⟩ := id hS
  dsimp only at *
  clear hS
  go_wp2_with fail
  go_ret
  exact ⟨rfl, b1.alloc b1.size _⟩

theorem first_shorts {x : SemL} (h : ShortS x) : ShortS (firstL x) := ⟨h.1, h.2.1, h.2.2.1, ⟨by simp [firstL], by simp [firstL]⟩, h.2.2.2.2⟩
theorem mean_short (f : Nat) (p : PartL) (hp : PShort p) : ∀ c ∈ meanL f p, ShortS c.2 := by
  have hb := hp.sem
  have hn : ∀ k, ShortS (nextW (begL p) k) := fun k => nextW_short _ _ (by have := hp.a; simp only [begL]; omega) (by have := hp.b; simp only [begL]; omega) (by have := hp.c; simp only [begL]; omega)
  have hh : ∀ k, ShortS (behL p k) := fun k => first_shorts (hn k)
  have hf := first_shorts hb
  have h0 : ShortS (⟨[48], [48], [48], [[48]], []⟩ : SemL) := ⟨by simp, by simp, by simp, ⟨by simp, by simp⟩, ⟨by simp, by simp⟩⟩
  have hw : ∀ k, ∀ c ∈ withL p k, ShortS c.2 := by
    intro k c hc
    simp only [withL, List.mem_cons, List.not_mem_nil, or_false] at hc
    rcases hc with rfl | rfl
    · exact hb
    · exact hh k
  have hz : ∀ c ∈ noneL, ShortS c.2 := by
    intro c hc
    simp only [noneL, List.mem_cons, List.not_mem_nil, or_false] at hc
    subst hc
    exact h0
  have h1 : ∀ (o : Int) (x : SemL), ShortS x → ∀ c ∈ [((o, x) : Comp)], ShortS c.2 := by
    intro o x hx c hc
    simp only [List.mem_cons, List.not_mem_nil, or_false] at hc
    subst hc
    exact hx
  have h9 : ∀ c ∈ ([] : List Comp), ShortS c.2 := fun c hc => by cases hc
  unfold meanL equalL lessL upToL moreL fromL tildeL caretL
  repeat' split
  all_goals first | exact h9 | exact hz | exact hw _ | exact h1 _ _ hb | exact h1 _ _ (hh _) | exact h1 _ _ (hn _) | exact h1 _ _ hf
/-- What is known of a set that is read. -/
def GoodS (cs : List Comp) : Prop := cs.length ≤ 66 ∧ ∃ (its : List Item), its.length ≤ 33 ∧ (∀ x ∈ its, x.f ∈ fns ∧ PShort x.p) ∧ cs = its.flatMap (fun x => meanL x.f x.p)
theorem fold_good {l : List UInt8} : ∀ (xs : List Item) (a : Int) (pre : List Item), (∀ x ∈ xs, x.err = 0 → GoodI l x) → (∀ x ∈ pre, GoodI l x) →
    ∃ its : List Item, its.length ≤ pre.length + xs.length ∧ (∀ x ∈ its, GoodI l x) ∧ (foldI a (pre.flatMap (fun x => meanL x.f x.p)) xs).2.2 = its.flatMap (fun x => meanL x.f x.p)
  | [], a, pre, _, hp => ⟨pre, by simp, hp, rfl⟩
  | x :: xs, a, pre, h, hp => by
    by_cases he : x.err = 0
    · rw [foldI_cons he]
      have hx := h x List.mem_cons_self he
      obtain ⟨its, h1, h2, h3⟩ := fold_good xs x.pos (pre ++ [x]) (fun y hy => h y (List.mem_cons_of_mem _ hy)) (fun y hy => by
        rcases List.mem_append.1 hy with hy | hy
        · exact hp y hy
        · simp at hy; subst hy; exact hx)
      refine ⟨its, by simp at h1 ⊢; omega, h2, ?_⟩
      rw [← h3, List.flatMap_append]
      simp
    · refine ⟨pre, by simp, hp, ?_⟩
      unfold foldI
      rw [if_pos he]
theorem one_good {l : List UInt8} (hl : l.length ≤ 256) {a : Nat} (ha : a ≤ l.length) : GoodS (oneSet l a).2.2 := by
  obtain ⟨its, h1, h2, h3⟩ := fold_good (l := l) (partsL l a) (a : Int) [] (parts_good hl ha) (fun x h => by cases h)
  have h4 := parts_len l a
  have h5 := flat_len its
  simp only [List.length_nil, Nat.zero_add] at h1
  have h6 : (oneSet l a).2.2 = its.flatMap (fun x => meanL x.f x.p) := h3
  rw [h6]
  exact ⟨by omega, its, by omega, fun x hx => ⟨(h2 x hx).fn, (h2 x hx).short⟩, rfl⟩
theorem go_good {l : List UInt8} (hl : l.length ≤ 256) : ∀ (n a : Nat) (sets : List (List Comp)), a ≤ l.length → (∀ cs ∈ sets, GoodS cs) → (npGo l n a sets).2.2.length ≤ sets.length + n ∧ ∀ cs ∈ (npGo l n a sets).2.2, GoodS cs
  | 0, a, sets, _, _ => ⟨by simp [npGo], by simp [npGo]⟩
  | n + 1, a, sets, ha, h => by
    have hs : ∀ cs ∈ sets ++ [(oneSet l a).2.2], GoodS cs := by
      intro cs hc
      rcases List.mem_append.1 hc with hc | hc
      · exact h cs hc
      · simp at hc; subst hc; exact one_good hl ha
    unfold npGo
    split
    · exact ⟨by simp, by simp⟩
    · split
      · exact ⟨by simp, hs⟩
      · split
        · exact ⟨by simp, by simp⟩
        · rename_i h3
          have h4 := bars_ok (Classical.byContradiction h3)
          have := go_good hl n _ (sets ++ [(oneSet l a).2.2]) h4.1 hs
          refine ⟨?_, this.2⟩
          have h5 := this.1
          simp at h5 ⊢
          omega
theorem parse_goods (l : List UInt8) : (nParse l).2.2.length ≤ 33 ∧ ∀ cs ∈ (nParse l).2.2, GoodS cs := by
  unfold nParse
  split
  · exact ⟨by simp, by simp⟩
  · have := go_good (l := l) (by omega) 33 0 [] (Nat.zero_le _) (by simp)
    simpa using this
theorem parse_shorts (l : List UInt8) : ShortL (nParse l).2.2 := by
  obtain ⟨h1, h2⟩ := parse_goods l
  refine ⟨by omega, fun cs hc => ?_⟩
  obtain ⟨h3, its, _, h5, rfl⟩ := h2 cs hc
  refine ⟨by omega, fun c hc => ?_⟩
  obtain ⟨x, hx, hm⟩ := List.mem_flatMap.1 hc
  exact mean_short _ _ (h5 x hx).2 c hm
theorem MatchR_any (s u : ByteArray) (w : World) : Calls Tryz.prog 21 #[.string s, .string u] w fun e w' => e = .returned (.bool (takesL (nParse s.data.toList).2.2 u.data.toList)) ∧ Below w.heap.size w w' :=
  Match_of NParse_any parse_shorts s u w

end Go.Proofs.YtaflflelcdcanaaGreat

namespace Go.Proofs.YtaflflelcdcanaaGreat
open Go.RowKit Go.Shelf
set_option linter.unusedVariables false

def exs8 : List (List UInt8 × List UInt8) := [([94, 49, 46, 50, 46, 51], [62, 61, 49, 46, 50, 46, 51, 32, 60, 50, 46, 48, 46, 48, 45, 48]), ([94, 48, 46, 50, 46, 51], [62, 61, 48, 46, 50, 46, 51, 32, 60, 48, 46, 51, 46, 48, 45, 48]), ([94, 48, 46, 48, 46, 51], [62, 61, 48, 46, 48, 46, 51, 32, 60, 48, 46, 48, 46, 52, 45, 48]), ([126, 49, 46, 50], [62, 61, 49, 46, 50, 46, 48, 32, 60, 49, 46, 51, 46, 48, 45, 48]), ([49, 46, 50, 46, 51, 32, 45, 32, 50, 46, 51], [62, 61, 49, 46, 50, 46, 51, 32, 60, 50, 46, 52, 46, 48, 45, 48]), ([62, 49, 46, 50], [62, 61, 49, 46, 51, 46, 48]), ([60, 61, 50], [60, 51, 46, 48, 46, 48, 45, 48]), ([], [42]), ([62, 42], [60, 48, 46, 48, 46, 48, 45, 48]), ([124, 124], [42, 32, 124, 124, 32, 42])]
def exCells8 : Array Value := #[.string ⟨#[94, 49, 46, 50, 46, 51]⟩, .string ⟨#[62, 61, 49, 46, 50, 46, 51, 32, 60, 50, 46, 48, 46, 48, 45, 48]⟩, .string ⟨#[94, 48, 46, 50, 46, 51]⟩, .string ⟨#[62, 61, 48, 46, 50, 46, 51, 32, 60, 48, 46, 51, 46, 48, 45, 48]⟩, .string ⟨#[94, 48, 46, 48, 46, 51]⟩, .string ⟨#[62, 61, 48, 46, 48, 46, 51, 32, 60, 48, 46, 48, 46, 52, 45, 48]⟩, .string ⟨#[126, 49, 46, 50]⟩, .string ⟨#[62, 61, 49, 46, 50, 46, 48, 32, 60, 49, 46, 51, 46, 48, 45, 48]⟩, .string ⟨#[49, 46, 50, 46, 51, 32, 45, 32, 50, 46, 51]⟩, .string ⟨#[62, 61, 49, 46, 50, 46, 51, 32, 60, 50, 46, 52, 46, 48, 45, 48]⟩, .string ⟨#[62, 49, 46, 50]⟩, .string ⟨#[62, 61, 49, 46, 51, 46, 48]⟩, .string ⟨#[60, 61, 50]⟩, .string ⟨#[60, 51, 46, 48, 46, 48, 45, 48]⟩, .string ⟨#[]⟩, .string ⟨#[42]⟩, .string ⟨#[62, 42]⟩, .string ⟨#[60, 48, 46, 48, 46, 48, 45, 48]⟩, .string ⟨#[124, 124]⟩, .string ⟨#[42, 32, 124, 124, 32, 42]⟩]
theorem ex_cell8 (k : Nat) (h : k < 10) : exCells8[k * 2]? = some (.string (ofL (exs8.getD k ([], [])).1)) ∧ exCells8[k * 2 + 1]? = some (.string (ofL (exs8.getD k ([], [])).2)) := by
  match k, h with
  | 0, _ => exact ⟨rfl, rfl⟩
  | 1, _ => exact ⟨rfl, rfl⟩
  | 2, _ => exact ⟨rfl, rfl⟩
  | 3, _ => exact ⟨rfl, rfl⟩
  | 4, _ => exact ⟨rfl, rfl⟩
  | 5, _ => exact ⟨rfl, rfl⟩
  | 6, _ => exact ⟨rfl, rfl⟩
  | 7, _ => exact ⟨rfl, rfl⟩
  | 8, _ => exact ⟨rfl, rfl⟩
  | 9, _ => exact ⟨rfl, rfl⟩
/-- Sets whose text is not too long. -/
def fitB8 (l : List (List Comp)) : Bool := Nat.ble l.length 2000000 && l.all (fun cs => Nat.ble cs.length 2000000 && cs.all (fun c => Nat.ble (lenS c.2) 1048576)) && Nat.ble (Lib.join (l.map (fun cs => (setT cs).1)) [32, 124, 124, 32]).length 140737488355328
theorem FormatB_any (l : List (List Comp)) (v : Value) (w : World) (hv : SetsAt w v l) (h : fitB8 l = true) : Calls Tryz.prog 13 #[v] w fun e w' => e = .returned (.string (ofL (fmtSets l))) ∧ Below w.heap.size w w' := by
  unfold fitB8 at h
  simp only [Bool.and_eq_true, List.all_eq_true, Nat.ble_eq] at h
  exact FormatR_any l v w hv (fun cs hc => h.1.2 cs hc) h.1.1 h.2
theorem ex_parse8 (k : Nat) (h : k < 10) : (nParse (exs8.getD k ([], [])).1).1 = 0 ∧ fmtSets (nParse (exs8.getD k ([], [])).1).2.2 = (exs8.getD k ([], [])).2 ∧ fitB8 (nParse (exs8.getD k ([], [])).1).2.2 = true := by
  match k, h with
  | 0, _ => exact ⟨by kernel_rfl, by kernel_rfl, by kernel_rfl⟩
  | 1, _ => exact ⟨by kernel_rfl, by kernel_rfl, by kernel_rfl⟩
  | 2, _ => exact ⟨by kernel_rfl, by kernel_rfl, by kernel_rfl⟩
  | 3, _ => exact ⟨by kernel_rfl, by kernel_rfl, by kernel_rfl⟩
  | 4, _ => exact ⟨by kernel_rfl, by kernel_rfl, by kernel_rfl⟩
  | 5, _ => exact ⟨by kernel_rfl, by kernel_rfl, by kernel_rfl⟩
  | 6, _ => exact ⟨by kernel_rfl, by kernel_rfl, by kernel_rfl⟩
  | 7, _ => exact ⟨by kernel_rfl, by kernel_rfl, by kernel_rfl⟩
  | 8, _ => exact ⟨by kernel_rfl, by kernel_rfl, by kernel_rfl⟩
  | 9, _ => exact ⟨by kernel_rfl, by kernel_rfl, by kernel_rfl⟩
theorem ex_bad8 : ((nParse [49, 46, 50, 32, 46, 51]).1, (nParse [49, 46, 50, 32, 46, 51]).2.1) = (10, 4) := by kernel_rfl
theorem ex_bad9 : ((nParse [94]).1, (nParse [94]).2.1) = (11, 1) := by kernel_rfl
theorem ex_take8 : takesL (nParse [94, 49, 46, 50, 46, 51, 45, 98, 101, 116, 97, 46, 50]).2.2 [49, 46, 50, 46, 51, 45, 98, 101, 116, 97, 46, 52] = true := by kernel_rfl
theorem ex_take9 : takesL (nParse [94, 49, 46, 50, 46, 51, 45, 98, 101, 116, 97, 46, 50]).2.2 [49, 46, 51, 46, 48, 45, 98, 101, 116, 97] = false := by kernel_rfl

set_option maxRecDepth 100000 in
set_option maxHeartbeats 4000000 in
theorem awake8_any (w : World) : Calls Tryz.prog 12 #[] w fun e w' => e = .returned (.bool true) ∧ Below w.heap.size w w' := by
  go_enter Tryz.func12, Tryz.ntmps12
  go_wp2_with fail
  have eL : (w.alloc (.cells exCells8 65)).heap[w.heap.size]? = some (.cells exCells8 65) := World.alloc_heap_new w _
  have bL : Below w.heap.size w (w.alloc (.cells exCells8 65)) := (Below.refl _ w).alloc (Nat.le_refl _) _
  generalize hW0 : w.alloc (.cells #[.string ⟨#[94, 49, 46, 50, 46, 51]⟩, .string ⟨#[62, 61, 49, 46, 50, 46, 51, 32, 60, 50, 46, 48, 46, 48, 45, 48]⟩, .string ⟨#[94, 48, 46, 50, 46, 51]⟩, .string ⟨#[62, 61, 48, 46, 50, 46, 51, 32, 60, 48, 46, 51, 46, 48, 45, 48]⟩, .string ⟨#[94, 48, 46, 48, 46, 51]⟩, .string ⟨#[62, 61, 48, 46, 48, 46, 51, 32, 60, 48, 46, 48, 46, 52, 45, 48]⟩, .string ⟨#[126, 49, 46, 50]⟩, .string ⟨#[62, 61, 49, 46, 50, 46, 48, 32, 60, 49, 46, 51, 46, 48, 45, 48]⟩, .string ⟨#[49, 46, 50, 46, 51, 32, 45, 32, 50, 46, 51]⟩, .string ⟨#[62, 61, 49, 46, 50, 46, 51, 32, 60, 50, 46, 52, 46, 48, 45, 48]⟩, .string ⟨#[62, 49, 46, 50]⟩, .string ⟨#[62, 61, 49, 46, 51, 46, 48]⟩, .string ⟨#[60, 61, 50]⟩, .string ⟨#[60, 51, 46, 48, 46, 48, 45, 48]⟩, .string ⟨#[]⟩, .string ⟨#[42]⟩, .string ⟨#[62, 42]⟩, .string ⟨#[60, 48, 46, 48, 46, 48, 45, 48]⟩, .string ⟨#[124, 124]⟩, .string ⟨#[42, 32, 124, 124, 32, 42]⟩] 65) = W0 at *
  rw [show w.alloc (.cells exCells8 65) = W0 from hW0] at eL bL
  clear hW0
  have EL := hide eL
  have BL := hide bL
  clear eL bL
  go_loopw [21] (fun i wr => ∃ k : Nat, k ≤ 10 ∧ i = .int .i64 k ∧ Hid (wr.heap[w.heap.size]? = some (.cells exCells8 65)) ∧ Below w.heap.size w wr) (fun i _ => 10 - (intOf i).toNat)
  case atStart => exact ⟨0, by omega, rfl, EL, BL.out⟩
  case round =>
    obtain ⟨k, h10, rfl, HL, hb⟩ := hrel
    by_cases hlt : k < 10
    · have c0 := cell_at (k * 2) HL.out (ex_cell8 k hlt).1
      have c1 := cell_at (k * 2 + 1) HL.out (ex_cell8 k hlt).2
      have C := hide (fun W => NParse_any (ofL (exs8.getD k ([], [])).1) W)
      obtain ⟨x0, x1, x2⟩ := ex_parse8 k hlt
      have hk : ((k : Int) < 10) := by omega
      have hk0 : ((0 : Int) ≤ (k : Int)) := by omega
      rw [ofL_data] at C
      generalize (exs8.getD k ([], [])).1 = ea at *
      generalize (exs8.getD k ([], [])).2 = eb at *
      unfold NPost at C
      generalize nParse ea = R at *
      obtain ⟨re, ra, l⟩ := R
      dsimp only at *
      subst x0
      have FB := hide (fun v W hv => FormatB_any l v W hv x2)
      rw [x1] at FB
      have HB := hide hb
      clear x1 x2 hb
      go_wp2_with fail
      have nP := World.alloc_heap_new wr (.cells #[.string (ofL ea), .string (ofL eb)] 65)
      refine (C.out _).mono ?_
      rintro e w1 ⟨v1, rfl, hS, b1⟩
      obtain ⟨a1, k1, rfl, _⟩ := id hS
      have nP1 : w1.heap[wr.heap.size]? = some (.cells #[.string (ofL ea), .string (ofL eb)] 65 (0, 0)) := (b1.block _ (by simp)).trans nP
      have bw1 : Below wr.heap.size wr w1 := ((Below.refl _ wr).alloc (Nat.le_refl _) _).trans (b1.mono (by simp))
      have bA : Below w1.heap.size w1 (w1.alloc (.cells #[.int .i64 0, .int .i64 ra] 25)) := (Below.refl _ w1).alloc (Nat.le_refl _) _
      have nF := World.alloc_heap_new w1 (.cells #[.int .i64 0, .int .i64 ra] 25)
      have nP2 := (bA.block _ (Array.getElem?_eq_some_iff.1 nP1).1).trans nP1
      have S2 := hide (hS.below (bA.trans (drew_below _ _)))
      have HW1 := hide bw1
      have HBA := hide bA
      have r0 : (w1.alloc (.cells #[.int .i64 0, .int .i64 ra] 25)).cell? ⟨w1.heap.size, 0, none⟩ = some (.int .i64 0) := cell_at 0 nF rfl
      have r1 : (w1.alloc (.cells #[.int .i64 0, .int .i64 ra] 25)).cell? ⟨wr.heap.size, 1, none⟩ = some (.string (ofL eb)) := cell_at 1 nP2 rfl
      have NF := hide nF
      have NP := hide nP2
      clear nP nP1 b1 bw1 bA nF nP2 hS c0 c1
      dsimp only
      go_wp2_with fail
      generalize w1.alloc (.cells #[.int .i64 0, .int .i64 ra] 25) = W2 at *
      go_region_held3 (fun W' => W'.cell? ⟨w1.heap.size, 0, none⟩ = some (.int .i64 0) ∧ W'.cell? ⟨wr.heap.size, 1, none⟩ = some (.string (ofL eb))) (go_keep) ((first
        | (go_at_call 13; refine (FB.out _ _ S2.out).mono ?_; rintro e9 w3 ⟨rfl, b3⟩; have k0 : w3.cell? ⟨w1.heap.size, 0, none⟩ = some (.int .i64 0) := cell_at 0 ((b3.block _ (Array.getElem?_eq_some_iff.1 NF.out).1).trans NF.out) rfl; have k1 : w3.cell? ⟨wr.heap.size, 1, none⟩ = some (.string (ofL eb)) := cell_at 1 ((b3.block _ (Array.getElem?_eq_some_iff.1 NP.out).1).trans NP.out) rfl; have B3 := hide b3; clear b3)
        | fail))
      have bF : Below wr.heap.size wr w3 := ((HW1.out.trans (HBA.out.mono HW1.out.size)).trans (drew_below _ _)).trans (B3.out.mono (Nat.le_trans HW1.out.size HBA.out.size))
      have hbF : Below w.heap.size w w3 := HB.out.trans (bF.mono HB.out.size)
      have hL3 : w3.heap[w.heap.size]? = some (.cells exCells8 65) := (bF.block _ (Array.getElem?_eq_some_iff.1 HL.out).1).trans HL.out
      have HL3 := hide hL3
      have HF := hide hbF
      clear hL3 hbF bF HL B3 HBA HW1 NF NP S2 HB FB C k0 k1
      go_wp2_with fail
      go_roundw
      case rel => exact ⟨k + 1, by omega, by go_num, HL3, HF.out⟩
      case measure => simp [intOf]; omega
    · obtain rfl : k = 10 := by omega
      have P1 := hide (fun W => NParse_any ⟨#[49, 46, 50, 32, 46, 51]⟩ W)
      have P2 := hide (fun W => NParse_any ⟨#[94]⟩ W)
      unfold NPost at P1 P2
      rw [show (ByteArray.mk #[49, 46, 50, 32, 46, 51]).data.toList = [49, 46, 50, 32, 46, 51] from rfl] at P1
      rw [show (ByteArray.mk #[94]).data.toList = [94] from rfl] at P2
      have y1 := ex_bad8
      have y2 := ex_bad9
      simp only [Prod.mk.injEq] at y1 y2
      rw [y1.1, y1.2] at P1
      rw [y2.1, y2.2] at P2
      have M1 := hide (fun W => MatchR_any ⟨#[94, 49, 46, 50, 46, 51, 45, 98, 101, 116, 97, 46, 50]⟩ ⟨#[49, 46, 50, 46, 51, 45, 98, 101, 116, 97, 46, 52]⟩ W)
      rw [show takesL (nParse (ByteArray.mk #[94, 49, 46, 50, 46, 51, 45, 98, 101, 116, 97, 46, 50]).data.toList).2.2 (ByteArray.mk #[49, 46, 50, 46, 51, 45, 98, 101, 116, 97, 46, 52]).data.toList = true from ex_take8] at M1
      have M2 := hide (fun W => MatchR_any ⟨#[94, 49, 46, 50, 46, 51, 45, 98, 101, 116, 97, 46, 50]⟩ ⟨#[49, 46, 51, 46, 48, 45, 98, 101, 116, 97]⟩ W)
      rw [show takesL (nParse (ByteArray.mk #[94, 49, 46, 50, 46, 51, 45, 98, 101, 116, 97, 46, 50]).data.toList).2.2 (ByteArray.mk #[49, 46, 51, 46, 48, 45, 98, 101, 116, 97]).data.toList = false from ex_take9] at M2
      have HB := hide hb
      clear y1 y2 hb HL hlt h10
      generalize (nParse [49, 46, 50, 32, 46, 51]).2.2 = l1 at *
      generalize (nParse [94]).2.2 = l2 at *
      go_wp2_with fail
      refine (P1.out _).mono ?_
      rintro e w1 ⟨v1, rfl, hS1, b1⟩
      obtain ⟨a1, k1, rfl, _⟩ := id hS1
      clear hS1
      have n1 := World.alloc_heap_new w1 (.cells #[.int .i64 10, .int .i64 4] 25)
      have bA1 : Below wr.heap.size wr (w1.alloc (.cells #[.int .i64 10, .int .i64 4] 25)) := b1.alloc b1.size _
      have hl1 : w1.heap.size < (w1.alloc (.cells #[.int .i64 10, .int .i64 4] 25)).heap.size := by simp
      have N1 := hide n1
      have BA1 := hide bA1
      clear n1 bA1 b1
      dsimp only
      go_wp2_with fail
      generalize w1.alloc (.cells #[.int .i64 10, .int .i64 4] 25) = W2 at *
      generalize w1.heap.size = X1 at *
      refine (P2.out _).mono ?_
      rintro e w3 ⟨v3, rfl, hS3, b3⟩
      obtain ⟨a3, k3, rfl, _⟩ := id hS3
      clear hS3
      have n3 : (w3.alloc (.cells #[.int .i64 11, .int .i64 1] 25)).heap[w3.heap.size]? = some (.cells #[.int .i64 11, .int .i64 1] 25 (0, 0)) := World.alloc_heap_new w3 _
      have m1 : (w3.alloc (.cells #[.int .i64 11, .int .i64 1] 25)).heap[X1]? = some (.cells #[.int .i64 10, .int .i64 4] 25 (0, 0)) := (Below.heap_alloc _ _ _ (Nat.lt_of_lt_of_le hl1 b3.size)).trans ((b3.block _ hl1).trans N1.out)
      have bA3 : Below wr.heap.size wr (w3.alloc (.cells #[.int .i64 11, .int .i64 1] 25)) := (BA1.out.trans (b3.mono BA1.out.size)).alloc (Nat.le_trans BA1.out.size b3.size) _
      have d0 : (w3.alloc (.cells #[.int .i64 11, .int .i64 1] 25)).cell? ⟨w3.heap.size, 0, none⟩ = some (.int .i64 11) := cell_at 0 n3 rfl
      have d1 : (w3.alloc (.cells #[.int .i64 11, .int .i64 1] 25)).cell? ⟨w3.heap.size, 1, none⟩ = some (.int .i64 1) := cell_at 1 n3 rfl
      have d2 : (w3.alloc (.cells #[.int .i64 11, .int .i64 1] 25)).cell? ⟨X1, 0, none⟩ = some (.int .i64 10) := cell_at 0 m1 rfl
      have d3 : (w3.alloc (.cells #[.int .i64 11, .int .i64 1] 25)).cell? ⟨X1, 1, none⟩ = some (.int .i64 4) := cell_at 1 m1 rfl
      have BA3 := hide bA3
      clear n3 m1 bA3 b3
      dsimp only
      go_wp2_with fail
      generalize w3.alloc (.cells #[.int .i64 11, .int .i64 1] 25) = W4 at *
      clear d0 d1 d2 d3
      refine (M1.out _).mono ?_
      rintro e w5 ⟨rfl, b5⟩
      go_wp2_with fail
      refine (M2.out _).mono ?_
      rintro e w6 ⟨rfl, b6⟩
      go_wp2_with fail
      go_ret
      have bF := (BA3.out.trans (b5.mono BA3.out.size)).trans (b6.mono (Nat.le_trans BA3.out.size b5.size))
      exact ⟨rfl, HB.out.trans (bF.mono HB.out.size)⟩

end Go.Proofs.YtaflflelcdcanaaGreat
