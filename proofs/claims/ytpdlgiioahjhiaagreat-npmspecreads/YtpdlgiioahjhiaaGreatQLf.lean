/-
  The document's answer: the version with one part raised. · The walk of SemverWrites. · Walks: Parse at any text, Valid; what is read is short. · Walks: a set's text. · Walks: a range's text. · Walks: chapter 8's examples. · Walks: the document's order of identifiers and of versions. · Sets of comparators, a comparator and a version that came in, opened; how long a range's text can be. · Walks: the document's versions made of a partial, and one comparator of them. · Walks: the document's version with which a partial begins.
-/
import Derived.Test.YtpdlgiioahjhiaaGreatQRh
import Derived.Test.YtpdlgiioahjhiaaGreatQBa
import Derived.Deep.RegionHeld3
import Derived.Test.YtpdlgiioahjhiaaGreatQEzm
import Derived.Test.YtpdlgiioahjhiaaGreatQEzc
import Derived.ProofKit
import Derived.OpenShut
import Derived.ShutString
import Derived.ChangeOld
import Derived.Below
import Derived.SizedLaws
import Derived.SliceStrings
import Derived.Deep.Slices
import Derived.Test.YtpdlgiioahjhiaaGreatQEo
namespace Go.Proofs.YtpdlgiioahjhiaaGreat
open Go.RowKit Go.Shelf
set_option linter.unusedVariables false

theorem rnext_ofL (a : List UInt8) (w : World) (ha : a.length ≤ 9223372036854775805) :
    Calls Tryz.prog 155 #[.string (ofL a)] w fun e w' => e = .returned (.string (ofL (nextL a))) ∧ Below w.heap.size w w' := by
  have := RNext_any (ofL a) w (by rw [ofL_size]; exact ha)
  rw [ofL_data] at this
  exact this
end Go.Proofs.YtpdlgiioahjhiaaGreat

namespace Go.Proofs.YtpdlgiioahjhiaaGreat
open Go.RowKit Go.Shelf
set_option linter.unusedVariables false

theorem nextW_short (x : SemL) (p : Int) (h1 : x.maj.length ≤ 140737488355328) (h2 : x.min.length ≤ 140737488355328) (h3 : x.pat.length ≤ 140737488355328) : ShortS (nextW x p) := by
  have hn : ShortS semN := ⟨by simp [semN], by simp [semN], by simp [semN], ⟨by simp [semN], by simp [semN]⟩, ⟨by simp [semN], by simp [semN]⟩⟩
  unfold nextW
  split
  · split
    · split
      · exact rais_short x p h1 h2 h3
      · exact hn
    · exact hn
  · exact hn

end Go.Proofs.YtpdlgiioahjhiaaGreat

namespace Go.Proofs.YtpdlgiioahjhiaaGreat
open Go.RowKit Go.Shelf
set_option linter.unusedVariables false

set_option maxRecDepth 100000 in
theorem NParse_long (s : ByteArray) (w : World) (hs : 256 < s.size) :
    CallsIn Fence.wide 5 Tryz.prog 8 #[.string s] w (NPost (12, 256, []) w) := by
  refine callsIn_of_wp_marks Tryz.func8 rfl trivial (wpIn_wide.2 ?_) rfl
  simp only [Tryz.ntmps8, List.size_toArray, List.length_cons, List.length_nil, Nat.reduceAdd, Nat.reduceSub, Array.replicate_succ, Array.replicate_zero, List.push_toArray, List.append_toArray, List.nil_append, List.cons_append]
  have hs' : decide ((256 : Int) < (s.size : Int)) = true := by simp; omega
  clear hs
  go_wp2_with fail
  go_step3
  go_wp2_with fail
  refine fin8 _ [] _ w.heap.size w.heap.size (.slice none 0 0) _ _ rfl rfl (World.alloc_heap_new w _) List.nodup_nil (fun D h => by cases h) ?_
  intro W' hp
  exact ⟨_, rfl, ⟨none, 0, rfl, .inl rfl⟩, ((Below.refl _ w).alloc (Nat.le_refl _) _).trans hp.1⟩
theorem NParse_any (s : ByteArray) (w : World) : Calls Tryz.prog 8 #[.string s] w (NPost (nParse s.data.toList) w) := by
  refine (callsIn_wide (n := 5)).1 ?_
  unfold nParse
  rw [len_data]
  by_cases h : 256 < s.size
  · rw [if_pos h]
    exact NParse_long s w h
  · rw [if_neg h]
    exact NParse_in s w (by omega)

set_option maxRecDepth 100000 in
theorem ValidR_any (s : ByteArray) (w : World) :
    Calls Tryz.prog 11 #[.string s] w fun e w' => e = .returned (.bool ((nParse s.data.toList).1 == 0)) ∧ Below w.heap.size w w' := by
  have PA := hide (fun W => NParse_any s W)
  unfold NPost at PA
  generalize nParse s.data.toList = R at *
  obtain ⟨re, ra, l⟩ := R
  dsimp only at *
  go_enter Tryz.func11, Tryz.ntmps11
  go_wp2_with fail
  refine (PA.out _).mono ?_
  rintro e w1 ⟨v1, rfl, hS, b1⟩
  obtain ⟨a1, k1, rfl, _⟩ := id hS
  dsimp only at *
  clear hS
  go_wp2_with fail
  go_ret
  exact ⟨rfl, b1.alloc b1.size _⟩

theorem first_shorts {x : SemL} (h : ShortS x) : ShortS (firstL x) := ⟨h.1, h.2.1, h.2.2.1, ⟨by simp [firstL], by simp [firstL]⟩, h.2.2.2.2⟩
theorem mean_short (f : Nat) (p : PartL) (hp : PShort p) : ∀ c ∈ meanL f p, ShortS c.2 := by
  have hb := hp.sem
  have hn : ∀ k, ShortS (nextW (begL p) k) := fun k => nextW_short _ _ (by have := hp.a; simp only [begL]; omega) (by have := hp.b; simp only [begL]; omega) (by have := hp.c; simp only [begL]; omega)
  have hh : ∀ k, ShortS (behL p k) := fun k => first_shorts (hn k)
  have hf := first_shorts hb
  have h0 : ShortS (⟨[48], [48], [48], [[48]], []⟩ : SemL) := ⟨by simp, by simp, by simp, ⟨by simp, by simp⟩, ⟨by simp, by simp⟩⟩
  have hw : ∀ k, ∀ c ∈ withL p k, ShortS c.2 := by
    intro k c hc
    simp only [withL, List.mem_cons, List.not_mem_nil, or_false] at hc
    rcases hc with rfl | rfl
    · exact hb
    · exact hh k
  have hz : ∀ c ∈ noneL, ShortS c.2 := by
    intro c hc
    simp only [noneL, List.mem_cons, List.not_mem_nil, or_false] at hc
    subst hc
    exact h0
  have h1 : ∀ (o : Int) (x : SemL), ShortS x → ∀ c ∈ [((o, x) : Comp)], ShortS c.2 := by
    intro o x hx c hc
    simp only [List.mem_cons, List.not_mem_nil, or_false] at hc
    subst hc
    exact hx
  have h9 : ∀ c ∈ ([] : List Comp), ShortS c.2 := fun c hc => by cases hc
  unfold meanL equalL lessL upToL moreL fromL tildeL caretL
  repeat' split
  all_goals first | exact h9 | exact hz | exact hw _ | exact h1 _ _ hb | exact h1 _ _ (hh _) | exact h1 _ _ (hn _) | exact h1 _ _ hf
def GoodS (cs : List Comp) : Prop := cs.length ≤ 66 ∧ ∃ (its : List Item), its.length ≤ 33 ∧ (∀ x ∈ its, x.f ∈ fns ∧ PShort x.p) ∧ cs = its.flatMap (fun x => meanL x.f x.p)
theorem fold_good {l : List UInt8} : ∀ (xs : List Item) (a : Int) (pre : List Item), (∀ x ∈ xs, x.err = 0 → GoodI l x) → (∀ x ∈ pre, GoodI l x) →
    ∃ its : List Item, its.length ≤ pre.length + xs.length ∧ (∀ x ∈ its, GoodI l x) ∧ (foldI a (pre.flatMap (fun x => meanL x.f x.p)) xs).2.2 = its.flatMap (fun x => meanL x.f x.p)
  | [], a, pre, _, hp => ⟨pre, by simp, hp, rfl⟩
  | x :: xs, a, pre, h, hp => by
    by_cases he : x.err = 0
    · rw [foldI_cons he]
      have hx := h x List.mem_cons_self he
      obtain ⟨its, h1, h2, h3⟩ := fold_good xs x.pos (pre ++ [x]) (fun y hy => h y (List.mem_cons_of_mem _ hy)) (fun y hy => by
        rcases List.mem_append.1 hy with hy | hy
        · exact hp y hy
        · simp at hy; subst hy; exact hx)
      refine ⟨its, by simp at h1 ⊢; omega, h2, ?_⟩
      rw [← h3, List.flatMap_append]
      simp
    · refine ⟨pre, by simp, hp, ?_⟩
      unfold foldI
      rw [if_pos he]
theorem one_good {l : List UInt8} (hl : l.length ≤ 256) {a : Nat} (ha : a ≤ l.length) : GoodS (oneSet l a).2.2 := by
  obtain ⟨its, h1, h2, h3⟩ := fold_good (l := l) (partsL l a) (a : Int) [] (parts_good hl ha) (fun x h => by cases h)
  have h4 := parts_len l a
  have h5 := flat_len its
  simp only [List.length_nil, Nat.zero_add] at h1
  have h6 : (oneSet l a).2.2 = its.flatMap (fun x => meanL x.f x.p) := h3
  rw [h6]
  exact ⟨by omega, its, by omega, fun x hx => ⟨(h2 x hx).fn, (h2 x hx).short⟩, rfl⟩
theorem go_good {l : List UInt8} (hl : l.length ≤ 256) : ∀ (n a : Nat) (sets : List (List Comp)), a ≤ l.length → (∀ cs ∈ sets, GoodS cs) → (npGo l n a sets).2.2.length ≤ sets.length + n ∧ ∀ cs ∈ (npGo l n a sets).2.2, GoodS cs
  | 0, a, sets, _, _ => ⟨by simp [npGo], by simp [npGo]⟩
  | n + 1, a, sets, ha, h => by
    have hs : ∀ cs ∈ sets ++ [(oneSet l a).2.2], GoodS cs := by
      intro cs hc
      rcases List.mem_append.1 hc with hc | hc
      · exact h cs hc
      · simp at hc; subst hc; exact one_good hl ha
    unfold npGo
    split
    · exact ⟨by simp, by simp⟩
    · split
      · exact ⟨by simp, hs⟩
      · split
        · exact ⟨by simp, by simp⟩
        · rename_i h3
          have h4 := bars_ok (Classical.byContradiction h3)
          have := go_good hl n _ (sets ++ [(oneSet l a).2.2]) h4.1 hs
          refine ⟨?_, this.2⟩
          have h5 := this.1
          simp at h5 ⊢
          omega
theorem parse_goods (l : List UInt8) : (nParse l).2.2.length ≤ 33 ∧ ∀ cs ∈ (nParse l).2.2, GoodS cs := by
  unfold nParse
  split
  · exact ⟨by simp, by simp⟩
  · have := go_good (l := l) (by omega) 33 0 [] (Nat.zero_le _) (by simp)
    simpa using this
theorem parse_shorts (l : List UInt8) : ShortL (nParse l).2.2 := by
  obtain ⟨h1, h2⟩ := parse_goods l
  refine ⟨by omega, fun cs hc => ?_⟩
  obtain ⟨h3, its, _, h5, rfl⟩ := h2 cs hc
  refine ⟨by omega, fun c hc => ?_⟩
  obtain ⟨x, hx, hm⟩ := List.mem_flatMap.1 hc
  exact mean_short _ _ (h5 x hx).2 c hm
theorem MatchR_any (s u : ByteArray) (w : World) : Calls Tryz.prog 21 #[.string s, .string u] w fun e w' => e = .returned (.bool (takesL (nParse s.data.toList).2.2 u.data.toList)) ∧ Below w.heap.size w w' :=
  Match_of NParse_any parse_shorts s u w

end Go.Proofs.YtpdlgiioahjhiaaGreat

namespace Go.Proofs.YtpdlgiioahjhiaaGreat
open Go.RowKit Go.Shelf
set_option linter.unusedVariables false

theorem own_belowT {W W' : World} {B n : Nat} {v : Value} {xs : List Value} (h : W.ownsRow B 9 1 v n xs) (hb : Below W.heap.size W W') : W'.ownsRow B 9 1 v n xs :=
  h.kept (row := none) ⟨hb.os, hb.tape, hb.output, hb.size, fun k hk _ => hb.block k hk⟩ (by
    cases v.ownBlock with
    | none => exact .inl rfl
    | some k => exact .inr (by simp))
def txsN (ts : List (List UInt8)) : List Value := ts.map fun t => .string (ofL t)
theorem txsN_snoc (ts : List (List UInt8)) (t : List UInt8) : txsN (ts ++ [t]) = txsN ts ++ [.string (ofL t)] := by simp [txsN]
theorem txt_rowN {W : World} {base : Nat} {v : Value} {n : Nat} {ts : List (List UInt8)} (hn : ts.length = n) (h : W.ownsRow base 9 1 v n (txsN ts)) : Txt W v ts := by
  subst hn
  rcases h.2 with ⟨rfl, h0⟩ | ⟨g, cap, cur, rfl, hg, hh, _, _, hsz, ht⟩
  · exact ⟨none, 0, by rw [h0], .inl (List.length_eq_zero_iff.1 h0)⟩
  · have e : cur.toList = txsN ts ++ cur.toList.drop (ts.length * 1) := by rw [← ht, List.take_append_drop]
    refine ⟨_, cap, rfl, .inr ⟨g, 0, rfl, (Array.getElem?_eq_some_iff.1 hh).1, fun i hi => ?_⟩⟩
    refine cell_at _ hh ?_
    rw [Nat.zero_add, ← Array.getElem?_toList, e, List.getElem?_append_left (by simpa [txsN] using hi)]
    simp [txsN, hi]
theorem JoinS_any (sep : ByteArray) (v : Value) (ts : List (List UInt8)) (w : World) (hv : Txt w v ts) (hc : Cap v) (hn : ts.length ≤ 2000000) (hl : (Lib.join ts sep.data.toList).length ≤ 140737488355328) :
    Calls Tryz.prog 33 #[v, .string sep] w fun e w' => e = .returned (.string (ofL (Lib.join ts sep.data.toList))) ∧ Below w.heap.size w w' := by
  obtain ⟨a, cap, rfl, h⟩ := id hv
  have hcap := hc _ _ _ rfl
  by_cases h0 : ts = []
  · subst h0
    refine (Tryz.strings_Join_none a cap sep w).mono ?_
    rintro e w' ⟨rfl, rfl⟩
    exact ⟨rfl, Below.refl _ _⟩
  · rcases h with h | ⟨b, off, rfl, hlt, hcell⟩
    · exact absurd h h0
    · have hm : (ts.map ofL).map (·.data.toList) = ts := by
        rw [List.map_map]
        conv => rhs; rw [← List.map_id ts]
        refine List.map_congr_left fun t _ => ?_
        simp [ofL]
      have := Tryz.strings_Join b off cap (ts.map ofL) sep w (by
        intro j x hj
        rw [List.getElem?_map] at hj
        cases hg : ts[j]? with
        | none => rw [hg] at hj; cases hj
        | some t =>
          rw [hg] at hj
          obtain ⟨hj1, hj2⟩ := List.getElem?_eq_some_iff.1 hg
          cases hj
          rw [hcell j hj1, hj2]) hlt (by rw [List.length_map]; omega) (by rw [List.length_map]; exact hcap) (by rw [hm]; exact hl)
      rw [List.length_map, hm] at this
      exact this
theorem join_len (m : Nat) (sep : List UInt8) : ∀ ts : List (List UInt8), (∀ t ∈ ts, t.length ≤ m) → (Lib.join ts sep).length ≤ ts.length * (m + sep.length)
  | [], _ => by simp [Lib.join, List.intercalate]
  | [t], h => by
    have := h t List.mem_cons_self
    simp [Lib.join, List.intercalate]
    omega
  | t :: u :: r, h => by
    have ih := join_len m sep (u :: r) (fun x hx => h x (List.mem_cons_of_mem _ hx))
    have := h t List.mem_cons_self
    unfold Lib.join at ih ⊢
    simp only [List.intercalate] at ih ⊢
    rw [List.intersperse_cons_cons, List.flatten_cons, List.flatten_cons, List.length_append, List.length_append]
    rw [List.length_cons, Nat.add_mul]
    omega

def compT (c : Comp) : List UInt8 := (signL c.1).1.data.toList ++ fmtL c.2
def okT1 (c : Comp) : Bool := (signL c.1).2 && fitW c.2 && decide (c.2.bld.length = 0)
def setT (cs : List Comp) : List UInt8 × Bool := if cs.length = 0 then ([42], true) else if cs.all okT1 = true then (Lib.join (cs.map compT) [32], true) else ([], false)
theorem sign_len (op : Int) : (signL op).1.size ≤ 2 := by
  unfold signL
  split
  · exact Nat.le_of_ble_eq_true rfl
  · split
    · exact Nat.le_of_ble_eq_true rfl
    · split
      · exact Nat.le_of_ble_eq_true rfl
      · split
        · exact Nat.le_of_ble_eq_true rfl
        · split <;> exact Nat.le_of_ble_eq_true rfl
theorem fmtL_len (x : SemL) (h : lenS x ≤ 1048576) : (fmtL x).length ≤ 1048576 := by
  unfold fmtL
  split
  · rw [textL_length]; omega
  · simp
theorem compT_len (c : Comp) (h : lenS c.2 ≤ 1048576) : (compT c).length ≤ 1048600 := by
  have h1 := sign_len c.1
  have h2 := fmtL_len c.2 h
  unfold compT
  rw [List.length_append, len_data]
  omega

set_option maxRecDepth 100000 in
set_option maxHeartbeats 8000000 in
theorem formatSet_any (cs : List Comp) (v : Value) (w : World) (hv : CompsAt w v cs) (hs : ∀ c ∈ cs, lenS c.2 ≤ 1048576) (hcn : cs.length ≤ 2000000) :
    Calls Tryz.prog 32 #[v] w fun e w' => e = .returned (.tuple #[.string (ofL (setT cs).1), .bool (setT cs).2]) ∧ Below w.heap.size w w' := by
  obtain ⟨a, k, rfl, hc0⟩ := id hv
  obtain ⟨i0, hi, hz0, hz1, hz2⟩ := info_parts Tryz.info9
  obtain ⟨n, hn⟩ : ∃ n, cs.length = n := ⟨_, rfl⟩
  have hX : setT cs = if n = 0 then ([42], true) else if cs.all okT1 = true then (Lib.join (cs.map compT) [32], true) else ([], false) := by unfold setT; rw [hn]
  have HJ : Hid ((Lib.join (cs.map compT) [32]).length ≤ 140737488355328) := by
    have := join_len 1048600 [32] (cs.map compT) (fun t ht => by obtain ⟨c, hc, rfl⟩ := List.mem_map.1 ht; exact compT_len c (hs c hc))
    rw [List.length_map] at this
    show _ ≤ _
    simp at this ⊢
    omega
  rw [hn] at hv hcn ⊢
  have HN := hide hn
  have HV := hide hv
  have HSC := hide hs
  generalize setT cs = X at *
  have HX := hide hX
  clear hn hv hc0 hs hX
  by_cases hn0 : n = 0
  · have HX2 : Hid (X = ([42], true)) := by show _ = _; rw [HX.out, if_pos hn0]
    subst hn0
    go_enter Tryz.func32, Tryz.ntmps32
    go_wp2_with fail
    go_ret2
    exact ⟨by rw [HX2.out]; rfl, Below.refl _ _⟩
  · have hnb : ((n : Int) == 0) = false := by simp; omega
    have hX2 : X = if cs.all okT1 = true then (Lib.join (cs.map compT) [32], true) else ([], false) := by rw [HX.out, if_neg hn0]
    have HX2 := hide hX2
    clear hX2 HX hn0
    go_enter Tryz.func32, Tryz.ntmps32
    go_wp2_with fail
    go_loopw [4, 14] (fun z j wr => ∃ (i : Nat) (ao : Option Addr) (cv : Nat), i ≤ n ∧ z = .slice ao i cv ∧ j = .int .i64 i ∧ Hid (Below w.heap.size w wr) ∧ Hid (wr.ownsRow w.heap.size 9 1 (.slice ao i cv) i (txsN ((cs.take i).map compT))) ∧ Hid ((cs.take i).all okT1 = true)) (fun _ j _ => n - (intOf j).toNat)
    case atStart => exact ⟨0, none, 0, by omega, rfl, rfl, Below.refl _ _, World.ownsRow_nil _ _ _ _, rfl⟩
    case round =>
      obtain ⟨i, ao, cv, hin, rfl, rfl, HB, HO, HA⟩ := hrel
      by_cases hlt : i < n
      · have hlt' : (i : Int) < (n : Int) := by omega
        have i1 : i < cs.length := by rw [HN.out]; exact hlt
        obtain ⟨a', k', hv', h0 | ⟨b, o, rfl, hbl, hrow⟩⟩ := HV.out.below HB.out
        · exfalso
          rw [h0] at i1
          simp at i1
        · cases hv'
          obtain ⟨vp, vb, d0, d1, d2, d3, d4, d5, t1, t2, cp1, cp2⟩ := hrow i i1
          have sc := HSC.out cs[i] (List.getElem_mem i1)
          have h1 := all_takeE cs i i1 HA.out
          have h3 : cs.all okT1 = true → okT1 cs[i] = true := fun h => List.all_eq_true.1 h _ (List.getElem_mem i1)
          have h4 : (cs.take (i + 1)).map compT = (cs.take i).map compT ++ [compT cs[i]] := by rw [List.take_succ_eq_append_getElem i1, List.map_append]; rfl
          obtain ⟨a1, k1, rfl, _⟩ := id t1
          obtain ⟨a2, k2, rfl, _⟩ := id t2
          obtain ⟨m1, hm1⟩ : ∃ m1, cs[i].2.pre.length = m1 := ⟨_, rfl⟩
          obtain ⟨m2, hm2⟩ : ∃ m2, cs[i].2.bld.length = m2 := ⟨_, rfl⟩
          have hok : okT1 cs[i] = ((signL cs[i].1).2 && fitW cs[i].2 && decide (m2 = 0)) := by unfold okT1; rw [hm2]
          have hct : compT cs[i] = (signL cs[i].1).1.data.toList ++ fmtL cs[i].2 := rfl
          rw [hct] at h4
          rw [hm1] at t1 d4 cp1
          rw [hm2] at t2 d5 cp2
          have H1 := hide h1
          have H3 := hide h3
          have H4 := hide h4
          have HOK := hide hok
          clear h1 h3 h4 hok hct hrow hm1 hm2
          generalize cs[i] = c at *
          clear i1
          obtain ⟨op, x⟩ := c
          dsimp only at *
          have bb := (Below.refl _ wr).alloc (Nat.le_refl _) (.cells #[.int .i64 op, .string (ofL x.maj), .string (ofL x.min), .string (ofL x.pat), .slice a1 m1 k1, .slice a2 m2 k2] 35)
          have C0 : Hid (Cb wr.heap.size op x a1 a2 m1 m2 k1 k2 (wr.alloc (.cells #[.int .i64 op, .string (ofL x.maj), .string (ofL x.min), .string (ofL x.pat), .slice a1 m1 k1, .slice a2 m2 k2] 35))) := ⟨World.alloc_heap_new wr _, t1.below bb, t2.below bb⟩
          have HB0 := hide (HB.out.trans (bb.mono HB.out.size))
          have HO0 := hide (own_belowT HO.out bb)
          have FI := hide (fun W (c : Cb wr.heap.size op x a1 a2 m1 m2 k1 k2 W) => Fit_any _ x W c.sem (short_of x sc))
          have FM := hide (fun W (c : Cb wr.heap.size op x a1 a2 m1 m2 k1 k2 W) => Format_any _ x W c.sem (fun _ _ _ _ _ e => by cases e; exact ⟨cp1, cp2⟩) sc)
          have SI := hide (fun W => sign_any op W)
          have hsl := sign_len op
          have hfl := fmtL_len x sc
          have hfs := ofL_size (fmtL x)
          generalize signL op = sg at *
          obtain ⟨SG, ok⟩ := sg
          dsimp only at *
          generalize fitW x = fx at *
          generalize fmtL x = fm at *
          clear t1 t2 bb HB HO cp1 cp2
          obtain ⟨g0, g1, g2, g3, g4, g5⟩ := C0.out.seen
          obtain ⟨t9, hcat, hcs, hcd⟩ := cat_step SG (ofL fm)
          have HCD := hide hcd
          clear hcd
          go_wp2_with fail
          generalize wr.alloc (.cells #[.int .i64 op, .string (ofL x.maj), .string (ofL x.min), .string (ofL x.pat), .slice a1 m1 k1, .slice a2 m2 k2] 35) = W2 at *
          generalize wr.heap.size = K at *
          refine (SI.out _).mono ?_
          rintro e W3 ⟨rfl, hw3⟩
          rw [hw3]
          clear hw3 W3 SI
          cases ok with
          | false =>
            have hX : X = ([], false) := by
              rw [HX2.out, if_neg]
              intro h
              exact absurd (H3.out h) (by rw [HOK.out]; simp)
            have HX3 := hide hX
            clear hX
            go_wp2_with fail
            go_ret2
            exact ⟨by rw [HX3.out]; rfl, HB0.out⟩
          | true =>
            go_wp2_with fail
            refine (FI.out _ C0.out).mono ?_
            rintro e W3 ⟨rfl, b3⟩
            have C1 := hide (C0.out.next b3)
            have HB1 := hide (HB0.out.trans (b3.mono HB0.out.size))
            have HO1 := hide (own_belowT HO0.out b3)
            clear b3 C0 HB0 HO0 g0 g1 g2 g3 g4 g5 FI
            obtain ⟨g0, g1, g2, g3, g4, g5⟩ := C1.out.seen
            cases fx with
            | false =>
              have hX : X = ([], false) := by
                rw [HX2.out, if_neg]
                intro h
                exact absurd (H3.out h) (by rw [HOK.out]; simp)
              have HX3 := hide hX
              clear hX
              go_wp2_with fail
              go_ret2
              exact ⟨by rw [HX3.out]; rfl, HB1.out⟩
            | true =>
              by_cases hm : m2 = 0
              · have hm' : ¬ (0 : Int) < (m2 : Int) := by omega
                have hmn : ¬ 0 < m2 := by omega
                have hOK : okT1 (op, x) = true := by rw [HOK.out, decide_eq_true hm]; rfl
                have HOK2 := hide hOK
                clear hm hOK
                go_wp2_with fail
                refine (FM.out _ C1.out).mono ?_
                rintro e W4 ⟨rfl, b4⟩
                have HB2 := hide (HB1.out.trans (b4.mono HB1.out.size))
                have HO2 := hide (own_belowT HO1.out b4)
                clear b4 C1 HB1 HO1 g0 g1 g2 g3 g4 g5 FM
                have hbase : w.heap.size ≤ W4.heap.size := HB2.out.size
                go_wp2_with (at_builtin; refine wpList_append_own _ rfl _ _ 31 rfl w.heap.size 9 i0 (.string .empty) 1 16 Tryz.underlying31 hi hz0 hz1 hz2 rfl (by decide) _ _ _ rfl (HO2.out.alloc _) ⟨W4.heap.size, 0, none⟩ 1 1 [.string t9] rfl rfl (by intro j u hj; match j, hj with | 0, hj => simp at hj; subst hj; simp [Addr.add]) (by intro u hu; simp at hu; subst hu; rfl) (by unfold maxLen; omega) (by omega) (by simp; omega) ?_; intro v' w5 hown' hgrow _; obtain ⟨g', cap', rfl⟩ := ownsRow_succ hown')
                have HO3 : Hid (w5.ownsRow w.heap.size 9 1 (.slice (some ⟨g', 0, none⟩) (i + 1) cap') (i + 1) (txsN ((cs.take (i + 1)).map compT))) := by
                  show World.ownsRow _ _ _ _ _ _ _
                  have ht9 : t9 = ofL (SG.data.toList ++ fm) := by rw [← ofL_self t9, HCD.out, ofL_data]
                  rw [H4.out, txsN_snoc, ← ht9]
                  exact hown'
                have HB3 := hide (((HB2.out.alloc HB2.out.size _).grown hgrow (by simp; omega) (fun k hk => (HO2.out.lt k hk).1)))
                clear hown' hgrow
                go_wp2_with fail
                go_roundw
                case rel => exact ⟨i + 1, _, cap', by omega, rfl, by go_num, HB3, HO3, by show _ = _; rw [H1.out]; exact HOK2.out⟩
                case measure => simp [intOf]; omega
              · have hm' : (0 : Int) < (m2 : Int) := by omega
                have hmn : 0 < m2 := by omega
                have hX : X = ([], false) := by
                  rw [HX2.out, if_neg]
                  intro h
                  exact absurd (H3.out h) (by rw [HOK.out, decide_eq_false hm]; simp)
                have HX3 := hide hX
                clear hX hm
                go_wp2_with fail
                go_ret2
                exact ⟨by rw [HX3.out]; rfl, HB1.out⟩
      · have hlt' : ¬ (i : Int) < (n : Int) := by omega
        have hin2 : i = n := by omega
        have hA := HA.out
        have hO := HO.out
        rw [List.take_of_length_le (by rw [HN.out]; omega)] at hA hO
        have hX : X = (Lib.join (cs.map compT) [32], true) := by rw [HX2.out, if_pos hA]
        have HX3 := hide hX
        have JN := hide (fun W hW hc => JoinS_any ⟨#[32]⟩ (.slice ao i cv) (cs.map compT) W hW hc (by rw [List.length_map, HN.out]; omega) HJ.out)
        have HT := hide (txt_rowN (by rw [List.length_map, HN.out]; omega) hO)
        have HCP := hide (cap_row hO)
        clear hX hA hO hin2
        go_wp2_with fail
        refine (JN.out _ HT.out HCP.out).mono ?_
        rintro e W9 ⟨rfl, b9⟩
        go_wp2_with fail
        go_ret2
        exact ⟨by rw [HX3.out]; rfl, HB.out.trans (b9.mono HB.out.size)⟩

end Go.Proofs.YtpdlgiioahjhiaaGreat

namespace Go.Proofs.YtpdlgiioahjhiaaGreat
open Go.RowKit Go.Shelf
set_option linter.unusedVariables false

def fmtSets (l : List (List Comp)) : List UInt8 := if l.all (fun cs => (setT cs).2) = true then Lib.join (l.map (fun cs => (setT cs).1)) [32, 124, 124, 32] else []

set_option maxRecDepth 100000 in
set_option maxHeartbeats 8000000 in
theorem FormatR_any (l : List (List Comp)) (v : Value) (w : World) (hv : SetsAt w v l) (hs : ∀ cs ∈ l, cs.length ≤ 2000000 ∧ ∀ c ∈ cs, lenS c.2 ≤ 1048576) (hln : l.length ≤ 2000000) (hJ : (Lib.join (l.map (fun cs => (setT cs).1)) [32, 124, 124, 32]).length ≤ 140737488355328) :
    Calls Tryz.prog 13 #[v] w fun e w' => e = .returned (.string (ofL (fmtSets l))) ∧ Below w.heap.size w w' := by
  obtain ⟨a, k, rfl, hc0⟩ := id hv
  obtain ⟨i0, hi, hz0, hz1, hz2⟩ := info_parts Tryz.info9
  obtain ⟨n, hn⟩ : ∃ n, l.length = n := ⟨_, rfl⟩
  have hX : fmtSets l = if l.all (fun cs => (setT cs).2) = true then Lib.join (l.map (fun cs => (setT cs).1)) [32, 124, 124, 32] else [] := rfl
  rw [hn] at hv hln ⊢
  have HN := hide hn
  have HV := hide hv
  have HSC := hide hs
  have HJ := hide hJ
  generalize fmtSets l = X at *
  have HX := hide hX
  clear hn hv hc0 hs hX hJ
  go_enter Tryz.func13, Tryz.ntmps13
  go_wp2_with fail
  go_loopw [3, 10] (fun z j wr => ∃ (i : Nat) (ao : Option Addr) (cv : Nat), i ≤ n ∧ z = .slice ao i cv ∧ j = .int .i64 i ∧ Hid (Below w.heap.size w wr) ∧ Hid (wr.ownsRow w.heap.size 9 1 (.slice ao i cv) i (txsN ((l.take i).map (fun cs => (setT cs).1)))) ∧ Hid ((l.take i).all (fun cs => (setT cs).2) = true)) (fun _ j _ => n - (intOf j).toNat)
  case atStart => exact ⟨0, none, 0, by omega, rfl, rfl, Below.refl _ _, World.ownsRow_nil _ _ _ _, rfl⟩
  case round =>
    obtain ⟨i, ao, cv, hin, rfl, rfl, HB, HO, HA⟩ := hrel
    by_cases hlt : i < n
    · have hlt' : (i : Int) < (n : Int) := by omega
      have i1 : i < l.length := by rw [HN.out]; exact hlt
      obtain ⟨a', k', hv', h0 | ⟨b, o, rfl, hbl, hrow⟩⟩ := HV.out.below HB.out
      · exfalso
        rw [h0] at i1
        simp at i1
      · cases hv'
        obtain ⟨u, d0, hcs⟩ := hrow i i1
        have sc := HSC.out l[i] (List.getElem_mem i1)
        have h1 := all_takeE (f := fun cs => (setT cs).2) l i i1 HA.out
        have h3 : l.all (fun cs => (setT cs).2) = true → (setT l[i]).2 = true := fun h => List.all_eq_true.1 h _ (List.getElem_mem i1)
        have h4 : (l.take (i + 1)).map (fun cs => (setT cs).1) = (l.take i).map (fun cs => (setT cs).1) ++ [(setT l[i]).1] := by rw [List.take_succ_eq_append_getElem i1, List.map_append]; rfl
        have FS := hide (formatSet_any l[i] u wr hcs sc.2 sc.1)
        obtain ⟨au, ku, rfl, hzz⟩ := id hcs
        clear hzz
        have H1 := hide h1
        have H3 := hide h3
        have H4 := hide h4
        clear h1 h3 h4 hrow hcs sc
        try dsimp only at H1
        generalize setT l[i] = st at *
        generalize l[i].length = m at *
        clear i1
        obtain ⟨T, ok⟩ := st
        dsimp only at *
        go_wp2_with fail
        refine FS.out.mono ?_
        rintro e W3 ⟨rfl, b3⟩
        have HB2 := hide (HB.out.trans (b3.mono HB.out.size))
        have HO2 := hide (own_belowT HO.out b3)
        clear b3 HB HO FS d0
        cases ok with
        | false =>
          have hX : X = [] := by
            rw [HX.out, if_neg]
            intro h
            exact absurd (H3.out h) (by simp)
          have HX3 := hide hX
          clear hX
          go_wp2_with fail
          go_ret
          exact ⟨by rw [HX3.out]; rfl, HB2.out⟩
        | true =>
          have hbase : w.heap.size ≤ W3.heap.size := HB2.out.size
          go_wp2_with (at_builtin; refine wpList_append_own _ rfl _ _ 31 rfl w.heap.size 9 i0 (.string .empty) 1 16 Tryz.underlying31 hi hz0 hz1 hz2 rfl (by decide) _ _ _ rfl (HO2.out.alloc _) ⟨W3.heap.size, 0, none⟩ 1 1 [.string (ofL T)] rfl rfl (by intro j u hj; match j, hj with | 0, hj => simp at hj; subst hj; simp [Addr.add]) (by intro u hu; simp at hu; subst hu; rfl) (by unfold maxLen; omega) (by omega) (by simp; omega) ?_; intro v' w5 hown' hgrow _; obtain ⟨g', cap', rfl⟩ := ownsRow_succ hown')
          have HO3 : Hid (w5.ownsRow w.heap.size 9 1 (.slice (some ⟨g', 0, none⟩) (i + 1) cap') (i + 1) (txsN ((l.take (i + 1)).map (fun cs => (setT cs).1)))) := by
            show World.ownsRow _ _ _ _ _ _ _
            rw [H4.out, txsN_snoc]
            exact hown'
          have HB3 := hide (((HB2.out.alloc HB2.out.size _).grown hgrow (by simp; omega) (fun k hk => (HO2.out.lt k hk).1)))
          clear hown' hgrow
          go_wp2_with fail
          go_roundw
          case rel => exact ⟨i + 1, _, cap', by omega, rfl, by go_num, HB3, HO3, by show _ = _; rw [H1.out]⟩
          case measure => simp [intOf]; omega
    · have hlt' : ¬ (i : Int) < (n : Int) := by omega
      have hin2 : i = n := by omega
      have hA := HA.out
      have hO := HO.out
      rw [List.take_of_length_le (by rw [HN.out]; omega)] at hA hO
      have hX : X = Lib.join (l.map (fun cs => (setT cs).1)) [32, 124, 124, 32] := by rw [HX.out, if_pos hA]
      have HX3 := hide hX
      have JN := hide (fun W hW hc => JoinS_any ⟨#[32, 124, 124, 32]⟩ (.slice ao i cv) (l.map (fun cs => (setT cs).1)) W hW hc (by rw [List.length_map, HN.out]; omega) HJ.out)
      have HT := hide (txt_rowN (by rw [List.length_map, HN.out]; omega) hO)
      have HCP := hide (cap_row hO)
      clear hX hA hO hin2
      go_wp2_with fail
      refine (JN.out _ HT.out HCP.out).mono ?_
      rintro e W9 ⟨rfl, b9⟩
      go_wp2_with fail
      go_ret
      exact ⟨by rw [HX3.out]; rfl, HB.out.trans (b9.mono HB.out.size)⟩

end Go.Proofs.YtpdlgiioahjhiaaGreat

namespace Go.Proofs.YtpdlgiioahjhiaaGreat
open Go.RowKit Go.Shelf
set_option linter.unusedVariables false

def exs8 : List (List UInt8 × List UInt8) := [([94, 49, 46, 50, 46, 51], [62, 61, 49, 46, 50, 46, 51, 32, 60, 50, 46, 48, 46, 48, 45, 48]), ([94, 48, 46, 50, 46, 51], [62, 61, 48, 46, 50, 46, 51, 32, 60, 48, 46, 51, 46, 48, 45, 48]), ([94, 48, 46, 48, 46, 51], [62, 61, 48, 46, 48, 46, 51, 32, 60, 48, 46, 48, 46, 52, 45, 48]), ([126, 49, 46, 50], [62, 61, 49, 46, 50, 46, 48, 32, 60, 49, 46, 51, 46, 48, 45, 48]), ([49, 46, 50, 46, 51, 32, 45, 32, 50, 46, 51], [62, 61, 49, 46, 50, 46, 51, 32, 60, 50, 46, 52, 46, 48, 45, 48]), ([62, 49, 46, 50], [62, 61, 49, 46, 51, 46, 48]), ([60, 61, 50], [60, 51, 46, 48, 46, 48, 45, 48]), ([], [42]), ([62, 42], [60, 48, 46, 48, 46, 48, 45, 48]), ([124, 124], [42, 32, 124, 124, 32, 42])]
def exCells8 : Array Value := #[.string ⟨#[94, 49, 46, 50, 46, 51]⟩, .string ⟨#[62, 61, 49, 46, 50, 46, 51, 32, 60, 50, 46, 48, 46, 48, 45, 48]⟩, .string ⟨#[94, 48, 46, 50, 46, 51]⟩, .string ⟨#[62, 61, 48, 46, 50, 46, 51, 32, 60, 48, 46, 51, 46, 48, 45, 48]⟩, .string ⟨#[94, 48, 46, 48, 46, 51]⟩, .string ⟨#[62, 61, 48, 46, 48, 46, 51, 32, 60, 48, 46, 48, 46, 52, 45, 48]⟩, .string ⟨#[126, 49, 46, 50]⟩, .string ⟨#[62, 61, 49, 46, 50, 46, 48, 32, 60, 49, 46, 51, 46, 48, 45, 48]⟩, .string ⟨#[49, 46, 50, 46, 51, 32, 45, 32, 50, 46, 51]⟩, .string ⟨#[62, 61, 49, 46, 50, 46, 51, 32, 60, 50, 46, 52, 46, 48, 45, 48]⟩, .string ⟨#[62, 49, 46, 50]⟩, .string ⟨#[62, 61, 49, 46, 51, 46, 48]⟩, .string ⟨#[60, 61, 50]⟩, .string ⟨#[60, 51, 46, 48, 46, 48, 45, 48]⟩, .string ⟨#[]⟩, .string ⟨#[42]⟩, .string ⟨#[62, 42]⟩, .string ⟨#[60, 48, 46, 48, 46, 48, 45, 48]⟩, .string ⟨#[124, 124]⟩, .string ⟨#[42, 32, 124, 124, 32, 42]⟩]
theorem ex_cell8 (k : Nat) (h : k < 10) : exCells8[k * 2]? = some (.string (ofL (exs8.getD k ([], [])).1)) ∧ exCells8[k * 2 + 1]? = some (.string (ofL (exs8.getD k ([], [])).2)) := by
  match k, h with
  | 0, _ => exact ⟨rfl, rfl⟩
  | 1, _ => exact ⟨rfl, rfl⟩
  | 2, _ => exact ⟨rfl, rfl⟩
  | 3, _ => exact ⟨rfl, rfl⟩
  | 4, _ => exact ⟨rfl, rfl⟩
  | 5, _ => exact ⟨rfl, rfl⟩
  | 6, _ => exact ⟨rfl, rfl⟩
  | 7, _ => exact ⟨rfl, rfl⟩
  | 8, _ => exact ⟨rfl, rfl⟩
  | 9, _ => exact ⟨rfl, rfl⟩
def fitB8 (l : List (List Comp)) : Bool := Nat.ble l.length 2000000 && l.all (fun cs => Nat.ble cs.length 2000000 && cs.all (fun c => Nat.ble (lenS c.2) 1048576)) && Nat.ble (Lib.join (l.map (fun cs => (setT cs).1)) [32, 124, 124, 32]).length 140737488355328
theorem FormatB_any (l : List (List Comp)) (v : Value) (w : World) (hv : SetsAt w v l) (h : fitB8 l = true) : Calls Tryz.prog 13 #[v] w fun e w' => e = .returned (.string (ofL (fmtSets l))) ∧ Below w.heap.size w w' := by
  unfold fitB8 at h
  simp only [Bool.and_eq_true, List.all_eq_true, Nat.ble_eq] at h
  exact FormatR_any l v w hv (fun cs hc => h.1.2 cs hc) h.1.1 h.2
theorem ex_parse8 (k : Nat) (h : k < 10) : (nParse (exs8.getD k ([], [])).1).1 = 0 ∧ fmtSets (nParse (exs8.getD k ([], [])).1).2.2 = (exs8.getD k ([], [])).2 ∧ fitB8 (nParse (exs8.getD k ([], [])).1).2.2 = true := by
  match k, h with
  | 0, _ => exact ⟨by kernel_rfl, by kernel_rfl, by kernel_rfl⟩
  | 1, _ => exact ⟨by kernel_rfl, by kernel_rfl, by kernel_rfl⟩
  | 2, _ => exact ⟨by kernel_rfl, by kernel_rfl, by kernel_rfl⟩
  | 3, _ => exact ⟨by kernel_rfl, by kernel_rfl, by kernel_rfl⟩
  | 4, _ => exact ⟨by kernel_rfl, by kernel_rfl, by kernel_rfl⟩
  | 5, _ => exact ⟨by kernel_rfl, by kernel_rfl, by kernel_rfl⟩
  | 6, _ => exact ⟨by kernel_rfl, by kernel_rfl, by kernel_rfl⟩
  | 7, _ => exact ⟨by kernel_rfl, by kernel_rfl, by kernel_rfl⟩
  | 8, _ => exact ⟨by kernel_rfl, by kernel_rfl, by kernel_rfl⟩
  | 9, _ => exact ⟨by kernel_rfl, by kernel_rfl, by kernel_rfl⟩
theorem ex_bad8 : ((nParse [49, 46, 50, 32, 46, 51]).1, (nParse [49, 46, 50, 32, 46, 51]).2.1) = (10, 4) := by kernel_rfl
theorem ex_bad9 : ((nParse [94]).1, (nParse [94]).2.1) = (11, 1) := by kernel_rfl
theorem ex_take8 : takesL (nParse [94, 49, 46, 50, 46, 51, 45, 98, 101, 116, 97, 46, 50]).2.2 [49, 46, 50, 46, 51, 45, 98, 101, 116, 97, 46, 52] = true := by kernel_rfl
theorem ex_take9 : takesL (nParse [94, 49, 46, 50, 46, 51, 45, 98, 101, 116, 97, 46, 50]).2.2 [49, 46, 51, 46, 48, 45, 98, 101, 116, 97] = false := by kernel_rfl

set_option maxRecDepth 100000 in
set_option maxHeartbeats 4000000 in
theorem awake8_any (w : World) : Calls Tryz.prog 12 #[] w fun e w' => e = .returned (.bool true) ∧ Below w.heap.size w w' := by
  go_enter Tryz.func12, Tryz.ntmps12
  go_wp2_with fail
  have eL : (w.alloc (.cells exCells8 65)).heap[w.heap.size]? = some (.cells exCells8 65) := World.alloc_heap_new w _
  have bL : Below w.heap.size w (w.alloc (.cells exCells8 65)) := (Below.refl _ w).alloc (Nat.le_refl _) _
  generalize hW0 : w.alloc (.cells #[.string ⟨#[94, 49, 46, 50, 46, 51]⟩, .string ⟨#[62, 61, 49, 46, 50, 46, 51, 32, 60, 50, 46, 48, 46, 48, 45, 48]⟩, .string ⟨#[94, 48, 46, 50, 46, 51]⟩, .string ⟨#[62, 61, 48, 46, 50, 46, 51, 32, 60, 48, 46, 51, 46, 48, 45, 48]⟩, .string ⟨#[94, 48, 46, 48, 46, 51]⟩, .string ⟨#[62, 61, 48, 46, 48, 46, 51, 32, 60, 48, 46, 48, 46, 52, 45, 48]⟩, .string ⟨#[126, 49, 46, 50]⟩, .string ⟨#[62, 61, 49, 46, 50, 46, 48, 32, 60, 49, 46, 51, 46, 48, 45, 48]⟩, .string ⟨#[49, 46, 50, 46, 51, 32, 45, 32, 50, 46, 51]⟩, .string ⟨#[62, 61, 49, 46, 50, 46, 51, 32, 60, 50, 46, 52, 46, 48, 45, 48]⟩, .string ⟨#[62, 49, 46, 50]⟩, .string ⟨#[62, 61, 49, 46, 51, 46, 48]⟩, .string ⟨#[60, 61, 50]⟩, .string ⟨#[60, 51, 46, 48, 46, 48, 45, 48]⟩, .string ⟨#[]⟩, .string ⟨#[42]⟩, .string ⟨#[62, 42]⟩, .string ⟨#[60, 48, 46, 48, 46, 48, 45, 48]⟩, .string ⟨#[124, 124]⟩, .string ⟨#[42, 32, 124, 124, 32, 42]⟩] 65) = W0 at *
  rw [show w.alloc (.cells exCells8 65) = W0 from hW0] at eL bL
  clear hW0
  have EL := hide eL
  have BL := hide bL
  clear eL bL
  go_loopw [21] (fun i wr => ∃ k : Nat, k ≤ 10 ∧ i = .int .i64 k ∧ Hid (wr.heap[w.heap.size]? = some (.cells exCells8 65)) ∧ Below w.heap.size w wr) (fun i _ => 10 - (intOf i).toNat)
  case atStart => exact ⟨0, by omega, rfl, EL, BL.out⟩
  case round =>
    obtain ⟨k, h10, rfl, HL, hb⟩ := hrel
    by_cases hlt : k < 10
    · have c0 := cell_at (k * 2) HL.out (ex_cell8 k hlt).1
      have c1 := cell_at (k * 2 + 1) HL.out (ex_cell8 k hlt).2
      have C := hide (fun W => NParse_any (ofL (exs8.getD k ([], [])).1) W)
      obtain ⟨x0, x1, x2⟩ := ex_parse8 k hlt
      have hk : ((k : Int) < 10) := by omega
      have hk0 : ((0 : Int) ≤ (k : Int)) := by omega
      rw [ofL_data] at C
      generalize (exs8.getD k ([], [])).1 = ea at *
      generalize (exs8.getD k ([], [])).2 = eb at *
      unfold NPost at C
      generalize nParse ea = R at *
      obtain ⟨re, ra, l⟩ := R
      dsimp only at *
      subst x0
      have FB := hide (fun v W hv => FormatB_any l v W hv x2)
      rw [x1] at FB
      have HB := hide hb
      clear x1 x2 hb
      go_wp2_with fail
      have nP := World.alloc_heap_new wr (.cells #[.string (ofL ea), .string (ofL eb)] 65)
      refine (C.out _).mono ?_
      rintro e w1 ⟨v1, rfl, hS, b1⟩
      obtain ⟨a1, k1, rfl, _⟩ := id hS
      have nP1 : w1.heap[wr.heap.size]? = some (.cells #[.string (ofL ea), .string (ofL eb)] 65 (0, 0)) := (b1.block _ (by simp)).trans nP
      have bw1 : Below wr.heap.size wr w1 := ((Below.refl _ wr).alloc (Nat.le_refl _) _).trans (b1.mono (by simp))
      have bA : Below w1.heap.size w1 (w1.alloc (.cells #[.int .i64 0, .int .i64 ra] 25)) := (Below.refl _ w1).alloc (Nat.le_refl _) _
      have nF := World.alloc_heap_new w1 (.cells #[.int .i64 0, .int .i64 ra] 25)
      have nP2 := (bA.block _ (Array.getElem?_eq_some_iff.1 nP1).1).trans nP1
      have S2 := hide (hS.below (bA.trans (drew_below _ _)))
      have HW1 := hide bw1
      have HBA := hide bA
      have r0 : (w1.alloc (.cells #[.int .i64 0, .int .i64 ra] 25)).cell? ⟨w1.heap.size, 0, none⟩ = some (.int .i64 0) := cell_at 0 nF rfl
      have r1 : (w1.alloc (.cells #[.int .i64 0, .int .i64 ra] 25)).cell? ⟨wr.heap.size, 1, none⟩ = some (.string (ofL eb)) := cell_at 1 nP2 rfl
      have NF := hide nF
      have NP := hide nP2
      clear nP nP1 b1 bw1 bA nF nP2 hS c0 c1
      dsimp only
      go_wp2_with fail
      generalize w1.alloc (.cells #[.int .i64 0, .int .i64 ra] 25) = W2 at *
      go_region_held3 (fun W' => W'.cell? ⟨w1.heap.size, 0, none⟩ = some (.int .i64 0) ∧ W'.cell? ⟨wr.heap.size, 1, none⟩ = some (.string (ofL eb))) (go_keep) ((first
        | (go_at_call 13; refine (FB.out _ _ S2.out).mono ?_; rintro e9 w3 ⟨rfl, b3⟩; have k0 : w3.cell? ⟨w1.heap.size, 0, none⟩ = some (.int .i64 0) := cell_at 0 ((b3.block _ (Array.getElem?_eq_some_iff.1 NF.out).1).trans NF.out) rfl; have k1 : w3.cell? ⟨wr.heap.size, 1, none⟩ = some (.string (ofL eb)) := cell_at 1 ((b3.block _ (Array.getElem?_eq_some_iff.1 NP.out).1).trans NP.out) rfl; have B3 := hide b3; clear b3)
        | fail))
      have bF : Below wr.heap.size wr w3 := ((HW1.out.trans (HBA.out.mono HW1.out.size)).trans (drew_below _ _)).trans (B3.out.mono (Nat.le_trans HW1.out.size HBA.out.size))
      have hbF : Below w.heap.size w w3 := HB.out.trans (bF.mono HB.out.size)
      have hL3 : w3.heap[w.heap.size]? = some (.cells exCells8 65) := (bF.block _ (Array.getElem?_eq_some_iff.1 HL.out).1).trans HL.out
      have HL3 := hide hL3
      have HF := hide hbF
      clear hL3 hbF bF HL B3 HBA HW1 NF NP S2 HB FB C k0 k1
      go_wp2_with fail
      go_roundw
      case rel => exact ⟨k + 1, by omega, by go_num, HL3, HF.out⟩
      case measure => simp [intOf]; omega
    · obtain rfl : k = 10 := by omega
      have P1 := hide (fun W => NParse_any ⟨#[49, 46, 50, 32, 46, 51]⟩ W)
      have P2 := hide (fun W => NParse_any ⟨#[94]⟩ W)
      unfold NPost at P1 P2
      rw [show (ByteArray.mk #[49, 46, 50, 32, 46, 51]).data.toList = [49, 46, 50, 32, 46, 51] from rfl] at P1
      rw [show (ByteArray.mk #[94]).data.toList = [94] from rfl] at P2
      have y1 := ex_bad8
      have y2 := ex_bad9
      simp only [Prod.mk.injEq] at y1 y2
      rw [y1.1, y1.2] at P1
      rw [y2.1, y2.2] at P2
      have M1 := hide (fun W => MatchR_any ⟨#[94, 49, 46, 50, 46, 51, 45, 98, 101, 116, 97, 46, 50]⟩ ⟨#[49, 46, 50, 46, 51, 45, 98, 101, 116, 97, 46, 52]⟩ W)
      rw [show takesL (nParse (ByteArray.mk #[94, 49, 46, 50, 46, 51, 45, 98, 101, 116, 97, 46, 50]).data.toList).2.2 (ByteArray.mk #[49, 46, 50, 46, 51, 45, 98, 101, 116, 97, 46, 52]).data.toList = true from ex_take8] at M1
      have M2 := hide (fun W => MatchR_any ⟨#[94, 49, 46, 50, 46, 51, 45, 98, 101, 116, 97, 46, 50]⟩ ⟨#[49, 46, 51, 46, 48, 45, 98, 101, 116, 97]⟩ W)
      rw [show takesL (nParse (ByteArray.mk #[94, 49, 46, 50, 46, 51, 45, 98, 101, 116, 97, 46, 50]).data.toList).2.2 (ByteArray.mk #[49, 46, 51, 46, 48, 45, 98, 101, 116, 97]).data.toList = false from ex_take9] at M2
      have HB := hide hb
      clear y1 y2 hb HL hlt h10
      generalize (nParse [49, 46, 50, 32, 46, 51]).2.2 = l1 at *
      generalize (nParse [94]).2.2 = l2 at *
      go_wp2_with fail
      refine (P1.out _).mono ?_
      rintro e w1 ⟨v1, rfl, hS1, b1⟩
      obtain ⟨a1, k1, rfl, _⟩ := id hS1
      clear hS1
      have n1 := World.alloc_heap_new w1 (.cells #[.int .i64 10, .int .i64 4] 25)
      have bA1 : Below wr.heap.size wr (w1.alloc (.cells #[.int .i64 10, .int .i64 4] 25)) := b1.alloc b1.size _
      have hl1 : w1.heap.size < (w1.alloc (.cells #[.int .i64 10, .int .i64 4] 25)).heap.size := by simp
      have N1 := hide n1
      have BA1 := hide bA1
      clear n1 bA1 b1
      dsimp only
      go_wp2_with fail
      generalize w1.alloc (.cells #[.int .i64 10, .int .i64 4] 25) = W2 at *
      generalize w1.heap.size = X1 at *
      refine (P2.out _).mono ?_
      rintro e w3 ⟨v3, rfl, hS3, b3⟩
      obtain ⟨a3, k3, rfl, _⟩ := id hS3
      clear hS3
      have n3 : (w3.alloc (.cells #[.int .i64 11, .int .i64 1] 25)).heap[w3.heap.size]? = some (.cells #[.int .i64 11, .int .i64 1] 25 (0, 0)) := World.alloc_heap_new w3 _
      have m1 : (w3.alloc (.cells #[.int .i64 11, .int .i64 1] 25)).heap[X1]? = some (.cells #[.int .i64 10, .int .i64 4] 25 (0, 0)) := (Below.heap_alloc _ _ _ (Nat.lt_of_lt_of_le hl1 b3.size)).trans ((b3.block _ hl1).trans N1.out)
      have bA3 : Below wr.heap.size wr (w3.alloc (.cells #[.int .i64 11, .int .i64 1] 25)) := (BA1.out.trans (b3.mono BA1.out.size)).alloc (Nat.le_trans BA1.out.size b3.size) _
      have d0 : (w3.alloc (.cells #[.int .i64 11, .int .i64 1] 25)).cell? ⟨w3.heap.size, 0, none⟩ = some (.int .i64 11) := cell_at 0 n3 rfl
      have d1 : (w3.alloc (.cells #[.int .i64 11, .int .i64 1] 25)).cell? ⟨w3.heap.size, 1, none⟩ = some (.int .i64 1) := cell_at 1 n3 rfl
      have d2 : (w3.alloc (.cells #[.int .i64 11, .int .i64 1] 25)).cell? ⟨X1, 0, none⟩ = some (.int .i64 10) := cell_at 0 m1 rfl
      have d3 : (w3.alloc (.cells #[.int .i64 11, .int .i64 1] 25)).cell? ⟨X1, 1, none⟩ = some (.int .i64 4) := cell_at 1 m1 rfl
      have BA3 := hide bA3
      clear n3 m1 bA3 b3
      dsimp only
      go_wp2_with fail
      generalize w3.alloc (.cells #[.int .i64 11, .int .i64 1] 25) = W4 at *
      clear d0 d1 d2 d3
      refine (M1.out _).mono ?_
      rintro e w5 ⟨rfl, b5⟩
      go_wp2_with fail
      refine (M2.out _).mono ?_
      rintro e w6 ⟨rfl, b6⟩
      go_wp2_with fail
      go_ret
      have bF := (BA3.out.trans (b5.mono BA3.out.size)).trans (b6.mono (Nat.le_trans BA3.out.size b5.size))
      exact ⟨rfl, HB.out.trans (bF.mono HB.out.size)⟩

end Go.Proofs.YtpdlgiioahjhiaaGreat

namespace Go.Proofs.YtpdlgiioahjhiaaGreat
open Go.RowKit Go.Shelf
set_option linter.unusedVariables false

structure SB (w : World) (x y : SemL) (a1 a2 a3 a4 : Option Addr) (c1 c2 c3 c4 : Nat) (W : World) : Prop where
  below : Below w.heap.size w W
  b0 : W.heap[w.heap.size]? = some (.cells #[.string (ofL x.maj), .string (ofL x.min), .string (ofL x.pat), .slice a1 x.pre.length c1, .slice a3 x.bld.length c3] 33 (0, 0))
  b1 : W.heap[w.heap.size + 1]? = some (.cells #[.string (ofL y.maj), .string (ofL y.min), .string (ofL y.pat), .slice a2 y.pre.length c2, .slice a4 y.bld.length c4] 33 (0, 0))
section
variable {w : World} {x y : SemL} {a1 a2 a3 a4 : Option Addr} {c1 c2 c3 c4 : Nat} {W W' : World}
theorem SB.next (h : SB w x y a1 a2 a3 a4 c1 c2 c3 c4 W) (hb : Below W.heap.size W W') : SB w x y a1 a2 a3 a4 c1 c2 c3 c4 W' :=
  ⟨h.below.trans (hb.mono h.below.size), (hb.block _ (Array.getElem?_eq_some_iff.1 h.b0).1).trans h.b0, (hb.block _ (Array.getElem?_eq_some_iff.1 h.b1).1).trans h.b1⟩
theorem SB.start (w : World) (x y : SemL) (a1 a2 a3 a4 : Option Addr) (c1 c2 c3 c4 : Nat) : SB w x y a1 a2 a3 a4 c1 c2 c3 c4 ((w.alloc (.cells #[.string (ofL x.maj), .string (ofL x.min), .string (ofL x.pat), .slice a1 x.pre.length c1, .slice a3 x.bld.length c3] 33)).alloc (.cells #[.string (ofL y.maj), .string (ofL y.min), .string (ofL y.pat), .slice a2 y.pre.length c2, .slice a4 y.bld.length c4] 33)) := by
  have k0 := World.alloc_heap_new w (.cells #[.string (ofL x.maj), .string (ofL x.min), .string (ofL x.pat), .slice a1 x.pre.length c1, .slice a3 x.bld.length c3] 33)
  have k1 := World.alloc_heap_new (w.alloc (.cells #[.string (ofL x.maj), .string (ofL x.min), .string (ofL x.pat), .slice a1 x.pre.length c1, .slice a3 x.bld.length c3] 33)) (.cells #[.string (ofL y.maj), .string (ofL y.min), .string (ofL y.pat), .slice a2 y.pre.length c2, .slice a4 y.bld.length c4] 33)
  simp only [World.size_alloc] at k1
  exact ⟨((Below.refl _ w).alloc (Nat.le_refl _) _).alloc (by simp) _, (Below.heap_alloc _ _ _ (by simp)).trans k0, k1⟩
end
end Go.Proofs.YtpdlgiioahjhiaaGreat

namespace Go.Proofs.YtpdlgiioahjhiaaGreat
open Go.ChangeShapes Go.WideShapes Go.ChangeAt Go.RowKit
set_option linter.unusedVariables false

instance : Inhabited Comp := ⟨(0, semN)⟩

end Go.Proofs.YtpdlgiioahjhiaaGreat

namespace Go.Proofs.YtpdlgiioahjhiaaGreat
open Go.RowKit Go.Shelf
set_option linter.unusedVariables false
variable {A : Nat → Prop}

theorem fin154 {R : Ending → World → Prop} (tmps : Array Value) (W : World) (B : Nat) (x y z : ByteArray) (p q : Value) (hp : ∃ a n c, p = .slice a n c) (hq : ∃ a n c, q = .slice a n c)
    (h2 : tmps.getD 8 undef = .pointer (some ⟨B, 0, none⟩)) (e1 : W.heap[B]? = some (.cells #[.string x, .string y, .string z, p, q] 33 (0, 0)))
    (hR : R (.returned (.agg #[.string x, .string y, .string z, p, q])) W) : bodyPost Tryz.prog Tryz.f154 R .ret { tmps := tmps, defers := [] } W := by
  obtain ⟨pa, pn, pc, rfl⟩ := hp
  obtain ⟨qa, qn, qc, rfl⟩ := hq
  have r0 := cell_at 0 e1 rfl
  have r1 := cell_at 1 e1 rfl
  have r2 := cell_at 2 e1 rfl
  have r3 := cell_at 3 e1 rfl
  have r4 := cell_at 4 e1 rfl
  rw [Array.getD_eq_getD_getElem?] at h2
  refine ⟨rfl, _, ?_, hR⟩
  simp [results, Tryz.results154, go_sem, h2, r0, r1, r2, r3, r4]
  try rfl

def zN (a : List UInt8) : List UInt8 := if a = [] then [48] else a
theorem zN_emp {a : List UInt8} (h : (ofL a).toList.isEmpty = true) : zN a = [48] := by
  rw [toL, ofL_data, List.isEmpty_iff] at h
  exact if_pos h
theorem zN_ne {a : List UInt8} (h : (ofL a).toList.isEmpty = false) : zN a = a := by
  rw [toL, ofL_data] at h
  refine if_neg (fun e => ?_)
  rw [e] at h
  cases h
set_option maxRecDepth 100000 in
set_option maxHeartbeats 4000000 in
theorem rsem_any (a b c : List UInt8) (x : Option Addr) (n k : Nat) (w : World) :
    Calls Tryz.prog 154 #[.string (ofL a), .string (ofL b), .string (ofL c), .slice x n k] w fun e w' => e = .returned (.agg #[.string (ofL (zN a)), .string (ofL (zN b)), .string (ofL (zN c)), .slice x n k, .slice none 0 0]) ∧ Below w.heap.size w w' := by
  cases ha : (ofL a).toList.isEmpty
  case false =>
    cases hb : (ofL b).toList.isEmpty
    case false =>
      cases hc : (ofL c).toList.isEmpty
      case false =>
        have ea : zN a = a := zN_ne ha
        have eb : zN b = b := zN_ne hb
        have ec : zN c = c := zN_ne hc
        rw [ea, eb, ec]
        clear ea eb ec
        go_enter Tryz.func154, Tryz.ntmps154
        go_wp2_with fail
        exact fin154 _ _ w.heap.size _ _ _ _ _ ⟨_, _, _, rfl⟩ ⟨_, _, _, rfl⟩ rfl (heap_b0 w _ _) ⟨rfl, below_a2 w _ _⟩
      case true =>
        have ea : zN a = a := zN_ne ha
        have eb : zN b = b := zN_ne hb
        have ec : zN c = [48] := zN_emp hc
        rw [ea, eb, ec]
        clear ea eb ec
        go_enter Tryz.func154, Tryz.ntmps154
        go_wp2_with fail
        exact fin154 _ _ w.heap.size _ _ _ _ _ ⟨_, _, _, rfl⟩ ⟨_, _, _, rfl⟩ rfl (heap_b0 w _ _) ⟨rfl, below_a2 w _ _⟩
    case true =>
      cases hc : (ofL c).toList.isEmpty
      case false =>
        have ea : zN a = a := zN_ne ha
        have eb : zN b = [48] := zN_emp hb
        have ec : zN c = c := zN_ne hc
        rw [ea, eb, ec]
        clear ea eb ec
        go_enter Tryz.func154, Tryz.ntmps154
        go_wp2_with fail
        exact fin154 _ _ w.heap.size _ _ _ _ _ ⟨_, _, _, rfl⟩ ⟨_, _, _, rfl⟩ rfl (heap_b0 w _ _) ⟨rfl, below_a2 w _ _⟩
      case true =>
        have ea : zN a = a := zN_ne ha
        have eb : zN b = [48] := zN_emp hb
        have ec : zN c = [48] := zN_emp hc
        rw [ea, eb, ec]
        clear ea eb ec
        go_enter Tryz.func154, Tryz.ntmps154
        go_wp2_with fail
        exact fin154 _ _ w.heap.size _ _ _ _ _ ⟨_, _, _, rfl⟩ ⟨_, _, _, rfl⟩ rfl (heap_b0 w _ _) ⟨rfl, below_a2 w _ _⟩
  case true =>
    cases hb : (ofL b).toList.isEmpty
    case false =>
      cases hc : (ofL c).toList.isEmpty
      case false =>
        have ea : zN a = [48] := zN_emp ha
        have eb : zN b = b := zN_ne hb
        have ec : zN c = c := zN_ne hc
        rw [ea, eb, ec]
        clear ea eb ec
        go_enter Tryz.func154, Tryz.ntmps154
        go_wp2_with fail
        exact fin154 _ _ w.heap.size _ _ _ _ _ ⟨_, _, _, rfl⟩ ⟨_, _, _, rfl⟩ rfl (heap_b0 w _ _) ⟨rfl, below_a2 w _ _⟩
      case true =>
        have ea : zN a = [48] := zN_emp ha
        have eb : zN b = b := zN_ne hb
        have ec : zN c = [48] := zN_emp hc
        rw [ea, eb, ec]
        clear ea eb ec
        go_enter Tryz.func154, Tryz.ntmps154
        go_wp2_with fail
        exact fin154 _ _ w.heap.size _ _ _ _ _ ⟨_, _, _, rfl⟩ ⟨_, _, _, rfl⟩ rfl (heap_b0 w _ _) ⟨rfl, below_a2 w _ _⟩
    case true =>
      cases hc : (ofL c).toList.isEmpty
      case false =>
        have ea : zN a = [48] := zN_emp ha
        have eb : zN b = [48] := zN_emp hb
        have ec : zN c = c := zN_ne hc
        rw [ea, eb, ec]
        clear ea eb ec
        go_enter Tryz.func154, Tryz.ntmps154
        go_wp2_with fail
        exact fin154 _ _ w.heap.size _ _ _ _ _ ⟨_, _, _, rfl⟩ ⟨_, _, _, rfl⟩ rfl (heap_b0 w _ _) ⟨rfl, below_a2 w _ _⟩
      case true =>
        have ea : zN a = [48] := zN_emp ha
        have eb : zN b = [48] := zN_emp hb
        have ec : zN c = [48] := zN_emp hc
        rw [ea, eb, ec]
        clear ea eb ec
        go_enter Tryz.func154, Tryz.ntmps154
        go_wp2_with fail
        exact fin154 _ _ w.heap.size _ _ _ _ _ ⟨_, _, _, rfl⟩ ⟨_, _, _, rfl⟩ rfl (heap_b0 w _ _) ⟨rfl, below_a2 w _ _⟩

theorem rzero_any (w : World) : Calls Tryz.prog 137 #[] w fun e w' => e = .returned (.slice (some ⟨w.heap.size, 0, none⟩) 1 1) ∧ w' = w.alloc (.cells #[.string ⟨#[48]⟩] 9) := by
  go_enter Tryz.func137, Tryz.ntmps137
  go_wp2_with fail
  go_ret
  exact ⟨rfl, rfl⟩

set_option maxRecDepth 100000 in
theorem rcomp_any (op : Int) (v : Value) (x : SemL) (w : World) (hv : SemV A w v x) :
    Calls Tryz.prog 131 #[.int .i64 op, v] w (CompsP A w [(op, x)]) := by
  obtain ⟨vp, vb, rfl, t1, t2, c1, c2⟩ := hv
  obtain ⟨a1, k1, rfl, x1⟩ := id t1
  obtain ⟨a2, k2, rfl, x2⟩ := id t2
  have T1 := hide t1
  have T2 := hide t2
  clear t1 t2 x1 x2
  go_enter Tryz.func131, Tryz.ntmps131
  go_wp2_with fail
  go_ret
  have b1 : Below w.heap.size w (w.alloc (.cells #[.string (ofL x.maj), .string (ofL x.min), .string (ofL x.pat), .slice a1 x.pre.length k1, .slice a2 x.bld.length k2] 33)) := (Below.refl _ w).alloc (Nat.le_refl _) _
  refine ⟨b1.alloc b1.size _, .inr ⟨w.heap.size + 1, [.int .i64 op, .string (ofL x.maj), .string (ofL x.min), .string (ofL x.pat), .slice a1 x.pre.length k1, .slice a2 x.bld.length k2], rfl, by omega, ?_, ?_⟩⟩
  · have := World.alloc_heap_new (w.alloc (.cells #[.string (ofL x.maj), .string (ofL x.min), .string (ofL x.pat), .slice a1 x.pre.length k1, .slice a2 x.bld.length k2] 33)) (.cells #[.int .i64 op, .string (ofL x.maj), .string (ofL x.min), .string (ofL x.pat), .slice a1 x.pre.length k1, .slice a2 x.bld.length k2] 35)
    rw [show (w.alloc (.cells #[.string (ofL x.maj), .string (ofL x.min), .string (ofL x.pat), .slice a1 x.pre.length k1, .slice a2 x.bld.length k2] 33)).heap.size = w.heap.size + 1 by simp] at this
    exact this
  · exact ⟨_, [], by rw [List.append_nil], ⟨_, _, rfl, (T1.out.below b1).below ((Below.refl _ _).alloc (Nat.le_refl _) _), (T2.out.below b1).below ((Below.refl _ _).alloc (Nat.le_refl _) _), c1, c2⟩, rfl⟩

end Go.Proofs.YtpdlgiioahjhiaaGreat

namespace Go.Proofs.YtpdlgiioahjhiaaGreat
open Go.RowKit Go.Shelf
set_option linter.unusedVariables false

theorem fin132 {R : Ending → World → Prop} (tmps : Array Value) (W : World) (B : Nat) (x y z : ByteArray) (p q : Value) (hp : ∃ a n c, p = .slice a n c) (hq : ∃ a n c, q = .slice a n c)
    (h2 : tmps.getD 2 undef = .pointer (some ⟨B, 0, none⟩)) (e1 : W.heap[B]? = some (.cells #[.string x, .string y, .string z, p, q] 33 (0, 0)))
    (hR : R (.returned (.agg #[.string x, .string y, .string z, p, q])) W) : bodyPost Tryz.prog Tryz.f132 R .ret { tmps := tmps, defers := [] } W := by
  obtain ⟨pa, pn, pc, rfl⟩ := hp
  obtain ⟨qa, qn, qc, rfl⟩ := hq
  have r0 := cell_at 0 e1 rfl
  have r1 := cell_at 1 e1 rfl
  have r2 := cell_at 2 e1 rfl
  have r3 := cell_at 3 e1 rfl
  have r4 := cell_at 4 e1 rfl
  rw [Array.getD_eq_getD_getElem?] at h2
  refine ⟨rfl, _, ?_, hR⟩
  simp [results, Tryz.results132, go_sem, h2, r0, r1, r2, r3, r4]
  try rfl

set_option maxRecDepth 100000 in
set_option maxHeartbeats 2000000 in
theorem rbegin_any (a b c : List UInt8) (x : Option Addr) (n k : Nat) (N : Int) (w : World) :
    Calls Tryz.prog 132 #[.agg #[.string (ofL a), .string (ofL b), .string (ofL c), .slice x n k, .int .i64 N]] w fun e w' => e = .returned (.agg #[.string (ofL (zN a)), .string (ofL (zN b)), .string (ofL (zN c)), .slice x n k, .slice none 0 0]) ∧ Below w.heap.size w w' := by
  have SM := hide (fun W => rsem_any a b c x n k W)
  generalize zN a = za at *
  generalize zN b = zb at *
  generalize zN c = zc at *
  go_enter Tryz.func132, Tryz.ntmps132
  go_wp2_with fail
  refine (SM.out _).mono ?_
  rintro e w2 ⟨rfl, b2⟩
  have e0 := heap_b1 w (.cells #[.string (ofL a), .string (ofL b), .string (ofL c), .slice x n k, .int .i64 N] 123) (.cells #[.string ⟨#[]⟩, .string ⟨#[]⟩, .string ⟨#[]⟩, .slice none 0 0, .slice none 0 0] 33)
  have e1 := (b2.block _ (Array.getElem?_eq_some_iff.1 e0).1).trans e0
  have E1 := hide e1
  have B2 := hide ((below_a2 w _ _).trans (b2.mono (below_a2 w _ _).size))
  have g0 := one_free 0 e1
  have g1 := one_free 1 e1
  have g2 := one_free 2 e1
  have g3 := one_free 3 e1
  have g4 := one_free 4 e1
  have r0 := cell_at 0 e1 rfl
  have r1 := cell_at 1 e1 rfl
  have r2 := cell_at 2 e1 rfl
  have r3 := cell_at 3 e1 rfl
  have r4 := cell_at 4 e1 rfl
  clear e0 e1 b2
  go_wp2_with fail
  exact fin132 _ _ (w.heap.size + 1) _ _ _ _ _ ⟨_, _, _, rfl⟩ ⟨_, _, _, rfl⟩ rfl (put5 _ _ _ _ _ E1.out) ⟨rfl, below5 B2.out (by omega) _ _ _ _ _⟩

theorem rlast_any (a b c : List UInt8) (x : Option Addr) (n k : Nat) (N : Nat) (w : World) (hN : N ≤ 3) :
    Calls Tryz.prog 134 #[.agg #[.string (ofL a), .string (ofL b), .string (ofL c), .slice x n k, .int .i64 (N : Int)]] w fun e w' => e = .returned (.int .i64 ((N : Int) - 1)) ∧ Below w.heap.size w w' := by
  go_enter Tryz.func134, Tryz.ntmps134
  go_wp2_with fail
  go_ret
  exact ⟨by first | rfl | go_num, (Below.refl _ w).alloc (Nat.le_refl _) _⟩

end Go.Proofs.YtpdlgiioahjhiaaGreat
