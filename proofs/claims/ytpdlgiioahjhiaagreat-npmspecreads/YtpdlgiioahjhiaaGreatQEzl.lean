/-
  Walks: the latest of the texts that are wanted. · Walks: is a version in one of a range's sets? (Pick's closure) · Plain functions: what a range is read as; no program is named here. · Walks: Pick, Match, over what Parse leaves. · What Parse holds while it reads: the place, what is wrong, the set under way, the sets.
-/
import Derived.Test.YtpdlgiioahjhiaaGreatQRh
import Derived.Test.YtpdlgiioahjhiaaGreatQEj
import Derived.Test.YtpdlgiioahjhiaaGreatQEzc
namespace Go.Proofs.YtpdlgiioahjhiaaGreat
open Go.RowKit Go.Shelf
set_option linter.unusedVariables false

def takesL (l : List (List Comp)) (t : List UInt8) : Bool := l.any (fun cs => setL cs (semP t))
def latF (p : List UInt8 → Bool) (b : List UInt8 × Bool) (t : List UInt8) : List UInt8 × Bool := if (p t && (!b.2 || decide (0 < cmpT t b.1))) = true then (t, true) else b
def latestL (p : List UInt8 → Bool) (ts : List (List UInt8)) : List UInt8 × Bool := ts.foldl (latF p) ([], false)
theorem lat_take (p : List UInt8 → Bool) (ts : List (List UInt8)) (i : Nat) (h : i < ts.length) : (ts.take (i + 1)).foldl (latF p) ([], false) = latF p ((ts.take i).foldl (latF p) ([], false)) ts[i] := by
  rw [List.take_succ_eq_append_getElem h, List.foldl_append]
  rfl

set_option maxRecDepth 100000 in
set_option maxHeartbeats 4000000 in
theorem Latest_any (p : List UInt8 → Bool) (B : Nat) (ts : List (List UInt8)) (v : Value) (w : World) (hv : Txt w v ts) (hln : ts.length ≤ 9000000000000000000)
    (hp : ∀ (s : ByteArray) (W : World), Below w.heap.size w W → Calls Tryz.prog 38 #[.string s, .pointer (some ⟨B, 0, none⟩)] W fun e W' => e = .returned (.bool (p s.data.toList)) ∧ Below W.heap.size W W')
    (hc : ∀ (s t : ByteArray) (W : World), Calls Tryz.prog 42 #[.string s, .string t] W fun e W' => e = .returned (.int .i64 (cmpT s.data.toList t.data.toList)) ∧ Below W.heap.size W W') :
    Calls Tryz.prog 41 #[v, .func (.func 38) #[] #[.pointer (some ⟨B, 0, none⟩)], .func (.func 42) #[] #[]] w fun e w' => e = .returned (.tuple #[.string (ofL (latestL p ts).1), .bool (latestL p ts).2]) ∧ Below w.heap.size w w' := by
  obtain ⟨a, k, rfl, _⟩ := id hv
  obtain ⟨n, hn⟩ : ∃ n, ts.length = n := ⟨_, rfl⟩
  rw [hn] at hv hln ⊢
  have HN := hide hn
  have HV := hide hv
  have HP := hide hp
  have HC := hide hc
  clear hn hv hp hc
  go_enter Tryz.func41, Tryz.ntmps41
  go_wp2_with fail
  go_loopw [8, 9, 14] (fun x f j wr => ∃ (i : Nat) (S : List UInt8) (F : Bool), i ≤ n ∧ x = .string (ofL S) ∧ f = .bool F ∧ j = .int .i64 i ∧ Hid (Below w.heap.size w wr) ∧ Hid ((ts.take i).foldl (latF p) ([], false) = (S, F))) (fun _ _ j _ => n - (intOf j).toNat)
  case atStart => exact ⟨0, [], false, by omega, rfl, rfl, rfl, Below.refl _ _, rfl⟩
  case round =>
    obtain ⟨i, S, F, hin, rfl, rfl, rfl, HB, HA⟩ := hrel
    by_cases hlt : i < n
    · have hlt' : (i : Int) < (n : Int) := by omega
      have i1 : i < ts.length := by rw [HN.out]; exact hlt
      obtain ⟨b, o, rfl, hrow⟩ := Txt.some (HV.out.below HB.out) (by omega)
      have d0 := hrow i i1
      have h2 := lat_take p ts i i1
      rw [HA.out] at h2
      have h3 : latF p (S, F) ts[i] = if (p ts[i] && (!F || decide (0 < cmpT ts[i] S))) = true then (ts[i], true) else (S, F) := rfl
      rw [h3] at h2
      have P1 := hide (fun (W : World) (hW : Below w.heap.size w W) => (by have := HP.out (ofL ts[i]) W hW; rw [ofL_data] at this; exact this : Calls Tryz.prog 38 #[.string (ofL ts[i]), .pointer (some ⟨B, 0, none⟩)] W fun e W' => e = .returned (.bool (p ts[i])) ∧ Below W.heap.size W W'))
      have C1 := hide (fun (W : World) => (by have := HC.out (ofL ts[i]) (ofL S) W; rw [ofL_data, ofL_data] at this; exact this : Calls Tryz.prog 42 #[.string (ofL ts[i]), .string (ofL S)] W fun e W' => e = .returned (.int .i64 (cmpT ts[i] S)) ∧ Below W.heap.size W W'))
      have H2 := hide h2
      clear h2 h3 hrow
      generalize p ts[i] = X at *
      generalize cmpT ts[i] S = C at *
      generalize ts[i] = t at *
      clear i1
      go_wp2_with fail
      refine (P1.out _ HB.out).mono ?_
      rintro e W1 ⟨rfl, b1⟩
      have HB1 := hide (HB.out.trans (b1.mono HB.out.size))
      clear b1 HB P1 d0
      cases X with
      | false =>
        go_wp2_with fail
        go_roundw
        case rel => exact ⟨i + 1, S, F, by omega, rfl, rfl, by go_num, HB1, by show _ = _; rw [H2.out]; rfl⟩
        case measure => simp [intOf]; omega
      | true =>
        cases F with
        | false =>
          go_wp2_with fail
          go_roundw
          case rel => exact ⟨i + 1, t, true, by omega, rfl, rfl, by go_num, HB1, by show _ = _; rw [H2.out]; rfl⟩
          case measure => simp [intOf]; omega
        | true =>
          go_wp2_with fail
          refine (C1.out _).mono ?_
          rintro e W2 ⟨rfl, b2⟩
          have HB2 := hide (HB1.out.trans (b2.mono HB1.out.size))
          clear b2 HB1 C1
          by_cases hC : 0 < C
          · have hd : decide (0 < C) = true := by simpa using hC
            go_wp2_with fail
            go_roundw
            case rel => exact ⟨i + 1, t, true, by omega, rfl, rfl, by go_num, HB2, by show _ = _; rw [H2.out, hd]; rfl⟩
            case measure => simp [intOf]; omega
          · have hd : decide (0 < C) = false := by simpa using hC
            go_wp2_with fail
            go_roundw
            case rel => exact ⟨i + 1, S, true, by omega, rfl, rfl, by go_num, HB2, by show _ = _; rw [H2.out, hd]; rfl⟩
            case measure => simp [intOf]; omega
    · have hlt' : ¬ (i : Int) < (n : Int) := by omega
      have hX : latestL p ts = (S, F) := by
        have := HA.out
        rwa [List.take_of_length_le (by rw [HN.out]; omega)] at this
      have HX := hide hX
      clear hX
      go_wp2_with fail
      go_ret2
      exact ⟨by rw [HX.out]; rfl, HB.out⟩


end Go.Proofs.YtpdlgiioahjhiaaGreat

namespace Go.Proofs.YtpdlgiioahjhiaaGreat
open Go.RowKit Go.Shelf
set_option linter.unusedVariables false

set_option maxRecDepth 100000 in
set_option maxHeartbeats 4000000 in
theorem wantC_any (l : List (List Comp)) (B : Nat) (v : Value) (s : ByteArray) (w : World) (hb : Boxed w B 22 v) (hv : SetsAt w v l) (hs : ∀ cs ∈ l, cs.length ≤ 9000000000000000000 ∧ ∀ c ∈ cs, ShortS c.2) (hln : l.length ≤ 9000000000000000000) :
    Calls Tryz.prog 38 #[.string s, .pointer (some ⟨B, 0, none⟩)] w fun e w' => e = .returned (.bool (takesL l s.data.toList)) ∧ Below w.heap.size w w' := by
  have PT := hide (Parse_three Parse_any s w)
  have AS := hide (fun u W (hW : SetsAt W v l) (hu : SemAt W u (semP s.data.toList)) => anySet_any l (semP s.data.toList) v u W hW hu hs (semP_short _) hln)
  have hX : takesL l s.data.toList = l.any (fun cs => setL cs (semP s.data.toList)) := rfl
  rw [← hX] at AS
  generalize takesL l s.data.toList = X at *
  generalize semP s.data.toList = y at *
  generalize fauP s.data.toList = f at *
  obtain ⟨a, k, rfl, _⟩ := id hv
  have HBX := hide hb
  have HV := hide hv
  clear hb hv hs hX
  go_enter Tryz.func38, Tryz.ntmps38
  go_wp2_with fail
  refine PT.out.mono ?_
  rintro e w1 ⟨b1, vs, rfl, ⟨vp, vb, rfl, t1, t2, _⟩, _⟩
  obtain ⟨a1, k1, rfl, _⟩ := id t1
  obtain ⟨a2, k2, rfl, _⟩ := id t2
  have bb := ((Below.refl _ w1).alloc (Nat.le_refl _) (.cells #[.string (ofL y.maj), .string (ofL y.min), .string (ofL y.pat), .slice a1 y.pre.length k1, .slice a2 y.bld.length k2] 33)).alloc (by simp) (.cells #[.int .i64 f.1, .int .i64 (f.2 : Int)] 25)
  have b2 := b1.trans (bb.mono b1.size)
  have hbx : Boxed ((w1.alloc (.cells #[.string (ofL y.maj), .string (ofL y.min), .string (ofL y.pat), .slice a1 y.pre.length k1, .slice a2 y.bld.length k2] 33)).alloc (.cells #[.int .i64 f.1, .int .i64 (f.2 : Int)] 25)) B 22 (.slice a l.length k) := (b2.block B HBX.out.lt).trans HBX.out
  have hc := hbx.cell
  have S2 := hide (AS.out _ _ (HV.out.below b2) ⟨_, _, rfl, t1.below bb, t2.below bb⟩)
  have HB2 := hide b2
  clear b1 bb b2 hbx t1 t2 AS PT
  go_wp2_with fail
  refine S2.out.mono ?_
  rintro e w3 ⟨rfl, b3⟩
  go_wp2_with fail
  go_ret
  exact ⟨rfl, HB2.out.trans (b3.mono HB2.out.size)⟩

end Go.Proofs.YtpdlgiioahjhiaaGreat

namespace Go.Proofs.YtpdlgiioahjhiaaGreat
set_option linter.unusedVariables false

def foldI : Int → List Comp → List Item → Int × Int × List Comp
  | a, cs, [] => (0, a, cs)
  | a, cs, x :: xs => if x.err ≠ 0 then (x.err, x.pos, cs) else foldI x.pos (cs ++ meanL x.f x.p) xs
def oneSet (l : List UInt8) (a : Nat) : Int × Int × List Comp := foldI (a : Int) [] (partsL l a)
def npGo (l : List UInt8) : Nat → Nat → List (List Comp) → Int × Int × List (List Comp)
  | 0, a, _ => (0, (a : Int), [])
  | n + 1, a, sets =>
    if (oneSet l a).1 ≠ 0 then ((oneSet l a).1, (oneSet l a).2.1, [])
    else if blk l (oneSet l a).2.1.toNat = l.length then (0, 0, sets ++ [(oneSet l a).2.2])
    else if (barsL l (blk l (oneSet l a).2.1.toNat) (sets.length + 1)).2 ≠ 0 then ((barsL l (blk l (oneSet l a).2.1.toNat) (sets.length + 1)).2, ((barsL l (blk l (oneSet l a).2.1.toNat) (sets.length + 1)).1 : Int), [])
    else npGo l n (barsL l (blk l (oneSet l a).2.1.toNat) (sets.length + 1)).1 (sets ++ [(oneSet l a).2.2])
def nParse (l : List UInt8) : Int × Int × List (List Comp) := if 256 < l.length then (12, 256, []) else npGo l 33 0 []

def lastP (a : Int) : List Item → Int
  | [] => a
  | x :: xs => lastP x.pos xs
theorem foldI_cons {a : Int} {cs : List Comp} {x : Item} {xs : List Item} (h : x.err = 0) : foldI a cs (x :: xs) = foldI x.pos (cs ++ meanL x.f x.p) xs := by
  conv => lhs; unfold foldI
  rw [if_neg (by simp [h])]
theorem fold_split : ∀ (pre : List Item) (a : Int) (cs : List Comp) (xs : List Item), (∀ x ∈ pre, x.err = 0) →
    foldI a cs (pre ++ xs) = foldI (lastP a pre) (cs ++ pre.flatMap (fun x => meanL x.f x.p)) xs
  | [], a, cs, xs, _ => by rw [List.flatMap_nil, List.append_nil]; rfl
  | y :: ys, a, cs, xs, h => by
    rw [List.cons_append, foldI_cons (h y List.mem_cons_self), fold_split ys y.pos (cs ++ meanL y.f y.p) xs (fun x hx => h x (List.mem_cons_of_mem _ hx)), List.flatMap_cons, List.append_assoc]
    rfl

end Go.Proofs.YtpdlgiioahjhiaaGreat

namespace Go.Proofs.YtpdlgiioahjhiaaGreat
open Go.RowKit Go.Shelf
set_option linter.unusedVariables false

def NPost (R : Int × Int × List (List Comp)) (w : World) (e : Ending) (w' : World) : Prop :=
  ∃ v, e = .returned (.tuple #[v, .agg #[.int .i64 R.1, .int .i64 R.2.1]]) ∧ SetsAt w' v R.2.2 ∧ Below w.heap.size w w'
def ShortL (l : List (List Comp)) : Prop := l.length ≤ 9000000000000000000 ∧ ∀ cs ∈ l, cs.length ≤ 9000000000000000000 ∧ ∀ c ∈ cs, ShortS c.2

set_option maxRecDepth 100000 in
set_option maxHeartbeats 4000000 in
theorem Pick_of (PA : ∀ (s : ByteArray) (w : World), Calls Tryz.prog 8 #[.string s] w (NPost (nParse s.data.toList) w)) (SH : ∀ l, ShortL (nParse l).2.2) (s : ByteArray) (v : Value) (ts : List (List UInt8)) (w : World) (hv : Txt w v ts) (hln : ts.length ≤ 9000000000000000000) :
    Calls Tryz.prog 19 #[.string s, v] w fun e w' => e = .returned (.tuple #[.string (ofL (latestL (takesL (nParse s.data.toList).2.2) ts).1), .bool (latestL (takesL (nParse s.data.toList).2.2) ts).2]) ∧ Below w.heap.size w w' := by
  have PS := hide (PA s w)
  have hsh := SH s.data.toList
  generalize nParse s.data.toList = R at *
  obtain ⟨re, ra, l⟩ := R
  dsimp only at *
  have WC := hide (fun B v1 t W hb hs => wantC_any l B v1 t W hb hs hsh.2 hsh.1)
  have HV := hide hv
  have CT := hide (fun s t W => CompareT_any Parse_any s t W)
  obtain ⟨av, kv, rfl, _⟩ := id hv
  clear hv hsh SH PA
  unfold NPost at PS
  go_enter Tryz.func19, Tryz.ntmps19
  go_wp2_with fail
  refine PS.out.mono ?_
  rintro e w1 ⟨v1, rfl, hS, b1⟩
  obtain ⟨a1, k1, rfl, _⟩ := id hS
  dsimp only at *
  have bb := ((Below.refl _ w1).alloc (Nat.le_refl _) (.cells #[.slice a1 l.length k1] 22)).alloc (by simp) (.cells #[.int .i64 re, .int .i64 ra] 25)
  have b2 := b1.trans (bb.mono b1.size)
  have hbx : Boxed ((w1.alloc (.cells #[.slice a1 l.length k1] 22)).alloc (.cells #[.int .i64 re, .int .i64 ra] 25)) w1.heap.size 22 (.slice a1 l.length k1) := (Below.heap_alloc _ _ _ (by simp)).trans (World.alloc_heap_new w1 _)
  have S2 := hS.below bb
  have LA := hide (Latest_any (takesL l) w1.heap.size ts (.slice av ts.length kv) _ (HV.out.below b2) hln (fun t W hW => WC.out w1.heap.size _ t W ((hW.block _ hbx.lt).trans hbx) (S2.below hW)) (fun s t W => CT.out s t W))
  have HB2 := hide b2
  clear b1 bb b2 hbx S2 hS WC CT PS HV
  obtain ⟨X, hX⟩ : ∃ X, latestL (takesL l) ts = X := ⟨_, rfl⟩
  rw [hX] at LA
  have HX := hide hX
  clear hX
  obtain ⟨T, ok⟩ := X
  dsimp only at LA
  go_wp2_with fail
  refine LA.out.mono ?_
  rintro e w3 ⟨rfl, b3⟩
  go_wp2_with fail
  go_ret2
  exact ⟨by rw [HX.out]; rfl, HB2.out.trans (b3.mono HB2.out.size)⟩

theorem latest_one (p : List UInt8 → Bool) (t : List UInt8) : (latestL p [t]).2 = p t := by
  show (latF p ([], false) t).2 = p t
  unfold latF
  cases h : p t <;> simp

set_option maxRecDepth 100000 in
set_option maxHeartbeats 4000000 in
theorem Match_of (PA : ∀ (s : ByteArray) (w : World), Calls Tryz.prog 8 #[.string s] w (NPost (nParse s.data.toList) w)) (SH : ∀ l, ShortL (nParse l).2.2) (s u : ByteArray) (w : World) :
    Calls Tryz.prog 21 #[.string s, .string u] w fun e w' => e = .returned (.bool (takesL (nParse s.data.toList).2.2 u.data.toList)) ∧ Below w.heap.size w w' := by
  have bb := (Below.refl _ w).alloc (Nat.le_refl _) (.cells #[.string u] 9)
  have ht : Txt (w.alloc (.cells #[.string u] 9)) (.slice (some ⟨w.heap.size, 0, none⟩) 1 1) [u.data.toList] := by
    refine ⟨_, 1, rfl, .inr ⟨w.heap.size, 0, rfl, by simp, fun i hi => ?_⟩⟩
    have : i = 0 := by simpa using hi
    subst this
    have h1 : (w.alloc (.cells #[.string u] 9)).cell? ⟨w.heap.size, 0, none⟩ = some (Value.string u) := cell_at 0 (World.alloc_heap_new w (.cells #[.string u] 9)) rfl
    have h2 : ofL u.data.toList = u := ofL_self u
    show (w.alloc (.cells #[.string u] 9)).cell? ⟨w.heap.size, 0 + 0, none⟩ = some (Value.string (ofL u.data.toList))
    rw [h2]
    exact h1
  have PK := Pick_of PA SH s _ [u.data.toList] _ ht (by simp)
  rw [latest_one] at PK
  have HP := hide PK
  have HB := hide bb
  clear PK ht bb PA SH
  generalize takesL (nParse s.data.toList).2.2 u.data.toList = X at *
  generalize (latestL (takesL (nParse s.data.toList).2.2) [u.data.toList]).1 = T at *
  go_enter Tryz.func21, Tryz.ntmps21
  go_wp2_with fail
  refine HP.out.mono ?_
  rintro e w3 ⟨rfl, b3⟩
  go_wp2_with fail
  go_ret
  exact ⟨by rfl, HB.out.trans (b3.mono HB.out.size)⟩

end Go.Proofs.YtpdlgiioahjhiaaGreat

namespace Go.Proofs.YtpdlgiioahjhiaaGreat
open Go.RowKit Go.Shelf
set_option linter.unusedVariables false

def At (W : World) (B : Nat) (o : Obj) : Prop := W.heap[B]? = some o
theorem At.lt {W : World} {B : Nat} {o : Obj} (h : At W B o) : B < W.heap.size := (Array.getElem?_eq_some_iff.1 h).1
theorem set_size (W : World) (p : Addr) (v : Value) : (W.setCell p v).heap.size = W.heap.size := Array.size_modify
theorem set1 {W : World} {B : Nat} {t : TypeId} {u : Value} (v : Value) (h : At W B (.cells #[u] t (0, 0))) : At (W.setCell ⟨B, 0, none⟩ v) B (.cells #[v] t (0, 0)) := set_lies 0 v h
theorem keeps_below {W W' : World} (h : Below W.heap.size W W') : KeepsOthers W W' := KeepsOthers.of_grownBy (grown_below h) (fun j o ej _ => by cases ej)
theorem keep_below {A : Nat → Prop} {W W' : World} (h : Below W.heap.size W W') : Keep A W W' := ⟨h.size, fun b cs t m _ hh => (h.block b (Array.getElem?_eq_some_iff.1 hh).1).trans hh⟩
theorem keep_set {A : Nat → Prop} (W : World) (B : Nat) (v : Value) (h : ∀ b, A b → b ≠ B) : Keep A W (W.setCell ⟨B, 0, none⟩ v) := ⟨by rw [set_size]; exact Nat.le_refl _, fun b cs t m hb hh => (Below.heap_setCell _ _ _ b (h b hb)).trans hh⟩
theorem keep_own {A : Nat → Prop} {B0 : Nat} {W W' : World} {row : Option Nat} (hg : W.grownBy W' row) (hr : ∀ r, row = some r → B0 ≤ r ∧ ∃ o : Obj, W.heap[r]? = some o ∧ o.isCells = false) : Keep A W W' := by
  refine ⟨hg.size, fun b cs t m _ hh => (hg.block b (Array.getElem?_eq_some_iff.1 hh).1 (fun e => ?_)).trans hh⟩
  obtain ⟨_, o, ho, hc⟩ := hr b e.symm
  rw [hh] at ho
  cases ho
  cases hc
theorem Keep.at_ {A : Nat → Prop} {W W' : World} {B : Nat} {cs : Array Value} {t : TypeId} {m : Nat × Nat} (hk : Keep A W W') (hA : A B) (h : At W B (.cells cs t m)) : At W' B (.cells cs t m) := hk.2 _ _ _ _ hA h
theorem Keep.trans {A : Nat → Prop} {X Y Z : World} (h : Keep A X Y) (k : Keep A Y Z) : Keep A X Z := ⟨Nat.le_trans h.1 k.1, fun b cs t m hb hh => k.2 b cs t m hb (h.2 b cs t m hb hh)⟩

structure PJ (w W1 : World) (X : Nat) (cs : List Comp) (z e : Int) (W : World) : Prop where
  pl : At W (w.heap.size + 1) (.cells #[.int .i64 z] 3 (0, 0))
  er : At W (w.heap.size + 1 + 1) (.cells #[.int .i64 e] 23 (0, 0))
  row : ∃ v xs, Boxed W X 39 v ∧ W.ownsRow W1.heap.size 35 6 v cs.length xs ∧ CompsC (fun b => X < b ∧ v.ownBlock ≠ some b) W cs xs
  kp : ∀ k, k < W1.heap.size → k ≠ w.heap.size + 1 → k ≠ w.heap.size + 1 + 1 → k ≠ X → W.heap[k]? = W1.heap[k]?
  bel : Below w.heap.size w W
  sz : W1.heap.size ≤ W.heap.size
theorem PJ.own {w W1 : World} {X : Nat} {cs : List Comp} {z e : Int} (hX : X < W1.heap.size) (hN : w.heap.size + 1 + 1 < X) : OwnFrom W1.heap.size (fun (_ : Unit) W => PJ w W1 X cs z e W) := by
  rintro u P Q row h hg hr
  have K : Keep (fun _ => True) P Q := keep_own hg hr
  obtain ⟨v, xs, h1, h2, h3⟩ := h.row
  refine ⟨K.at_ trivial h.pl, K.at_ trivial h.er, ⟨v, xs, K.at_ trivial h1, own_keep h2 K (fun _ _ => trivial), h3.keep ⟨K.1, fun b cs t m _ => K.2 b cs t m trivial⟩ (fun _ hb _ => hb)⟩, ?_, (ownFrom_below (β := Unit) (Nat.le_refl _) (by omega)) () P Q row h.bel hg hr, Nat.le_trans h.sz hg.size⟩
  intro k hk n1 n2 n3
  exact (hg.block k (Nat.lt_of_lt_of_le hk h.sz) (fun e => by have := (hr k e.symm).1; omega)).trans (h.kp k hk n1 n2 n3)
theorem PJ.next {w W1 W W' : World} {X : Nat} {cs : List Comp} {z e : Int} (h : PJ w W1 X cs z e W) (hb : Below W.heap.size W W') : PJ w W1 X cs z e W' := by
  have K : Keep (fun _ => True) W W' := keep_below hb
  obtain ⟨v, xs, h1, h2, h3⟩ := h.row
  exact ⟨K.at_ trivial h.pl, K.at_ trivial h.er, ⟨v, xs, K.at_ trivial h1, own_keep h2 K (fun _ _ => trivial), h3.keep ⟨K.1, fun b cs t m _ => K.2 b cs t m trivial⟩ (fun _ hb _ => hb)⟩,
    fun k hk n1 n2 n3 => (hb.block k (Nat.lt_of_lt_of_le hk h.sz)).trans (h.kp k hk n1 n2 n3), h.bel.trans (hb.mono h.bel.size), Nat.le_trans h.sz hb.size⟩
theorem PJ.place {w W1 W : World} {X : Nat} {cs : List Comp} {z e : Int} (h : PJ w W1 X cs z e W) (hX : X < W1.heap.size) (hN : w.heap.size + 1 + 1 < X) (p : Int) : PJ w W1 X cs p e (W.setCell ⟨w.heap.size + 1, 0, none⟩ (.int .i64 p)) := by
  obtain ⟨v, xs, h1, h2, h3⟩ := h.row
  exact ⟨set1 _ h.pl, (Below.heap_setCell _ _ _ _ (by simp only; omega)).trans h.er, ⟨v, xs, (Below.heap_setCell _ _ _ _ (by simp only; omega)).trans h1, ownsRow_setCell_below h2 (a := ⟨w.heap.size + 1, 0, none⟩) (by simp only; omega) _, h3.keep (keep_set W _ _ (fun b hb => by have := hb.1; omega)) (fun _ hb _ => hb)⟩,
    fun k hk n1 n2 n3 => (Below.heap_setCell _ _ _ _ (by simp only; omega)).trans (h.kp k hk n1 n2 n3), h.bel.setCell (p := ⟨w.heap.size + 1, 0, none⟩) (by simp only; omega) _, by rw [set_size]; exact h.sz⟩
theorem PJ.fault {w W1 W : World} {X : Nat} {cs : List Comp} {z e : Int} (h : PJ w W1 X cs z e W) (hX : X < W1.heap.size) (hN : w.heap.size + 1 + 1 < X) (p : Int) : PJ w W1 X cs z p (W.setCell ⟨w.heap.size + 1 + 1, 0, none⟩ (.int .i64 p)) := by
  obtain ⟨v, xs, h1, h2, h3⟩ := h.row
  exact ⟨(Below.heap_setCell _ _ _ _ (by simp only; omega)).trans h.pl, set1 _ h.er, ⟨v, xs, (Below.heap_setCell _ _ _ _ (by simp only; omega)).trans h1, ownsRow_setCell_below h2 (a := ⟨w.heap.size + 1 + 1, 0, none⟩) (by simp only; omega) _, h3.keep (keep_set W _ _ (fun b hb => by have := hb.1; omega)) (fun _ hb _ => hb)⟩,
    fun k hk n1 n2 n3 => (Below.heap_setCell _ _ _ _ (by simp only; omega)).trans (h.kp k hk n1 n2 n3), h.bel.setCell (p := ⟨w.heap.size + 1 + 1, 0, none⟩) (by simp only; omega) _, by rw [set_size]; exact h.sz⟩
theorem PJ.app {w W1 W Wc w3 : World} {X : Nat} {cs ds : List Comp} {z e : Int} {v v' : Value} {ys : List Value} (h : PJ w W1 X cs z e W) (hX : X < W1.heap.size) (hN : w.heap.size + 1 + 1 < X) (b2 : Below W.heap.size W Wc) (hv : Boxed W X 39 v)
    (hlt : ∀ g, v.ownBlock = some g → W1.heap.size ≤ g ∧ g < Wc.heap.size)
    (hown : w3.ownsRow W1.heap.size 35 6 v' (cs ++ ds).length ys) (hcs : CompsC (fun b => X < b ∧ v.ownBlock ≠ some b) Wc (cs ++ ds) ys) (hg : Wc.grownBy w3 v.ownBlock) (hp : v'.ownBlock = v.ownBlock ∨ v'.ownBlock = some Wc.heap.size) :
    PJ w W1 X (cs ++ ds) z e (w3.setCell ⟨X, 0, none⟩ v') ∧ KeepsOthers W w3 ∧ Boxed w3 X 39 v := by
  have h' := h.next b2
  have hnb : ∀ k, k < W1.heap.size → w3.heap[k]? = Wc.heap[k]? := fun k hk => hg.block k (Nat.lt_of_lt_of_le hk h'.sz) (fun e => by have := (hlt k e.symm).1; omega)
  have hvc : Boxed Wc X 39 v := (b2.block X hv.lt).trans hv
  have hv3 : Boxed w3 X 39 v := (hnb X hX).trans hvc
  have hko : KeepsOthers Wc w3 := by
    obtain ⟨v0, xs0, q1, q2, _⟩ := h'.row
    have : v0 = v := by
      have e1 := (show Wc.heap[X]? = _ from q1).symm.trans (show Wc.heap[X]? = _ from hvc)
      simp only [Option.some.injEq, Obj.cells.injEq, and_true] at e1
      simpa using e1
    subst this
    refine KeepsOthers.of_grownBy hg fun j o ej hj => ?_
    rcases q2.2 with ⟨h1, _⟩ | ⟨g, cap', cur, h1, _, hgb, _⟩
    · rw [h1] at ej; cases ej
    · rw [h1] at ej
      simp only [Value.ownBlock, Option.some.injEq] at ej
      subst ej
      rw [hgb] at hj; cases hj; rfl
  refine ⟨⟨?_, ?_, ⟨v', ys, ?_, ?_, ?_⟩, ?_, ?_, ?_⟩, (keeps_below b2).trans hko, hv3⟩
  · exact (Below.heap_setCell _ _ _ _ (by simp only; omega)).trans ((hnb _ (by omega)).trans h'.pl)
  · exact (Below.heap_setCell _ _ _ _ (by simp only; omega)).trans ((hnb _ (by omega)).trans h'.er)
  · exact set_lies 0 v' hv3
  · exact ownsRow_setCell_below hown (a := ⟨X, 0, none⟩) hX _
  · have k1 : Keep (fun b => X < b ∧ v.ownBlock ≠ some b) Wc w3 := ⟨hg.size, fun b cs t m hb hh => (hg.block b (Array.getElem?_eq_some_iff.1 hh).1 hb.2.symm).trans hh⟩
    refine hcs.keep (k1.trans (keep_set w3 X _ (fun b hb => by have := hb.1; omega))) ?_
    rintro b ⟨hb1, hb2⟩ hb3
    refine ⟨hb1, ?_⟩
    rcases hp with hp | hp
    · rw [hp]; exact hb2
    · rw [hp]; intro e; simp only [Option.some.injEq] at e; omega
  · intro k hk n1 n2 n3
    exact (Below.heap_setCell _ _ _ _ (by simp only; omega)).trans ((hnb k hk).trans (h'.kp k hk n1 n2 n3))
  · have hb3 : Below w.heap.size w w3 := by
      refine ⟨hg.os.trans h'.bel.os, hg.tape.trans h'.bel.tape, hg.output.trans h'.bel.output, Nat.le_trans h'.bel.size hg.size, fun k hk => (hnb k (by omega)).trans (h'.bel.block k hk)⟩
    exact hb3.setCell (p := ⟨X, 0, none⟩) (by simp only; omega) _
  · rw [set_size]; exact Nat.le_trans h'.sz hg.size

structure Goes8 (c : Int) (w W1 : World) (X : Nat) (pre : List Item) (W : World) : Prop where
  ok : ∀ x ∈ pre, x.err = 0
  pj : PJ w W1 X (pre.flatMap (fun x => meanL x.f x.p)) (lastP c pre) 0 W
structure Left8 (c : Int) (w W1 : World) (X : Nat) (k : Code) (pre : List Item) (W : World) : Prop where
  code : k = .exit 0
  is : ∃ pre0 x, pre = pre0 ++ [x] ∧ (∀ x ∈ pre0, x.err = 0) ∧ x.err ≠ 0 ∧ PJ w W1 X (pre0.flatMap (fun x => meanL x.f x.p)) x.pos x.err W
theorem last_snoc (c : Int) : ∀ (pre : List Item) (x : Item), lastP c (pre ++ [x]) = x.pos
  | [], x => rfl
  | y :: ys, x => last_snoc y.pos ys x
theorem Left8.set {c : Int} {w W1 : World} {X : Nat} {k : Code} {pre rest : List Item} {W : World} (h : Left8 c w W1 X k pre W) : ∃ z e cs, foldI c [] (pre ++ rest) = (e, z, cs) ∧ e ≠ 0 ∧ PJ w W1 X cs z e W := by
  obtain ⟨pre0, x, rfl, h1, h2, h3⟩ := h.is
  refine ⟨x.pos, x.err, _, ?_, h2, h3⟩
  rw [List.append_assoc, fold_split pre0 c [] ([x] ++ rest) h1]
  show foldI _ _ (x :: rest) = _
  unfold foldI
  rw [if_pos h2, List.nil_append]
theorem Goes8.set {c : Int} {w W1 : World} {X : Nat} {pre : List Item} {W : World} (h : Goes8 c w W1 X pre W) : foldI c [] pre = (0, lastP c pre, pre.flatMap (fun x => meanL x.f x.p)) := by
  have := fold_split pre c [] [] h.ok
  rw [List.append_nil, List.nil_append] at this
  rw [this]
  rfl
theorem last_le {l : List UInt8} {c : Nat} (hc : c ≤ l.length) : ∀ (pre : List Item), (∀ x ∈ pre, ∃ e : Nat, x.pos = (e : Int) ∧ e ≤ l.length) → ∃ e : Nat, lastP (c : Int) pre = (e : Int) ∧ e ≤ l.length
  | [], _ => ⟨c, rfl, hc⟩
  | [x], h => h x List.mem_cons_self
  | x :: y :: ys, h => by
    obtain ⟨e, h1, h2⟩ := h x List.mem_cons_self
    have := last_le (c := e) h2 (y :: ys) (fun z hz => h z (List.mem_cons_of_mem _ hz))
    show ∃ e : Nat, lastP x.pos (y :: ys) = _ ∧ _
    rw [h1]
    exact this

structure PK (w : World) (Ds : List Nat) (sets : List (List Comp)) (sv : Value) (z e : Int) (W : World) : Prop where
  flt : At W w.heap.size (.cells #[.int .i64 0, .int .i64 0] 25 (0, 0))
  pl : At W (w.heap.size + 1) (.cells #[.int .i64 z] 3 (0, 0))
  er : At W (w.heap.size + 1 + 1) (.cells #[.int .i64 e] 23 (0, 0))
  bel : Below w.heap.size w W
  nd : Ds.Nodup
  ds : ∀ D ∈ Ds, w.heap.size ≤ D ∧ W.heap[D]? = some (.deferred (some []))
  st : SetsO (w.heap.size + 1 + 1 + 1) W sv sets
theorem PK.next {w W W' : World} {Ds : List Nat} {sets : List (List Comp)} {sv : Value} {z e : Int} (h : PK w Ds sets sv z e W) (hb : Below W.heap.size W W') : PK w Ds sets sv z e W' :=
  ⟨(hb.block _ h.flt.lt).trans h.flt, (hb.block _ h.pl.lt).trans h.pl, (hb.block _ h.er.lt).trans h.er, h.bel.trans (hb.mono h.bel.size), h.nd, fun D hD => ⟨(h.ds D hD).1, (hb.block D (Array.getElem?_eq_some_iff.1 (h.ds D hD).2).1).trans (h.ds D hD).2⟩, h.st.keep (keep_below hb)⟩
theorem mark_ne {W : World} {D B : Nat} {cs : Array Value} {t : TypeId} {m : Nat × Nat} (h1 : W.heap[D]? = some (.deferred (some []))) (h2 : At W B (.cells cs t m)) : D ≠ B := by
  rintro rfl
  rw [show W.heap[D]? = _ from h2] at h1
  cases h1
theorem PK.place {w W : World} {Ds : List Nat} {sets : List (List Comp)} {sv : Value} {z e : Int} (h : PK w Ds sets sv z e W) (p : Int) : PK w Ds sets sv p e (W.setCell ⟨w.heap.size + 1, 0, none⟩ (.int .i64 p)) :=
  ⟨(Below.heap_setCell _ _ _ _ (by simp only; omega)).trans h.flt, set1 _ h.pl, (Below.heap_setCell _ _ _ _ (by simp only; omega)).trans h.er, h.bel.setCell (p := ⟨w.heap.size + 1, 0, none⟩) (by simp only; omega) _, h.nd,
    fun D hD => ⟨(h.ds D hD).1, (Below.heap_setCell _ _ _ _ (mark_ne (h.ds D hD).2 h.pl)).trans (h.ds D hD).2⟩, h.st.keep (keep_set W _ _ (fun b hb => by omega))⟩
theorem PK.fault {w W : World} {Ds : List Nat} {sets : List (List Comp)} {sv : Value} {z e : Int} (h : PK w Ds sets sv z e W) (p : Int) : PK w Ds sets sv z p (W.setCell ⟨w.heap.size + 1 + 1, 0, none⟩ (.int .i64 p)) :=
  ⟨(Below.heap_setCell _ _ _ _ (by simp only; omega)).trans h.flt, (Below.heap_setCell _ _ _ _ (by simp only; omega)).trans h.pl, set1 _ h.er, h.bel.setCell (p := ⟨w.heap.size + 1 + 1, 0, none⟩) (by simp only; omega) _, h.nd,
    fun D hD => ⟨(h.ds D hD).1, (Below.heap_setCell _ _ _ _ (mark_ne (h.ds D hD).2 h.er)).trans (h.ds D hD).2⟩, h.st.keep (keep_set W _ _ (fun b hb => by omega))⟩
theorem PK.range {w W W1 V : World} {Ds : List Nat} {sets : List (List Comp)} {sv : Value} {z z' e e' : Int} {cs : List Comp} {D : Nat} (h : PK w Ds sets sv z e W) (hb : Below W.heap.size W W1) (hX : W.heap.size < W1.heap.size) (hj : PJ w W1 W.heap.size cs z' e' V)
    (hD : W1.heap.size ≤ D) (hd : V.heap[D]? = some (.deferred (some []))) : PK w (D :: Ds) sets sv z' e' V := by
  have hk : ∀ k, k < W.heap.size → k ≠ w.heap.size + 1 → k ≠ w.heap.size + 1 + 1 → V.heap[k]? = W.heap[k]? := fun k h1 h2 h3 => (hj.kp k (by omega) h2 h3 (by omega)).trans (hb.block k h1)
  refine ⟨(hk _ h.flt.lt (by omega) (by omega)).trans h.flt, hj.pl, hj.er, hj.bel, List.nodup_cons.2 ⟨fun hm => ?_, h.nd⟩, ?_, ?_⟩
  · have := (Array.getElem?_eq_some_iff.1 (h.ds D hm).2).1
    omega
  · intro E hE
    rcases List.mem_cons.1 hE with rfl | hE
    · exact ⟨by have := h.bel.size; omega, hd⟩
    · obtain ⟨h1, h2⟩ := h.ds E hE
      exact ⟨h1, (hk E (Array.getElem?_eq_some_iff.1 h2).1 (mark_ne h2 h.pl) (mark_ne h2 h.er)).trans h2⟩
  · exact h.st.keep ⟨Nat.le_trans (Nat.le_of_lt hX) hj.sz, fun b cs t m hb' hh => (hk b (Array.getElem?_eq_some_iff.1 hh).1 (by omega) (by omega)).trans hh⟩
theorem PK.set {w W W1 V : World} {Ds : List Nat} {sets : List (List Comp)} {sv : Value} {z z' e e' : Int} {cs : List Comp} (h : PK w Ds sets sv z e W) (hX : W.heap.size < W1.heap.size) (hj : PJ w W1 W.heap.size cs z' e' V) :
    ∃ v, Boxed V W.heap.size 39 v ∧ (∃ a c, v = .slice a cs.length c) ∧ SetO (fun b => w.heap.size + 1 + 1 + 1 ≤ b ∧ sv.ownBlock ≠ some b) V v cs := by
  obtain ⟨v, xs, h1, h2, h3⟩ := hj.row
  obtain ⟨us, h4, _⟩ := h.st
  have hs := h.er.lt
  have hA : ∀ b, W.heap.size < b → (w.heap.size + 1 + 1 + 1 ≤ b ∧ sv.ownBlock ≠ some b) := fun b hb => ⟨by omega, fun e => by have := (own_lt h4 b e).2; omega⟩
  obtain ⟨a, c, hv, _⟩ := own_cells h2
  refine ⟨v, h1, ⟨a, c, hv⟩, xs, ⟨h2.1, ?_⟩, fun g hg => hA g (by have := (own_lt h2 g hg).1; omega), h3.keep (A' := fun b => w.heap.size + 1 + 1 + 1 ≤ b ∧ sv.ownBlock ≠ some b) ⟨Nat.le_refl _, fun _ _ _ _ _ hh => hh⟩ (fun b hb _ => hA b hb.1)⟩
  rcases h2.2 with h5 | ⟨g, cap, cur, hv, hg, r⟩
  · exact .inl h5
  · exact .inr ⟨g, cap, cur, hv, Nat.zero_le _, r⟩
theorem PK.app {w V w3 : World} {Ds : List Nat} {sets : List (List Comp)} {sv v v' : Value} {z e : Int} {cs : List Comp} {us : List Value} (h : PK w Ds sets sv z e V) (tmp : Obj) (hu : SetO (fun b => w.heap.size + 1 + 1 + 1 ≤ b ∧ sv.ownBlock ≠ some b) V v cs)
    (h1 : V.ownsRow (w.heap.size + 1 + 1 + 1) 39 1 sv sets.length us) (h2 : ∀ i (h : i < sets.length), ∃ u, us[i]? = some u ∧ SetO (fun b => w.heap.size + 1 + 1 + 1 ≤ b ∧ sv.ownBlock ≠ some b) V u sets[i])
    (h3 : w3.ownsRow (w.heap.size + 1 + 1 + 1) 39 1 v' (sets.length + 1) (us ++ [v])) (hg : (V.alloc tmp).grownBy w3 sv.ownBlock) (hp : v'.ownBlock = sv.ownBlock ∨ v'.ownBlock = some (V.alloc tmp).heap.size) : PK w Ds (sets ++ [cs]) v' z e w3 := by
  have hb : Below V.heap.size V (V.alloc tmp) := (Below.refl _ V).alloc (Nat.le_refl _) _
  have h' := h.next hb
  have hkb : ∀ {A : Nat → Prop}, Keep A V (V.alloc tmp) := keep_below hb
  have h1' := own_keep (A := fun _ => True) h1 hkb (fun _ _ => trivial)
  have hlt := own_lt h1'
  have hks : ∀ k, k < (V.alloc tmp).heap.size → k < w.heap.size + 1 + 1 + 1 → w3.heap[k]? = (V.alloc tmp).heap[k]? := fun k hk1 hk2 => hg.block k hk1 (fun e => by have := (hlt k e.symm).1; omega)
  refine ⟨(hks _ h'.flt.lt (by omega)).trans h'.flt, (hks _ h'.pl.lt (by omega)).trans h'.pl, (hks _ h'.er.lt (by omega)).trans h'.er, ?_, h.nd, ?_, ?_⟩
  · exact ⟨hg.os.trans h'.bel.os, hg.tape.trans h'.bel.tape, hg.output.trans h'.bel.output, Nat.le_trans h'.bel.size hg.size, fun k hk => (hks k (Nat.lt_of_lt_of_le hk h'.bel.size) (by omega)).trans (h'.bel.block k hk)⟩
  · intro D hD
    obtain ⟨q1, q2⟩ := h'.ds D hD
    refine ⟨q1, (hg.block D (Array.getElem?_eq_some_iff.1 q2).1 (fun e => ?_)).trans q2⟩
    rcases h1'.2 with ⟨h5, _⟩ | ⟨g, cap, cur, hv, _, hh, _⟩
    · rw [h5] at e; cases e
    · rw [hv] at e
      simp only [Value.ownBlock, Option.some.injEq] at e
      subst e
      rw [hh] at q2
      cases q2
  · refine SetsO.snoc h1' (fun i hi => ?_) (hu.keep hkb (fun _ hb _ => hb)) h3 hg hp
    obtain ⟨u, q1, q2⟩ := h2 i hi
    exact ⟨u, q1, q2.keep hkb (fun _ hb _ => hb)⟩
structure PIn (l : List UInt8) (w : World) (Ds : List Nat) (sets : List (List Comp)) (sv : Value) (c n : Nat) (W : World) : Prop where
  pk : PK w Ds sets sv (c : Int) 0 W
  cl : c ≤ l.length
  eq : npGo l 33 0 [] = npGo l n c sets
  num : n + sets.length = 33
  sl : sets.length ≤ 31
theorem cap_fresh {W : World} {v : Value} {ts : List (List UInt8)} {R : Nat} (h : Txt W v ts) (hc : Cap v) (hf : Fresh R v) : CapA (fun b => R ≤ b ∧ b < W.heap.size) v := by
  refine ⟨hc, fun p n c e => ?_⟩
  obtain ⟨a, cap, hv, h0 | ⟨b, off, ha, hlt, _⟩⟩ := h
  · rw [e] at hv
    cases hv
    exact .inl (by rw [h0]; rfl)
  · refine .inr ⟨hf p n c e, ?_⟩
    rw [e] at hv
    cases hv
    cases ha
    exact hlt

theorem Tri.trans {b c d : Nat} {A B C : World} (h : Tri b c d A B) (k : Tri b c d B C) : Tri b c d A C := ⟨k.1.trans h.1, k.2.1.trans h.2.1, k.2.2.trans h.2.2⟩
theorem seq_of_parts (s : ByteArray) (c : Nat) (W0 W1 : World) (hs : s.size ≤ 256) (hc : c ≤ s.size) (e : Ending) (h : PartsP s.data.toList s c W0 e W1) :
    ∃ gf lb Kp, e = .returned (.func (.func gf) #[] lb) ∧ (∀ args w, (callFunc gf args).run Tryz.prog w = .ok (.enter gf args) w) ∧
      SeqC Fence.wide 4 Tryz.prog gf lb encI (CX W0.heap.size W1.heap.size (partsL s.data.toList c)) (fun x => x.1.err = 0) Kp (fun xs => xs.map Prod.fst = partsL s.data.toList c) (fun pre => pre.map Prod.fst <+: partsL s.data.toList c) W1 ∧
      (∀ A B D : World, Kp A B → Kp B D → Kp A D) ∧ (∀ W W' : World, (∀ k, W0.heap.size ≤ k → k < W1.heap.size → W'.heap[k]? = W.heap[k]?) → Kp W W') := by
  obtain ⟨hb, ⟨hf, Bp, Be, Bs, av, nv, cv, rfl, h1, h2, h3, q1, q2, q3, q4, q5, q6⟩ | ⟨hf, Ba, Bs, rfl, h1, h2, q1, q2⟩⟩ := h
  · have hf' := hf
    unfold isFrom at hf'
    rw [Bool.and_eq_true] at hf'
    have hr : (headL s.data.toList c).2.2 = 0 := by simpa using hf'.1
    obtain ⟨e, k1, _, k2⟩ := rp_ok (blk_le (by rw [len_data]; exact hc)) hr
    have k1' : (headL s.data.toList c).2.1 = (e : Int) := k1
    have h45 := hf'.2
    rw [k1', Int.toNat_natCast] at h45
    have h45 : s.data.toList[blk s.data.toList e]? = some 45 := by simpa using h45
    have hd := (List.getElem?_eq_some_iff.1 h45).1
    rw [len_data] at k2 hd
    have hP : partsL s.data.toList c = ftL s.data.toList (headL s.data.toList c).1 e := by unfold partsL; rw [if_pos hf, k1', Int.toNat_natCast]
    rw [k1'] at q2
    rw [hP]
    refine ⟨84, _, Tri Bp Be Bs, rfl, enters_of Tryz.func84 (by kernel_rfl) rfl, ?_, fun A B D h k => h.trans k, fun W W' h => ⟨h _ h1 (Array.getElem?_eq_some_iff.1 q1).1, h _ h2 q2.lt, h _ h3 q3.lt⟩⟩
    intro l J Jx W hW hJ hJx hY h0
    exact from1_in 4 (by omega) l Bp Be Bs s (headL s.data.toList c).1 e av nv cv k2 hs (by omega) J Jx W.heap.size hJ W0.heap.size W1.heap.size (cap_fresh q4 q5 q6) hY W ((hW.block _ (Array.getElem?_eq_some_iff.1 q1).1).trans q1) (boxed_below q2 hW) (boxed_below q3 hW) (q4.below hW) q5 h0
  · have hP : partsL s.data.toList c = rowL s.data.toList (blk s.data.toList c) := by unfold partsL; rw [if_neg (by rw [hf]; decide)]
    rw [hP]
    have hle := blk_le (l := s.data.toList) (a := c) (by rw [len_data]; exact hc)
    rw [len_data] at hle
    refine ⟨89, _, Two Ba Bs, rfl, enters_of Tryz.func89 (by kernel_rfl) rfl, ?_, fun A B D h k => h.trans k, fun W W' h => ⟨h _ h1 q1.lt, h _ h2 q2.lt⟩⟩
    intro l J Jx W hW hJ hJx hY h0
    exact row1_in 4 (by omega) l Ba Bs s (blk s.data.toList c) hle hs J Jx W.heap.size hJ W0.heap.size W1.heap.size hY W (boxed_below q1 hW) (boxed_below q2 hW) h0

end Go.Proofs.YtpdlgiioahjhiaaGreat
