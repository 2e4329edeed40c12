/-
  Walks: the latest of the texts that are wanted. · Walks: is a version in one of a range's sets? (Pick's closure) · Plain functions: what a range is read as; no program is named here. · Walks: Pick, Match, over what Parse leaves.
-/
import Derived.Test.YtaflflelcdcanaaGreatZEzc
import Derived.Test.YtaflflelcdcanaaGreatZEk
import Derived.Test.YtaflflelcdcanaaGreatZSg
import Derived.Test.YtaflflelcdcanaaGreatZEx
namespace Go.Proofs.YtaflflelcdcanaaGreat
open Go.RowKit Go.Shelf
set_option linter.unusedVariables false

/-- Which texts some sets take. -/
def takesL (l : List (List Comp)) (t : List UInt8) : Bool := l.any (fun cs => setL cs (semP t))
/-- One text more. -/
def latF (p : List UInt8 → Bool) (b : List UInt8 × Bool) (t : List UInt8) : List UInt8 × Bool := if (p t && (!b.2 || decide (0 < cmpT t b.1))) = true then (t, true) else b
/-- The latest of those that are wanted. -/
def latestL (p : List UInt8 → Bool) (ts : List (List UInt8)) : List UInt8 × Bool := ts.foldl (latF p) ([], false)
theorem lat_take (p : List UInt8 → Bool) (ts : List (List UInt8)) (i : Nat) (h : i < ts.length) : (ts.take (i + 1)).foldl (latF p) ([], false) = latF p ((ts.take i).foldl (latF p) ([], false)) ts[i] := by
  rw [List.take_succ_eq_append_getElem h, List.foldl_append]
  rfl

set_option maxRecDepth 100000 in
set_option maxHeartbeats 4000000 in
theorem Latest_any (p : List UInt8 → Bool) (B : Nat) (ts : List (List UInt8)) (v : Value) (w : World) (hv : Txt w v ts) (hln : ts.length ≤ 9000000000000000000)
    (hp : ∀ (s : ByteArray) (W : World), Below w.heap.size w W → Calls Tryz.prog 38 #[.string s, .pointer (some ⟨B, 0, none⟩)] W fun e W' => e = .returned (.bool (p s.data.toList)) ∧ Below W.heap.size W W')
    (hc : ∀ (s t : ByteArray) (W : World), Calls Tryz.prog 42 #[.string s, .string t] W fun e W' => e = .returned (.int .i64 (cmpT s.data.toList t.data.toList)) ∧ Below W.heap.size W W') :
    Calls Tryz.prog 41 #[v, .func (.func 38) #[] #[.pointer (some ⟨B, 0, none⟩)], .func (.func 42) #[] #[]] w fun e w' => e = .returned (.tuple #[.string (ofL (latestL p ts).1), .bool (latestL p ts).2]) ∧ Below w.heap.size w w' := by
  obtain ⟨a, k, rfl, _⟩ := id hv
  obtain ⟨n, hn⟩ : ∃ n, ts.length = n := ⟨_, rfl⟩
  rw [hn] at hv hln ⊢
  have HN := hide hn
  have HV := hide hv
  have HP := hide hp
  have HC := hide hc
  clear hn hv hp hc
  go_enter Tryz.func41, Tryz.ntmps41
  go_wp2_with fail
  go_loopw [8, 9, 14] (fun x f j wr => ∃ (i : Nat) (S : List UInt8) (F : Bool), i ≤ n ∧ x = .string (ofL S) ∧ f = .bool F ∧ j = .int .i64 i ∧ Hid (Below w.heap.size w wr) ∧ Hid ((ts.take i).foldl (latF p) ([], false) = (S, F))) (fun _ _ j _ => n - (intOf j).toNat)
  case atStart => exact ⟨0, [], false, by omega, rfl, rfl, rfl, Below.refl _ _, rfl⟩
  case round =>
    obtain ⟨i, S, F, hin, rfl, rfl, rfl, HB, HA⟩ := hrel
    by_cases hlt : i < n
    · have hlt' : (i : Int) < (n : Int) := by omega
      have i1 : i < ts.length := by rw [HN.out]; exact hlt
      obtain ⟨b, o, rfl, hrow⟩ := Txt.some (HV.out.below HB.out) (by omega)
      have d0 := hrow i i1
      have h2 := lat_take p ts i i1
      rw [HA.out] at h2
      have h3 : latF p (S, F) ts[i] = if (p ts[i] && (!F || decide (0 < cmpT ts[i] S))) = true then (ts[i], true) else (S, F) := rfl
      rw [h3] at h2
      have P1 := hide (fun (W : World) (hW : Below w.heap.size w W) => (by have := HP.out (ofL ts[i]) W hW; rw [ofL_data] at this; exact this : Calls Tryz.prog 38 #[.string (ofL ts[i]), .pointer (some ⟨B, 0, none⟩)] W fun e W' => e = .returned (.bool (p ts[i])) ∧ Below W.heap.size W W'))
      have C1 := hide (fun (W : World) => (by have := HC.out (ofL ts[i]) (ofL S) W; rw [ofL_data, ofL_data] at this; exact this : Calls Tryz.prog 42 #[.string (ofL ts[i]), .string (ofL S)] W fun e W' => e = .returned (.int .i64 (cmpT ts[i] S)) ∧ Below W.heap.size W W'))
      have H2 := hide h2
      clear h2 h3 hrow
      generalize p ts[i] = X at *
      generalize cmpT ts[i] S = C at *
      generalize ts[i] = t at *
      clear i1
      go_wp2_with fail
      refine (P1.out _ HB.out).mono ?_
      rintro e W1 ⟨rfl, b1⟩
      have HB1 := hide (HB.out.trans (b1.mono HB.out.size))
      clear b1 HB P1 d0
      cases X with
      | false =>
        go_wp2_with fail
        go_roundw
        case rel => exact ⟨i + 1, S, F, by omega, rfl, rfl, by go_num, HB1, by show _ = _; rw [H2.out]; rfl⟩
        case measure => simp [intOf]; omega
      | true =>
        cases F with
        | false =>
          go_wp2_with fail
          go_roundw
          case rel => exact ⟨i + 1, t, true, by omega, rfl, rfl, by go_num, HB1, by show _ = _; rw [H2.out]; rfl⟩
          case measure => simp [intOf]; omega
        | true =>
          go_wp2_with fail
          refine (C1.out _).mono ?_
          rintro e W2 ⟨rfl, b2⟩
          have HB2 := hide (HB1.out.trans (b2.mono HB1.out.size))
          clear b2 HB1 C1
          by_cases hC : 0 < C
          · have hd : decide (0 < C) = true := by simpa using hC
            go_wp2_with fail
            go_roundw
            case rel => exact ⟨i + 1, t, true, by omega, rfl, rfl, by go_num, HB2, by show _ = _; rw [H2.out, hd]; rfl⟩
            case measure => simp [intOf]; omega
          · have hd : decide (0 < C) = false := by simpa using hC
            go_wp2_with fail
            go_roundw
            case rel => exact ⟨i + 1, S, true, by omega, rfl, rfl, by go_num, HB2, by show _ = _; rw [H2.out, hd]; rfl⟩
            case measure => simp [intOf]; omega
    · have hlt' : ¬ (i : Int) < (n : Int) := by omega
      have hX : latestL p ts = (S, F) := by
        have := HA.out
        rwa [List.take_of_length_le (by rw [HN.out]; omega)] at this
      have HX := hide hX
      clear hX
      go_wp2_with fail
      go_ret2
      exact ⟨by rw [HX.out]; rfl, HB.out⟩


end Go.Proofs.YtaflflelcdcanaaGreat

namespace Go.Proofs.YtaflflelcdcanaaGreat
open Go.RowKit Go.Shelf
set_option linter.unusedVariables false

set_option maxRecDepth 100000 in
set_option maxHeartbeats 4000000 in
theorem wantC_any (l : List (List Comp)) (B : Nat) (v : Value) (s : ByteArray) (w : World) (hb : Boxed w B 22 v) (hv : SetsAt w v l) (hs : ∀ cs ∈ l, cs.length ≤ 9000000000000000000 ∧ ∀ c ∈ cs, ShortS c.2) (hln : l.length ≤ 9000000000000000000) :
    Calls Tryz.prog 38 #[.string s, .pointer (some ⟨B, 0, none⟩)] w fun e w' => e = .returned (.bool (takesL l s.data.toList)) ∧ Below w.heap.size w w' := by
  have PT := hide (Parse_three Parse_any s w)
  have AS := hide (fun u W (hW : SetsAt W v l) (hu : SemAt W u (semP s.data.toList)) => anySet_any l (semP s.data.toList) v u W hW hu hs (semP_short _) hln)
  have hX : takesL l s.data.toList = l.any (fun cs => setL cs (semP s.data.toList)) := rfl
  rw [← hX] at AS
  generalize takesL l s.data.toList = X at *
  generalize semP s.data.toList = y at *
  generalize fauP s.data.toList = f at *
  obtain ⟨a, k, rfl, _⟩ := id hv
  have HBX := hide hb
  have HV := hide hv
  clear hb hv hs hX
  go_enter Tryz.func38, Tryz.ntmps38
  go_wp2_with fail
  refine PT.out.mono ?_
  rintro e w1 ⟨b1, vs, rfl, ⟨vp, vb, rfl, t1, t2, _⟩, _⟩
  obtain ⟨a1, k1, rfl, _⟩ := id t1
  obtain ⟨a2, k2, rfl, _⟩ := id t2
  have bb := ((Below.refl _ w1).alloc (Nat.le_refl _) (.cells #[.string (ofL y.maj), .string (ofL y.min), .string (ofL y.pat), .slice a1 y.pre.length k1, .slice a2 y.bld.length k2] 33)).alloc (by simp) (.cells #[.int .i64 f.1, .int .i64 (f.2 : Int)] 25)
  have b2 := b1.trans (bb.mono b1.size)
  have hbx : Boxed ((w1.alloc (.cells #[.string (ofL y.maj), .string (ofL y.min), .string (ofL y.pat), .slice a1 y.pre.length k1, .slice a2 y.bld.length k2] 33)).alloc (.cells #[.int .i64 f.1, .int .i64 (f.2 : Int)] 25)) B 22 (.slice a l.length k) := (b2.block B HBX.out.lt).trans HBX.out
  have hc := hbx.cell
  have S2 := hide (AS.out _ _ (HV.out.below b2) ⟨_, _, rfl, t1.below bb, t2.below bb⟩)
  have HB2 := hide b2
  clear b1 bb b2 hbx t1 t2 AS PT
  go_wp2_with fail
  refine S2.out.mono ?_
  rintro e w3 ⟨rfl, b3⟩
  go_wp2_with fail
  go_ret
  exact ⟨rfl, HB2.out.trans (b3.mono HB2.out.size)⟩

end Go.Proofs.YtaflflelcdcanaaGreat

namespace Go.Proofs.YtaflflelcdcanaaGreat
set_option linter.unusedVariables false

/-- What is left of a set's parts: what is wrong, the place, the comparators. -/
def foldI : Int → List Comp → List Item → Int × Int × List Comp
  | a, cs, [] => (0, a, cs)
  | a, cs, x :: xs => if x.err ≠ 0 then (x.err, x.pos, cs) else foldI x.pos (cs ++ meanL x.f x.p) xs
/-- One set, from a place on. -/
def oneSet (l : List UInt8) (a : Nat) : Int × Int × List Comp := foldI (a : Int) [] (partsL l a)
/-- The sets from a place on, behind these: what is wrong, where, the sets. -/
def npGo (l : List UInt8) : Nat → Nat → List (List Comp) → Int × Int × List (List Comp)
  | 0, a, _ => (0, (a : Int), [])
  | n + 1, a, sets =>
    if (oneSet l a).1 ≠ 0 then ((oneSet l a).1, (oneSet l a).2.1, [])
    else if blk l (oneSet l a).2.1.toNat = l.length then (0, 0, sets ++ [(oneSet l a).2.2])
    else if (barsL l (blk l (oneSet l a).2.1.toNat) (sets.length + 1)).2 ≠ 0 then ((barsL l (blk l (oneSet l a).2.1.toNat) (sets.length + 1)).2, ((barsL l (blk l (oneSet l a).2.1.toNat) (sets.length + 1)).1 : Int), [])
    else npGo l n (barsL l (blk l (oneSet l a).2.1.toNat) (sets.length + 1)).1 (sets ++ [(oneSet l a).2.2])
/-- A range read. -/
def nParse (l : List UInt8) : Int × Int × List (List Comp) := if 256 < l.length then (12, 256, []) else npGo l 33 0 []

/-- Where the last of these parts ends. -/
def lastP (a : Int) : List Item → Int
  | [] => a
  | x :: xs => lastP x.pos xs
theorem foldI_cons {a : Int} {cs : List Comp} {x : Item} {xs : List Item} (h : x.err = 0) : foldI a cs (x :: xs) = foldI x.pos (cs ++ meanL x.f x.p) xs := by
  conv => lhs; unfold foldI
  rw [if_neg (by simp [h])]
theorem fold_split : ∀ (pre : List Item) (a : Int) (cs : List Comp) (xs : List Item), (∀ x ∈ pre, x.err = 0) →
    foldI a cs (pre ++ xs) = foldI (lastP a pre) (cs ++ pre.flatMap (fun x => meanL x.f x.p)) xs
  | [], a, cs, xs, _ => by rw [List.flatMap_nil, List.append_nil]; rfl
  | y :: ys, a, cs, xs, h => by
    rw [List.cons_append, foldI_cons (h y List.mem_cons_self), fold_split ys y.pos (cs ++ meanL y.f y.p) xs (fun x hx => h x (List.mem_cons_of_mem _ hx)), List.flatMap_cons, List.append_assoc]
    rfl

end Go.Proofs.YtaflflelcdcanaaGreat

namespace Go.Proofs.YtaflflelcdcanaaGreat
open Go.RowKit Go.Shelf
set_option linter.unusedVariables false

/-- What Parse leaves. -/
def NPost (R : Int × Int × List (List Comp)) (w : World) (e : Ending) (w' : World) : Prop :=
  ∃ v, e = .returned (.tuple #[v, .agg #[.int .i64 R.1, .int .i64 R.2.1]]) ∧ SetsAt w' v R.2.2 ∧ Below w.heap.size w w'
/-- Sets that are short. -/
def ShortL (l : List (List Comp)) : Prop := l.length ≤ 9000000000000000000 ∧ ∀ cs ∈ l, cs.length ≤ 9000000000000000000 ∧ ∀ c ∈ cs, ShortS c.2

set_option maxRecDepth 100000 in
set_option maxHeartbeats 4000000 in
theorem Pick_of (PA : ∀ (s : ByteArray) (w : World), Calls Tryz.prog 8 #[.string s] w (NPost (nParse s.data.toList) w)) (SH : ∀ l, ShortL (nParse l).2.2) (s : ByteArray) (v : Value) (ts : List (List UInt8)) (w : World) (hv : Txt w v ts) (hln : ts.length ≤ 9000000000000000000) :
    Calls Tryz.prog 19 #[.string s, v] w fun e w' => e = .returned (.tuple #[.string (ofL (latestL (takesL (nParse s.data.toList).2.2) ts).1), .bool (latestL (takesL (nParse s.data.toList).2.2) ts).2]) ∧ Below w.heap.size w w' := by
  have PS := hide (PA s w)
  have hsh := SH s.data.toList
  generalize nParse s.data.toList = R at *
  obtain ⟨re, ra, l⟩ := R
  dsimp only at *
  have WC := hide (fun B v1 t W hb hs => wantC_any l B v1 t W hb hs hsh.2 hsh.1)
  have HV := hide hv
  have CT := hide (fun s t W => CompareT_any Parse_any s t W)
  obtain ⟨av, kv, rfl, _⟩ := id hv
  clear hv hsh SH PA
  unfold NPost at PS
  go_enter Tryz.func19, Tryz.ntmps19
  go_wp2_with fail
  refine PS.out.mono ?_
  rintro e w1 ⟨v1, rfl, hS, b1⟩
  obtain ⟨a1, k1, rfl, _⟩ := id hS
  dsimp only at *
  have bb := ((Below.refl _ w1).alloc (Nat.le_refl _) (.cells #[.slice a1 l.length k1] 22)).alloc (by simp) (.cells #[.int .i64 re, .int .i64 ra] 25)
  have b2 := b1.trans (bb.mono b1.size)
  have hbx : Boxed ((w1.alloc (.cells #[.slice a1 l.length k1] 22)).alloc (.cells #[.int .i64 re, .int .i64 ra] 25)) w1.heap.size 22 (.slice a1 l.length k1) := (Below.heap_alloc _ _ _ (by simp)).trans (World.alloc_heap_new w1 _)
  have S2 := hS.below bb
  have LA := hide (Latest_any (takesL l) w1.heap.size ts (.slice av ts.length kv) _ (HV.out.below b2) hln (fun t W hW => WC.out w1.heap.size _ t W ((hW.block _ hbx.lt).trans hbx) (S2.below hW)) (fun s t W => CT.out s t W))
  have HB2 := hide b2
  clear b1 bb b2 hbx S2 hS WC CT PS HV
  obtain ⟨X, hX⟩ : ∃ X, latestL (takesL l) ts = X := ⟨_, rfl⟩
  rw [hX] at LA
  have HX := hide hX
  clear hX
  obtain ⟨T, ok⟩ := X
  dsimp only at LA
  go_wp2_with fail
  refine LA.out.mono ?_
  rintro e w3 ⟨rfl, b3⟩
  go_wp2_with fail
  go_ret2
  exact ⟨by rw [HX.out]; rfl, HB2.out.trans (b3.mono HB2.out.size)⟩

theorem latest_one (p : List UInt8 → Bool) (t : List UInt8) : (latestL p [t]).2 = p t := by
  show (latF p ([], false) t).2 = p t
  unfold latF
  cases h : p t <;> simp

set_option maxRecDepth 100000 in
set_option maxHeartbeats 4000000 in
theorem Match_of (PA : ∀ (s : ByteArray) (w : World), Calls Tryz.prog 8 #[.string s] w (NPost (nParse s.data.toList) w)) (SH : ∀ l, ShortL (nParse l).2.2) (s u : ByteArray) (w : World) :
    Calls Tryz.prog 21 #[.string s, .string u] w fun e w' => e = .returned (.bool (takesL (nParse s.data.toList).2.2 u.data.toList)) ∧ Below w.heap.size w w' := by
  have bb := (Below.refl _ w).alloc (Nat.le_refl _) (.cells #[.string u] 9)
  have ht : Txt (w.alloc (.cells #[.string u] 9)) (.slice (some ⟨w.heap.size, 0, none⟩) 1 1) [u.data.toList] := by
    refine ⟨_, 1, rfl, .inr ⟨w.heap.size, 0, rfl, by simp, fun i hi => ?_⟩⟩
    have : i = 0 := by simpa using hi
    subst this
    have h1 : (w.alloc (.cells #[.string u] 9)).cell? ⟨w.heap.size, 0, none⟩ = some (Value.string u) := cell_at 0 (World.alloc_heap_new w (.cells #[.string u] 9)) rfl
    have h2 : ofL u.data.toList = u := ofL_self u
    show (w.alloc (.cells #[.string u] 9)).cell? ⟨w.heap.size, 0 + 0, none⟩ = some (Value.string (ofL u.data.toList))
    rw [h2]
    exact h1
  have PK := Pick_of PA SH s _ [u.data.toList] _ ht (by simp)
  rw [latest_one] at PK
  have HP := hide PK
  have HB := hide bb
  clear PK ht bb PA SH
  generalize takesL (nParse s.data.toList).2.2 u.data.toList = X at *
  generalize (latestL (takesL (nParse s.data.toList).2.2) [u.data.toList]).1 = T at *
  go_enter Tryz.func21, Tryz.ntmps21
  go_wp2_with fail
  refine HP.out.mono ?_
  rintro e w3 ⟨rfl, b3⟩
  go_wp2_with fail
  go_ret
  exact ⟨by rfl, HB.out.trans (b3.mono HB.out.size)⟩

end Go.Proofs.YtaflflelcdcanaaGreat
