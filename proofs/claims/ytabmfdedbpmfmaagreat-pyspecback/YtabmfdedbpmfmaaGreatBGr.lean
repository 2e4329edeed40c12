/-
  Walks: rows joined. · Walks: a row repeated. · Walks: two rows of texts held against one another. · Walks: the order of two versions that are read; two versions in their boxes.
-/
import Derived.Test.YtabmfdedbpmfmaaGreatBGl
import Derived.Test.YtabmfdedbpmfmaaGreatBHq
import Derived.Test.YtabmfdedbpmfmaaGreatBHw
import Derived.Deep.OwnRows
import Derived.Deep.Cut
import Derived.Laws.IdiomCopy
import Derived.Test.YtabmfdedbpmfmaaGreatBGp
import Derived.Test.YtabmfdedbpmfmaaGreatBHf
import Derived.Test.YtabmfdedbpmfmaaGreatBPq
namespace Go.Proofs.YtabmfdedbpmfmaaGreat
open Go.RowKit Go.Shelf
set_option linter.unusedVariables false

def TxtP (W : World) (p : Addr) (ts : List (List UInt8)) : Prop := ∀ j u, (valT ts)[j]? = some u → W.cell? (p.add j) = some u
theorem txtP_below {W W' : World} {b off : Nat} {ts : List (List UInt8)} (h : TxtP W ⟨b, off, none⟩ ts) (hb : Below W.heap.size W W') (hlt : b < W.heap.size) : TxtP W' ⟨b, off, none⟩ ts := fun j u hj => by
  have e : (⟨b, off, none⟩ : Addr).add j = ⟨b, off + j, none⟩ := by unfold Addr.add; split <;> simp_all
  rw [e, hb.cell hlt, ← e]
  exact h j u hj
theorem wpList_append_at {ops : Array Oper} {rest : List Oper} {o : Oper} {a : Act} {w : World} {Q : Exit → Act → World → Prop} (hgd : o.guard = none) (s x : Operand) (ho : o.op = .call { callee := .builtin .append, args := #[s, x], argTypes := #[37, 37] })
    (base : Nat) (v : Value) (n : Nat) (xs : List Value) (hs : a.eval s = v) (hown : w.ownsRow base 9 1 v n xs) (p : Addr) (ts : List (List UInt8)) (c : Nat) (hx : a.eval x = .slice (some p) ts.length c) (hp : TxtP w p ts) (hn : n + ts.length ≤ 4194304) (hbase : base ≤ w.heap.size)
    (h : ∀ v' w', w'.ownsRow base 9 1 v' (n + ts.length) (xs ++ valT ts) → w.grownBy w' v.ownBlock → wpList Tryz.prog ops Q rest (a.put o.dst v') w') : wpList Tryz.prog ops Q (o :: rest) a w := by
  obtain ⟨i, hi, hz, hsz, hb⟩ := info_parts info9
  refine wpList_append_own _ hgd s x 37 ho base 9 i (.string ⟨#[]⟩) 1 16 Tryz.underlying37 hi hz hsz hb rfl (by decide) v n xs hs hown p ts.length c (valT ts) hx (valT_len ts) hp (valT_one ts) (by unfold maxLen; omega) (by omega) hbase fun v' w' h1 h2 _ => h v' w' h1 h2

set_option maxRecDepth 100000 in
set_option maxHeartbeats 4000000 in
theorem Concat_any (A B : List (List UInt8)) (ga oa ca gb ob cb b0 : Nat) (w : World) (hA : TxtP w ⟨ga, oa, none⟩ A) (hB : TxtP w ⟨gb, ob, none⟩ B) (h1 : ga < w.heap.size) (h2 : gb < w.heap.size)
    (c0 : w.cell? ⟨b0, 0, none⟩ = some (.slice (some ⟨ga, oa, none⟩) A.length ca)) (c1 : w.cell? ⟨b0, 1, none⟩ = some (.slice (some ⟨gb, ob, none⟩) B.length cb)) (hb0 : b0 < w.heap.size) (la : A.length ≤ 524288) (lb : B.length ≤ 524288) :
    Calls Tryz.prog 181 #[.slice (some ⟨b0, 0, none⟩) 2 2] w fun e w' => ∃ v, e = .returned v ∧ w'.ownsRow w.heap.size 9 1 v (A ++ B).length (valT (A ++ B)) ∧ Below w.heap.size w w' := by
  have HA := hide hA
  have HB := hide hB
  have GR := fun W => Grow_any (A.length + B.length) (by omega) W
  push_cast at GR
  replace GR := hide GR
  have hbd : (A.length : Int) + (B.length : Int) ≤ 1048576 := by omega
  have hbd0 : (0 : Int) ≤ (A.length : Int) + (B.length : Int) := by omega
  clear hA hB
  go_enter Tryz.func181, Tryz.ntmps181
  go_wp2_with fail
  go_loopw [3, 11] (fun x y wr => wr = w ∧ ((x = .int .i64 0 ∧ y = .int .i64 0) ∨ (x = .int .i64 (A.length : Int) ∧ y = .int .i64 1) ∨ (x = .int .i64 ((A.length : Int) + (B.length : Int)) ∧ y = .int .i64 2))) (fun _ y _ => 2 - (intOf y).toNat)
  case atStart => exact ⟨by trivial, .inl ⟨rfl, rfl⟩⟩
  case round =>
    obtain ⟨rfl, ⟨rfl, rfl⟩ | ⟨rfl, rfl⟩ | ⟨rfl, rfl⟩⟩ := hrel
    · go_wp2_with fail
      go_roundw
      case rel => exact ⟨by trivial, .inr (.inl ⟨by go_num, rfl⟩)⟩
      case measure => simp [intOf]
    · go_wp2_with fail
      go_roundw
      case rel => exact ⟨by trivial, .inr (.inr ⟨by go_num, rfl⟩)⟩
      case measure => simp [intOf]
    · go_wp2_with fail
      refine (GR.out _).mono ?_
      rintro e w1 ⟨v, rfl, ho, hb⟩
      have HO := hide ho
      clear ho
      go_wp2_with fail
      go_loopw [6, 27] (fun x y wr' => Below wr.heap.size wr wr' ∧ ((Hid (wr'.ownsRow wr.heap.size 9 1 x 0 []) ∧ y = .int .i64 0) ∨ (Hid (wr'.ownsRow wr.heap.size 9 1 x A.length (valT A)) ∧ y = .int .i64 1) ∨ (Hid (wr'.ownsRow wr.heap.size 9 1 x (A.length + B.length) (valT A ++ valT B)) ∧ y = .int .i64 2))) (fun _ y _ => 2 - (intOf y).toNat)
      case atStart => exact ⟨hb, .inl ⟨HO, rfl⟩⟩
      case round =>
        obtain ⟨hb2, hrel2⟩ := hrel
        have d0 := (hb2.cell (p := ⟨b0, 0, none⟩) hb0).trans c0
        have d1 := (hb2.cell (p := ⟨b0, 1, none⟩) hb0).trans c1
        have HA2 := hide (txtP_below HA.out hb2 h1)
        have HB2 := hide (txtP_below HB.out hb2 h2)
        obtain ⟨H, rfl⟩ | ⟨H, rfl⟩ | ⟨H, rfl⟩ := hrel2
        · go_wp2_with (at_builtin; refine wpList_append_at rfl _ _ rfl _ _ _ _ rfl H.out ⟨ga, oa, none⟩ A ca rfl HA2.out (by omega) hb2.size ?_; intro v' w5 ho' hg'; have HO5 := hide ho'; have HB5 := hide (hb2.trans (own_below H.out hb2.size hg')); clear ho' hg')
          go_roundw
          case rel => exact ⟨HB5.out, .inr (.inl ⟨hide (by simpa using HO5.out), rfl⟩)⟩
          case measure => simp [intOf]
        · go_wp2_with (at_builtin; refine wpList_append_at rfl _ _ rfl _ _ _ _ rfl H.out ⟨gb, ob, none⟩ B cb rfl HB2.out (by omega) hb2.size ?_; intro v' w5 ho' hg'; have HO5 := hide ho'; have HB5 := hide (hb2.trans (own_below H.out hb2.size hg')); clear ho' hg')
          go_roundw
          case rel => exact ⟨HB5.out, .inr (.inr ⟨HO5, rfl⟩)⟩
          case measure => simp [intOf]
        · go_wp2_with fail
          go_ret
          exact ⟨_, rfl, by rw [List.length_append]; simpa [valT] using H.out, hb2⟩

end Go.Proofs.YtabmfdedbpmfmaaGreat

namespace Go.Proofs.YtabmfdedbpmfmaaGreat
open Go.RowKit Go.Shelf
set_option linter.unusedVariables false

def zeroS : Value := .string ⟨#[48]⟩
def Noughts (W : World) (g n k : Nat) : Prop := ∃ cur : Array Value, W.heap[g]? = some (.cells cur 9 (0, 0)) ∧ cur.size = n ∧ ∀ j, j < k → cur[j]? = some zeroS
theorem fill_size : ∀ (vs : List Value) (cs : Array Value) (o : Nat), (fillA cs o vs).size = cs.size
  | [], _, _ => rfl
  | v :: vs, cs, o => (fill_size vs _ _).trans (by simp)
theorem noughts_more {W : World} {g n k m : Nat} (h : Noughts W g n k) (hm : k + m ≤ n) : Noughts (W.setCells g k (List.replicate m zeroS)) g n (k + m) := by
  obtain ⟨cur, h1, h2, h3⟩ := h
  refine ⟨fillA cur k (List.replicate m zeroS), ?_, ?_, ?_⟩
  · rw [setCells_put]
    exact putL_heap _ W g k _ _ h1
  · exact fill_size _ _ _ |>.trans h2
  · intro j hj
    rw [fill_get _ _ _ _ (by rw [List.length_replicate, h2]; exact hm)]
    rw [List.length_replicate]
    split
    · rw [List.getElem?_replicate, if_pos (by omega)]
    · exact h3 j (by omega)

theorem Noughts.cell {W : World} {g n k j : Nat} (h : Noughts W g n k) (hj : j < k) : W.cell? ⟨g, j, none⟩ = some zeroS := by
  obtain ⟨cur, h1, h2, h3⟩ := h
  exact cell_at j h1 (h3 j hj)
theorem Noughts.there {W : World} {g n k j : Nat} (h : Noughts W g n k) (hj : j < n) : (W.cell? ⟨g, j, none⟩).isSome = true ∧ W.frozen? ⟨g, j, none⟩ = false := by
  obtain ⟨cur, h1, h2, h3⟩ := h
  exact ⟨Option.isSome_iff_exists.2 ⟨_, cell_at j h1 (Array.getElem?_eq_getElem (by omega))⟩, one_free j h1⟩
theorem size9 : (Tryz.prog.info? 9).map (·.size) = some 1 := by kernel_rfl
theorem run_copyN (w : World) (ty : TypeId) (g n k dLen dCap : Nat) (ad : Addr) (sLen sCap m : Nat) (hm : m = min sLen dLen) (hN : Noughts w g n k) (hfit : k + m ≤ n) (hsrc : ∀ j, j < m → w.cell? (ad.add j) = some zeroS) :
    (Builtin.copy_ #[37, 37] ty #[.slice (some ⟨g, k, none⟩) dLen dCap, .slice (some ad) sLen sCap]).run Tryz.prog w = .ok (.int .i64 (m : Int)) (w.setCells g k (List.replicate m zeroS)) := by
  have := run_copy_cells (P := Tryz.prog) w 37 37 ty 9 g k dLen dCap ad sLen sCap (List.replicate m zeroS) Tryz.underlying37 size9 (by rw [List.length_replicate]; exact hm)
    (fun j v hj => by
      obtain ⟨h1, rfl⟩ := List.getElem?_eq_some_iff.1 hj
      rw [List.length_replicate] at h1
      rw [List.getElem_replicate]
      exact hsrc j h1)
    (fun j hj => (hN.there (by rw [List.length_replicate] at hj; omega)).1) (fun j hj => (hN.there (by rw [List.length_replicate] at hj; omega)).2)
    (fun v hv => by rw [List.eq_of_mem_replicate hv]; rfl)
  rw [List.length_replicate] at this
  exact this
theorem below_setCells {B g k : Nat} {w0 w : World} (vs : List Value) (h : Below B w0 w) (hg : B ≤ g) (hs : B ≤ w.heap.size) : Below B w0 (w.setCells g k vs) := by
  rw [setCells_put]
  exact h.trans ((putL_turn vs w g k).below hg hs)

set_option maxRecDepth 100000 in
set_option maxHeartbeats 4000000 in
theorem Repeat_any (b0 n : Nat) (w : World) (hn : n ≤ 524288) (c0 : w.cell? ⟨b0, 0, none⟩ = some zeroS) (hb0 : b0 < w.heap.size) :
    Calls Tryz.prog 182 #[.slice (some ⟨b0, 0, none⟩) 1 1, .int .i64 (n : Int)] w fun e w' => ∃ g, e = .returned (.slice (some ⟨g, 0, none⟩) n n) ∧ g < w'.heap.size ∧ TxtP w' ⟨g, 0, none⟩ (List.replicate n [48]) ∧ Below w.heap.size w w' := by
  have M := hide (fun W => Mul_any n (by omega) W)
  have h1 : ¬ ((n : Int) < 0) := by omega
  have h2 : ¬ ((9223372036854775807 : Int) < (n : Int)) := by omega
  have wn : IntKind.u64.wrap (n : Int) = (n : Int) := by rw [IntKind.wrap_u64]; omega
  have wi : IntKind.i64.wrap (n : Int) = (n : Int) := by rw [IntKind.wrap_i64]; omega
  obtain ⟨i, hi, hz, hsz, hb⟩ := info_parts info9
  go_enter Tryz.func182, Tryz.ntmps182
  go_wp2_with fail
  refine (M.out _).mono ?_
  rintro e w0 ⟨rfl, hw0⟩
  rw [hw0]
  clear hw0 w0
  go_upto_region 6 with fail
  refine wp_region_lit ?_
  go_step
  go_step
  go_step
  go_step
  go_step
  go_step
  refine wpList_make_row _ rfl (.tmp 29) (.tmp 29) 37 rfl 9 i (.string ⟨#[]⟩) Tryz.underlying37 hi hz hsz rfl .i64 .i64 n rfl rfl (by rw [hb]; omega) (by omega) ?_
  have hB := World.alloc_heap_new w (.cells (madeCells #[.string ⟨#[]⟩] n) 9)
  have hN0 : Noughts (w.alloc (.cells (madeCells #[.string ⟨#[]⟩] n) 9)) w.heap.size n 0 := ⟨_, hB, by simp [madeCells], fun j h => by omega⟩
  have hb0' : Below w.heap.size w (w.alloc (.cells (madeCells #[.string ⟨#[]⟩] n) 9)) := (Below.refl _ w).alloc (Nat.le_refl _) _
  have d0 : (w.alloc (.cells (madeCells #[.string ⟨#[]⟩] n) 9)).cell? ⟨b0, 0, none⟩ = some zeroS := (hb0'.cell hb0).trans c0
  have HN0 := hide hN0
  have HB0 := hide hb0'
  clear hB hN0 hb0'
  generalize w.alloc (.cells (madeCells #[.string ⟨#[]⟩] n) 9) = V at *
  by_cases hz0 : n = 0
  · subst hz0
    have hcp := run_copy_none (P := Tryz.prog) V 37 37 3 9 (some ⟨w.heap.size, 0, none⟩) (some ⟨b0, 0, none⟩) 0 0 1 1 Tryz.underlying37 size9 (by decide)
    unfold goInt at hcp
    go_wp2_with fail
    go_loopw [8] (fun x wr => x = .int .i64 0 ∧ wr = V) (fun x _ => 0)
    case atStart => exact ⟨rfl, rfl⟩
    case round =>
      obtain ⟨rfl, rfl⟩ := hrel
      go_wp2_with fail
      go_ret
      refine ⟨w.heap.size, rfl, ?_, ?_, HB0.out⟩
      · obtain ⟨cur, h5, _⟩ := HN0.out
        exact (Array.getElem?_eq_some_iff.1 h5).1
      · intro j u hj
        simp [valT] at hj
  · have hD : Hid (∀ j, j < 1 → V.cell? ((⟨b0, 0, none⟩ : Addr).add j) = some zeroS) := hide (fun j (hj : j < 1) => by
      obtain rfl : j = 0 := by omega
      exact d0)
    have hcp := run_copyN V 3 w.heap.size n 0 n n ⟨b0, 0, none⟩ 1 1 1 (by omega) HN0.out (by omega) hD.out
    have HN1 := hide (noughts_more HN0.out (m := 1) (by omega))
    have HB1 := hide (below_setCells (k := 0) (List.replicate 1 zeroS) HB0.out (Nat.le_refl _) HB0.out.size)
    generalize V.setCells w.heap.size 0 (List.replicate 1 zeroS) = V1 at *
    go_wp2_with fail
    clear hcp
    go_loopw [8] (fun x wr => ∃ k, 0 < k ∧ k ≤ n ∧ x = .int .i64 (k : Int) ∧ Hid (Noughts wr w.heap.size n k) ∧ Below w.heap.size w wr) (fun x _ => n - (intOf x).toNat)
    case atStart => exact ⟨1, by omega, by omega, rfl, HN1, HB1.out⟩
    case round =>
      obtain ⟨k, hk0, hkn, rfl, HN, hbk⟩ := hrel
      by_cases hlt : k < n
      · have hlt' : (k : Int) < (n : Int) := by omega
        have hcp := run_copyN wr.drew 3 w.heap.size n k (n - k) (n - k) ⟨w.heap.size, 0, none⟩ k n (min k (n - k)) rfl HN.out (by omega) (fun j hj => by
          have e : (⟨w.heap.size, 0, none⟩ : Addr).add j = ⟨w.heap.size, j, none⟩ := by unfold Addr.add; split <;> simp_all
          rw [e]
          exact HN.out.cell (by omega))
        have HN2 := hide (noughts_more (W := wr.drew) HN.out (m := min k (n - k)) (by omega))
        have HB2 := hide (below_setCells (w := wr.drew) (k := k) (List.replicate (min k (n - k)) zeroS) hbk.drew (Nat.le_refl _) hbk.size)
        generalize wr.drew.setCells w.heap.size k (List.replicate (min k (n - k)) zeroS) = W2 at *
        obtain ⟨m, hm⟩ : ∃ m, min k (n - k) = m := ⟨_, rfl⟩
        have hm0 : 0 < m := by omega
        have hmk : k + m ≤ n := by omega
        rw [hm] at hcp HN2
        have hsub : ((n : Int) - (k : Int)).toNat = n - k := by omega
        have hkn' : (k : Int) ≤ (n : Int) := by omega
        have hk0' : (0 : Int) ≤ (k : Int) := by omega
        go_wp2_with fail
        go_region
        all_goals
          go_wp2_with fail
          go_roundw
          case rel => exact ⟨k + m, by omega, hmk, by go_num, HN2, HB2.out⟩
          case measure => simp [intOf]; omega
      · have hlt' : ¬ (k : Int) < (n : Int) := by omega
        obtain rfl : k = n := by omega
        go_wp2_with fail
        go_ret
        refine ⟨w.heap.size, rfl, ?_, ?_, hbk⟩
        · obtain ⟨cur, h5, _⟩ := HN.out
          exact (Array.getElem?_eq_some_iff.1 h5).1
        · intro j u hj
          have e : (⟨w.heap.size, 0, none⟩ : Addr).add j = ⟨w.heap.size, j, none⟩ := by unfold Addr.add; split <;> simp_all
          rw [e]
          have hv : valT (List.replicate k [48]) = List.replicate k zeroS := by simp [valT, zeroS, ofL]
          rw [hv] at hj
          obtain ⟨h5, rfl⟩ := List.getElem?_eq_some_iff.1 hj
          rw [List.getElem_replicate]
          exact HN.out.cell (by simpa using h5)

end Go.Proofs.YtabmfdedbpmfmaaGreat

namespace Go.Proofs.YtabmfdedbpmfmaaGreat
open Go.RowKit Go.Shelf
set_option linter.unusedVariables false

theorem txt_at {W : World} {a : Option Addr} {n c : Nat} {ts : List (List UInt8)} (h : Txt W (.slice a n c) ts) (i : Nat) (hi : i < ts.length) : ∃ b off, a = some ⟨b, off, none⟩ ∧ W.cell? ⟨b, off + i, none⟩ = some (.string (ofL ts[i])) := by
  obtain ⟨b, off, h1, h2⟩ := h.some (by omega)
  exact ⟨b, off, h1, h2 i hi⟩
theorem ofL_nq (a b : List UInt8) : ((ofL a).toList == (ofL b).toList) = (a == b) := by rw [toL, toL, ofL_data, ofL_data]
set_option maxRecDepth 100000 in
set_option maxHeartbeats 4000000 in
theorem EqualS_any (a b : Option Addr) (c d : Nat) (xs ys : List (List UInt8)) (w : World) (hx : Txt w (.slice a xs.length c) xs) (hy : Txt w (.slice b ys.length d) ys) (lx : xs.length ≤ 1048576) (ly : ys.length ≤ 1048576) :
    Calls Tryz.prog 183 #[.slice a xs.length c, .slice b ys.length d] w fun e w' => e = .returned (.bool (xs == ys)) ∧ Below w.heap.size w w' := by
  obtain ⟨n, hn⟩ : ∃ n, xs.length = n := ⟨_, rfl⟩
  obtain ⟨m, hm⟩ : ∃ m, ys.length = m := ⟨_, rfl⟩
  rw [hn, hm]
  rw [hn] at hx lx
  rw [hm] at hy ly
  have HNM : Hid (xs.length = n ∧ ys.length = m) := ⟨hn, hm⟩
  obtain ⟨E, hE⟩ : ∃ E, (xs == ys) = E := ⟨_, rfl⟩
  rw [hE]
  have HE := hide hE
  have HX := hide hx
  have HY := hide hy
  clear hE hx hy hn hm
  by_cases hnm : n = m
  · subst hnm
    have hc0 : ((n : Int) != (n : Int)) = false := by simp
    go_enter Tryz.func183, Tryz.ntmps183
    go_wp2_with fail
    go_loopw [13] (fun y wr => ∃ i : Nat, i ≤ n ∧ y = .int .i64 i ∧ Hid (xs.take i = ys.take i) ∧ Below w.heap.size w wr ∧ Hid (Txt wr (.slice a n c) xs) ∧ Hid (Txt wr (.slice b n d) ys)) (fun y _ => n - (intOf y).toNat)
    case atStart => exact ⟨0, by omega, rfl, rfl, Below.refl _ _, HX, HY⟩
    case round =>
      obtain ⟨i, hi, rfl, HT, hb, HA, HB⟩ := hrel
      by_cases hlt : i < n
      · have hlt' : (i : Int) < (n : Int) := by omega
        have hix : i < xs.length := by rw [HNM.out.1]; exact hlt
        have hiy : i < ys.length := by rw [HNM.out.2]; exact hlt
        obtain ⟨b1, o1, h1, q1⟩ := txt_at HA.out i hix
        obtain ⟨b2, o2, h2, q2⟩ := txt_at HB.out i hiy
        subst h1 h2
        have hne := ofL_nq (xs[i]'hix) (ys[i]'hiy)
        have HGX : Hid (xs[i]? = some (xs[i]'hix)) := hide (List.getElem?_eq_getElem _)
        have HGY : Hid (ys[i]? = some (ys[i]'hiy)) := hide (List.getElem?_eq_getElem _)
        generalize xs[i]'hix = X at *
        generalize ys[i]'hiy = Y at *
        clear hix hiy
        by_cases he : X = Y
        · have hv : (X == Y) = true := by simp [he]
          rw [hv] at hne
          have HT2 : Hid (xs.take (i + 1) = ys.take (i + 1)) := hide (by
            rw [List.take_add_one, List.take_add_one, HT.out, HGX.out, HGY.out, he])
          clear hv he
          go_wp2_with fail
          go_quiet (fail)
          go_wp2_with fail
          go_roundw
          case rel => exact ⟨i + 1, by omega, by go_num, HT2, hb.trans (below_drewN _ _ _), hide (HA.out.below (below_drewN _ _ _)), hide (HB.out.below (below_drewN _ _ _))⟩
          case measure => simp [intOf]; omega
        · have hv : (X == Y) = false := by simp [he]
          rw [hv] at hne
          have HEF : Hid (E = false) := hide (by
            rw [← HE.out, beq_eq_false_iff_ne]
            intro e
            have h3 := HGX.out
            rw [e, HGY.out] at h3
            exact he (Option.some.inj h3).symm)
          clear hv he
          go_wp2_with fail
          go_quiet (fail)
          go_wp2_with fail
          go_ret
          exact ⟨by rw [HEF.out]; rfl, hb.trans (below_drewN _ _ _)⟩
      · have hlt' : ¬ (i : Int) < (n : Int) := by omega
        have HET : Hid (E = true) := hide (by
          rw [← HE.out, beq_iff_eq]
          have := HT.out
          rw [List.take_of_length_le (by rw [HNM.out.1]; omega), List.take_of_length_le (by rw [HNM.out.2]; omega)] at this
          exact this)
        go_wp2_with fail
        go_ret
        exact ⟨by rw [HET.out]; rfl, hb⟩
  · have hc0 : ((n : Int) != (m : Int)) = true := by simp; omega
    have HEF : Hid (E = false) := hide (by
      rw [← HE.out, beq_eq_false_iff_ne]
      intro e
      exact hnm (by rw [← HNM.out.1, ← HNM.out.2, e]))
    go_enter Tryz.func183, Tryz.ntmps183
    go_wp2_with fail
    go_ret
    exact ⟨by rw [HEF.out]; rfl, Below.refl _ _⟩

end Go.Proofs.YtabmfdedbpmfmaaGreat

namespace Go.Proofs.YtabmfdedbpmfmaaGreat
open Go.RowKit Go.Shelf
set_option linter.unusedVariables false

set_option maxRecDepth 100000 in
set_option maxHeartbeats 2000000 in
theorem Order_fit (x y : PepL) (r1 r2 q1 q2 : Option Addr) (c1 c2 d1 d2 : Nat) (w : World) (ra : Txt w (.slice r1 x.rel.length c1) x.rel) (rb : Txt w (.slice r2 y.rel.length c2) y.rel) (la : Txt w (.slice q1 x.loc.length d1) x.loc) (lb : Txt w (.slice q2 y.loc.length d2) y.loc) (sx : SmallP x) (sy : SmallP y) (fx : FitT x) (fy : FitT y) :
    Calls Tryz.prog 176 #[.agg #[.string (ofL x.ep), .slice r1 x.rel.length c1, .int .u8 x.c, .string (ofL x.n), .bool x.b, .string (ofL x.m), .bool x.d, .string (ofL x.k), .slice q1 x.loc.length d1], .agg #[.string (ofL y.ep), .slice r2 y.rel.length c2, .int .u8 y.c, .string (ofL y.n), .bool y.b, .string (ofL y.m), .bool y.d, .string (ofL y.k), .slice q2 y.loc.length d2]] w fun e w' => e = .returned (.int .i64 (ordP x y)) ∧ Below w.heap.size w w' := by
  have FX := fun w h1 h2 => Fit_true x r1 q1 c1 d1 w h1 h2 sx fx
  have FY := fun w h1 h2 => Fit_true y r2 q2 c2 d2 w h1 h2 sy fy
  have OR := fun va vb w (h1 : PepAt w va x) (h2 : PepAt w vb y) => order_any va vb x y w h1 h2 sx.short sy.short
  have S0 := OB.start ra rb la lb
  have FX := hide FX
  have FY := hide FY
  generalize ordP x y = OO at *
  have OR := hide OR
  clear ra rb la lb fx fy sx sy
  go_enter Tryz.func176, Tryz.ntmps176
  go_wp2_with fail
  generalize (w.alloc (.cells #[.string (ofL x.ep), .slice r1 x.rel.length c1, .int .u8 x.c, .string (ofL x.n), .bool x.b, .string (ofL x.m), .bool x.d, .string (ofL x.k), .slice q1 x.loc.length d1] 44)).alloc (.cells #[.string (ofL y.ep), .slice r2 y.rel.length c2, .int .u8 y.c, .string (ofL y.n), .bool y.b, .string (ofL y.m), .bool y.d, .string (ofL y.k), .slice q2 y.loc.length d2] 44) = W0 at *
  obtain ⟨s0, s1, s2, s3, s4, s5, s6, s7, s8, s9, s10, s11, s12, s13, s14, s15, s16, s17⟩ := S0.seen
  go_wp2_with fail
  refine (FX.out _ S0.ra S0.la).mono ?_
  rintro e W1 ⟨rfl, b1⟩
  have S1 := S0.next b1
  clear S0 s0 s1 s2 s3 s4 s5 s6 s7 s8 s9 s10 s11 s12 s13 s14 s15 s16 s17 b1
  obtain ⟨s0, s1, s2, s3, s4, s5, s6, s7, s8, s9, s10, s11, s12, s13, s14, s15, s16, s17⟩ := S1.seen
  try dsimp only
  go_wp2_with fail
  refine (FY.out _ S1.rb S1.lb).mono ?_
  rintro e W2 ⟨rfl, b2⟩
  have S2 := S1.next b2
  clear S1 s0 s1 s2 s3 s4 s5 s6 s7 s8 s9 s10 s11 s12 s13 s14 s15 s16 s17 b2
  obtain ⟨s0, s1, s2, s3, s4, s5, s6, s7, s8, s9, s10, s11, s12, s13, s14, s15, s16, s17⟩ := S2.seen
  try dsimp only
  go_wp2_with fail
  refine (OR.out _ _ _ ⟨_, _, rfl, S2.ra, S2.la⟩ ⟨_, _, rfl, S2.rb, S2.lb⟩).mono ?_
  rintro e W3 ⟨rfl, b3⟩
  have S3 := S2.next b3
  try dsimp only
  go_wp2_with fail
  go_ret
  exact ⟨rfl, S3.bel⟩


structure VB (w : World) (x y : PepL) (r1 r2 q1 q2 : Option Addr) (c1 c2 d1 d2 : Nat) (t u : ByteArray) (st su : Bool) (W : World) : Prop where
  ea : W.heap[w.heap.size]? = some (.cells #[.string (ofL x.ep), .slice r1 x.rel.length c1, .int .u8 x.c, .string (ofL x.n), .bool x.b, .string (ofL x.m), .bool x.d, .string (ofL x.k), .slice q1 x.loc.length d1, .string t, .bool st] 59 (0, 0))
  eb : W.heap[w.heap.size + 1]? = some (.cells #[.string (ofL y.ep), .slice r2 y.rel.length c2, .int .u8 y.c, .string (ofL y.n), .bool y.b, .string (ofL y.m), .bool y.d, .string (ofL y.k), .slice q2 y.loc.length d2, .string u, .bool su] 59 (0, 0))
  ra : Txt W (.slice r1 x.rel.length c1) x.rel
  rb : Txt W (.slice r2 y.rel.length c2) y.rel
  la : Txt W (.slice q1 x.loc.length d1) x.loc
  lb : Txt W (.slice q2 y.loc.length d2) y.loc
  bel : Below w.heap.size w W
theorem VB.next {w W W' : World} {x y : PepL} {r1 r2 q1 q2 : Option Addr} {c1 c2 d1 d2 : Nat} {t u : ByteArray} {st su : Bool} (h : VB w x y r1 r2 q1 q2 c1 c2 d1 d2 t u st su W) (hb : Below W.heap.size W W') : VB w x y r1 r2 q1 q2 c1 c2 d1 d2 t u st su W' :=
  ⟨(hb.block _ (Array.getElem?_eq_some_iff.1 h.ea).1).trans h.ea, (hb.block _ (Array.getElem?_eq_some_iff.1 h.eb).1).trans h.eb, h.ra.below hb, h.rb.below hb, h.la.below hb, h.lb.below hb, h.bel.trans (hb.mono h.bel.size)⟩
theorem VB.start {w : World} {x y : PepL} {r1 r2 q1 q2 : Option Addr} {c1 c2 d1 d2 : Nat} (ra : Txt w (.slice r1 x.rel.length c1) x.rel) (rb : Txt w (.slice r2 y.rel.length c2) y.rel) (la : Txt w (.slice q1 x.loc.length d1) x.loc) (lb : Txt w (.slice q2 y.loc.length d2) y.loc) (t u : ByteArray) (st su : Bool) : VB w x y r1 r2 q1 q2 c1 c2 d1 d2 t u st su ((w.alloc (.cells #[.string (ofL x.ep), .slice r1 x.rel.length c1, .int .u8 x.c, .string (ofL x.n), .bool x.b, .string (ofL x.m), .bool x.d, .string (ofL x.k), .slice q1 x.loc.length d1, .string t, .bool st] 59)).alloc (.cells #[.string (ofL y.ep), .slice r2 y.rel.length c2, .int .u8 y.c, .string (ofL y.n), .bool y.b, .string (ofL y.m), .bool y.d, .string (ofL y.k), .slice q2 y.loc.length d2, .string u, .bool su] 59)) := by
  obtain ⟨V, hV, h1, h2, h3, _⟩ := two_new w #[.string (ofL x.ep), .slice r1 x.rel.length c1, .int .u8 x.c, .string (ofL x.n), .bool x.b, .string (ofL x.m), .bool x.d, .string (ofL x.k), .slice q1 x.loc.length d1, .string t, .bool st] #[.string (ofL y.ep), .slice r2 y.rel.length c2, .int .u8 y.c, .string (ofL y.n), .bool y.b, .string (ofL y.m), .bool y.d, .string (ofL y.k), .slice q2 y.loc.length d2, .string u, .bool su] 59 59
  rw [hV]
  exact ⟨h1, h2, ra.below h3, rb.below h3, la.below h3, lb.below h3, h3⟩
set_option maxRecDepth 100000 in
set_option maxHeartbeats 4000000 in
theorem orderPublic_any (x y : PepL) (r1 r2 q1 q2 : Option Addr) (c1 c2 d1 d2 : Nat) (t u : ByteArray) (st su : Bool) (w : World) (ra : Txt w (.slice r1 x.rel.length c1) x.rel) (rb : Txt w (.slice r2 y.rel.length c2) y.rel) (la : Txt w (.slice q1 x.loc.length d1) x.loc) (lb : Txt w (.slice q2 y.loc.length d2) y.loc) (O : Int)
    (PU : ∀ W, Txt W (.slice r1 x.rel.length c1) x.rel → Txt W (.slice q1 x.loc.length d1) x.loc → Calls Tryz.prog 185 #[.agg #[.string (ofL x.ep), .slice r1 x.rel.length c1, .int .u8 x.c, .string (ofL x.n), .bool x.b, .string (ofL x.m), .bool x.d, .string (ofL x.k), .slice q1 x.loc.length d1]] W fun e W' => ∃ a k, e = .returned (.agg #[.string (ofL x.ep), .slice a x.rel.length k, .int .u8 x.c, .string (ofL x.n), .bool x.b, .string (ofL x.m), .bool x.d, .string (ofL x.k), .slice none 0 0]) ∧ Txt W' (.slice a x.rel.length k) x.rel ∧ Below W.heap.size W W')
    (OD : ∀ a k W, Txt W (.slice a x.rel.length k) x.rel → Txt W (.slice r2 y.rel.length c2) y.rel → Txt W (.slice q2 y.loc.length d2) y.loc → Calls Tryz.prog 176 #[.agg #[.string (ofL x.ep), .slice a x.rel.length k, .int .u8 x.c, .string (ofL x.n), .bool x.b, .string (ofL x.m), .bool x.d, .string (ofL x.k), .slice none 0 0], .agg #[.string (ofL y.ep), .slice r2 y.rel.length c2, .int .u8 y.c, .string (ofL y.n), .bool y.b, .string (ofL y.m), .bool y.d, .string (ofL y.k), .slice q2 y.loc.length d2]] W fun e W' => e = .returned (.int .i64 O) ∧ Below W.heap.size W W') :
    Calls Tryz.prog 175 #[.agg #[.string (ofL x.ep), .slice r1 x.rel.length c1, .int .u8 x.c, .string (ofL x.n), .bool x.b, .string (ofL x.m), .bool x.d, .string (ofL x.k), .slice q1 x.loc.length d1, .string t, .bool st], .agg #[.string (ofL y.ep), .slice r2 y.rel.length c2, .int .u8 y.c, .string (ofL y.n), .bool y.b, .string (ofL y.m), .bool y.d, .string (ofL y.k), .slice q2 y.loc.length d2, .string u, .bool su]] w fun e w' => e = .returned (.int .i64 O) ∧ Below w.heap.size w w' := by
  have S0 := VB.start ra rb la lb t u st su
  have PU := hide PU
  have OD := hide OD
  clear ra rb la lb
  go_enter Tryz.func175, Tryz.ntmps175
  go_wp2_with fail
  generalize (w.alloc _).alloc _ = W0 at *
  obtain ⟨s0, s1, s2, s3, s4, s5, s6, s7, s8, s9, s10, _⟩ := seen11v S0.ea
  obtain ⟨v0, v1, v2, v3, v4, v5, v6, v7, v8, v9, v10, _⟩ := seen11v S0.eb
  have D0 := S0.next (Below.refl _ _).drew
  go_region_held3 (fun w' => w'.cell? ⟨w.heap.size, 0, none⟩ = some (.string (ofL x.ep)) ∧ w'.cell? ⟨w.heap.size, 1, none⟩ = some (.slice r1 x.rel.length c1) ∧ w'.cell? ⟨w.heap.size, 2, none⟩ = some (.int .u8 x.c) ∧ w'.cell? ⟨w.heap.size, 3, none⟩ = some (.string (ofL x.n)) ∧ w'.cell? ⟨w.heap.size, 4, none⟩ = some (.bool x.b) ∧ w'.cell? ⟨w.heap.size, 5, none⟩ = some (.string (ofL x.m)) ∧ w'.cell? ⟨w.heap.size, 6, none⟩ = some (.bool x.d) ∧ w'.cell? ⟨w.heap.size, 7, none⟩ = some (.string (ofL x.k)) ∧ w'.cell? ⟨w.heap.size, 8, none⟩ = some (.slice q1 x.loc.length d1) ∧ w'.cell? ⟨w.heap.size + 1, 0, none⟩ = some (.string (ofL y.ep)) ∧ w'.cell? ⟨w.heap.size + 1, 1, none⟩ = some (.slice r2 y.rel.length c2) ∧ w'.cell? ⟨w.heap.size + 1, 2, none⟩ = some (.int .u8 y.c) ∧ w'.cell? ⟨w.heap.size + 1, 3, none⟩ = some (.string (ofL y.n)) ∧ w'.cell? ⟨w.heap.size + 1, 4, none⟩ = some (.bool y.b) ∧ w'.cell? ⟨w.heap.size + 1, 5, none⟩ = some (.string (ofL y.m)) ∧ w'.cell? ⟨w.heap.size + 1, 6, none⟩ = some (.bool y.d) ∧ w'.cell? ⟨w.heap.size + 1, 7, none⟩ = some (.string (ofL y.k)) ∧ w'.cell? ⟨w.heap.size + 1, 8, none⟩ = some (.slice q2 y.loc.length d2))
    (go_keep)
    ((first
      | (have hq := Q1; go_at_call 176; refine (OD.out _ _ _ tq Q1.rb Q1.lb).mono ?_; rintro e w6 ⟨rfl, b6⟩; have Q2 := Q1.next b6; obtain ⟨g0, g1, g2, g3, g4, g5, g6, g7, g8, g9, g10, _⟩ := seen11v Q2.ea; obtain ⟨h0, h1, h2, h3, h4, h5, h6, h7, h8, h9, h10, _⟩ := seen11v Q2.eb)
      | (go_at_call 185; refine (PU.out _ D0.ra D0.la).mono ?_; rintro e w5 ⟨a5, k5, rfl, tq, b5⟩; have Q1 := D0.next b5; obtain ⟨e0, e1, e2, e3, e4, e5, e6, e7, e8, e9, e10, _⟩ := seen11v Q1.ea; obtain ⟨f0, f1, f2, f3, f4, f5, f6, f7, f8, f9, f10, _⟩ := seen11v Q1.eb)
      | fail))
  go_wp2_with fail
  go_ret
  exact ⟨rfl, Q2.bel⟩

end Go.Proofs.YtabmfdedbpmfmaaGreat
