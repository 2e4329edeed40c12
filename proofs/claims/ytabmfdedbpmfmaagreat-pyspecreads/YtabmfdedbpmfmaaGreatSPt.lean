/-
  Walks: which parts are fit; strings.Join at a dot. · Walks: fit versions, their texts.
-/
import Derived.Shelf.Strings.OnBuilder
import Derived.Test.YtabmfdedbpmfmaaGreatProg
import Derived.Test.YtabmfdedbpmfmaaGreatSGc
namespace Go.Proofs.YtabmfdedbpmfmaaGreat
open Go.RowKit Go.Shelf
set_option linter.unusedVariables false

def trimB (l : List UInt8) : Bool := digB l && (trimL l == l)
theorem eqLs (a b : List UInt8) (x : Bool) (h : (a == b) = x) : ((ofL a).toList == (ofL b).toList) = x := by rw [toL, toL, ofL_data, ofL_data]; exact h
set_option maxHeartbeats 400000 in
theorem isTrimmed_any (l : List UInt8) (w : World) (hl : l.length ≤ 9223372036854775806) :
    Calls Tryz.prog 195 #[.string (ofL l)] w fun e w' => e = .returned (.bool (trimB l)) ∧ w' = w := by
  have D := fun w => isDigits_any (ofL l) w (by rw [ofL_size]; unfold maxLen; omega)
  have TR := fun w => Trim_any (ofL l) w (by rw [ofL_size]; unfold maxLen; omega)
  rw [ofL_data] at D TR
  cases hd : digB l
  · have HO : Hid (trimB l = false) := by show _ = _; unfold trimB; rw [hd]; rfl
    rw [hd] at D
    have D := hide D
    clear hd
    go_enter Tryz.func195, Tryz.ntmps195
    go_wp2_with fail
    refine (D.out _).mono ?_
    rintro e w' ⟨rfl, rfl⟩
    go_wp2_with fail
    go_ret
    exact ⟨ret_b HO.out.symm, rfl⟩
  · rw [hd] at D
    cases he : (trimL l == l)
    · have HO : Hid (trimB l = false) := by show _ = _; unfold trimB; rw [hd, he]; rfl
      have eb := eqLs _ _ _ he
      have D := hide D
      have TR := hide TR
      clear hd he
      go_enter Tryz.func195, Tryz.ntmps195
      go_wp2_with fail
      refine (D.out _).mono ?_
      rintro e w' ⟨rfl, rfl⟩
      go_wp2_with fail
      refine (TR.out _).mono ?_
      rintro e w' ⟨rfl, rfl⟩
      go_wp2_with fail
      go_ret
      exact ⟨ret_b HO.out.symm, rfl⟩
    · have HO : Hid (trimB l = true) := by show _ = _; unfold trimB; rw [hd, he]; rfl
      have eb := eqLs _ _ _ he
      have D := hide D
      have TR := hide TR
      clear hd he
      go_enter Tryz.func195, Tryz.ntmps195
      go_wp2_with fail
      refine (D.out _).mono ?_
      rintro e w' ⟨rfl, rfl⟩
      go_wp2_with fail
      refine (TR.out _).mono ?_
      rintro e w' ⟨rfl, rfl⟩
      go_wp2_with fail
      go_ret
      exact ⟨ret_b HO.out.symm, rfl⟩
def numB (l : List UInt8) (asked : Bool) : Bool := if asked then trimB l else l == []
set_option maxHeartbeats 400000 in
theorem fitsNumber_any (l : List UInt8) (b : Bool) (w : World) (hl : l.length ≤ 9223372036854775806) :
    Calls Tryz.prog 197 #[.string (ofL l), .bool b] w fun e w' => e = .returned (.bool (numB l b)) ∧ w' = w := by
  cases b
  · have HO : Hid ((ofL l).toList.isEmpty = numB l false) := by show _ = _; rw [toL, ofL_data]; cases l <;> rfl
    go_enter Tryz.func197, Tryz.ntmps197
    go_wp2_with fail
    go_ret
    exact ⟨ret_b HO.out, rfl⟩
  · have HO : Hid (numB l true = trimB l) := rfl
    have C := hide (fun w => isTrimmed_any l w hl)
    go_enter Tryz.func197, Tryz.ntmps197
    go_wp2_with fail
    refine (C.out _).mono ?_
    rintro e w' ⟨rfl, rfl⟩
    go_wp2_with fail
    go_ret
    exact ⟨ret_b HO.out.symm, rfl⟩
def locB (l : List UInt8) : Bool := !l.isEmpty && (runL 5 l == l.length) && (lowL l == l) && (plainL l == l)
set_option maxHeartbeats 1000000 in
theorem fitsLocal_any (l : List UInt8) (w : World) (hl : l.length ≤ 140737488351232) :
    Calls Tryz.prog 198 #[.string (ofL l)] w fun e w' => e = .returned (.bool (locB l)) ∧ Below w.heap.size w w' := by
  have q := ofL_size l
  have R := fun w => Run_any (ofL l) 0 5 w (by rw [ofL_size]; unfold maxLen; omega)
  have hR : runI (ofL l).data.toList 0 5 = (runL 5 l : Int) := by have := runI_in (ofL l) 0 5 (by omega); rw [ofL_data] at this ⊢; simpa using this
  rw [hR] at R
  have L := fun w => Lower_any (ofL l) w (by rw [ofL_size]; unfold maxLen; omega)
  have P := fun w => plain_any (ofL l) w (by rw [ofL_size]; unfold maxLen; omega)
  rw [ofL_data] at L P
  change ∀ w, Calls Tryz.prog 95 _ w fun e w' => e = .returned (.string (ofL (lowL l))) ∧ Below w.heap.size w w' at L
  have HB : Hid (locB l = (!l.isEmpty && (runL 5 l == l.length) && (lowL l == l) && (plainL l == l))) := rfl
  have R := hide R
  have L := hide L
  have P := hide P
  generalize locB l = B at *
  clear hR
  by_cases h0 : l = []
  · have e0 : ((ofL l).toList == []) = true := by rw [toL, ofL_data, h0]; rfl
    have HO : Hid (B = false) := by show _ = _; rw [HB.out, h0]; rfl
    clear h0
    go_enter Tryz.func198, Tryz.ntmps198
    go_wp2_with fail
    go_ret
    exact ⟨ret_b HO.out.symm, Below.refl _ _⟩
  · have e0 : ((ofL l).toList == []) = false := by rw [toL, ofL_data]; simpa using h0
    have h0' : l.isEmpty = false := by simpa using h0
    by_cases h1 : runL 5 l = l.length
    · have e1 : ((runL 5 l : Int) == (l.length : Int)) = true := by simp; omega
      cases h2 : (lowL l == l)
      · have e2 := eqLs _ _ _ h2
        have HO : Hid (B = false) := by show _ = _; rw [HB.out, h2]; simp
        clear h0 h1 h2 h0'
        go_enter Tryz.func198, Tryz.ntmps198
        go_wp2_with fail
        refine (R.out _).mono ?_
        rintro e w' ⟨rfl, rfl⟩
        go_wp2_with fail
        refine (L.out _).mono ?_
        rintro e w1 ⟨rfl, b1⟩
        go_wp2_with fail
        go_ret
        exact ⟨ret_b HO.out.symm, b1⟩
      · have e2 := eqLs _ _ _ h2
        have HO : Hid (B = (plainL l == l)) := by show _ = _; rw [HB.out, h2, h0', h1]; simp
        obtain ⟨z, hz⟩ : ∃ z, (plainL l == l) = z := ⟨_, rfl⟩
        have e3 := eqLs _ _ _ hz
        rw [hz] at HO
        clear h0 h1 h2 h0' hz
        go_enter Tryz.func198, Tryz.ntmps198
        go_wp2_with fail
        refine (R.out _).mono ?_
        rintro e w' ⟨rfl, rfl⟩
        go_wp2_with fail
        refine (L.out _).mono ?_
        rintro e w1 ⟨rfl, b1⟩
        go_wp2_with fail
        refine (P.out _).mono ?_
        rintro e w' ⟨rfl, rfl⟩
        go_wp2_with fail
        go_ret
        exact ⟨ret_b HO.out.symm, b1⟩
    · have e1 : ((runL 5 l : Int) == (l.length : Int)) = false := by simp; omega
      have HO : Hid (B = false) := by show _ = _; rw [HB.out]; simp [h1]
      clear h0 h1 h0'
      go_enter Tryz.func198, Tryz.ntmps198
      go_wp2_with fail
      refine (R.out _).mono ?_
      rintro e w' ⟨rfl, rfl⟩
      go_wp2_with fail
      go_ret
      exact ⟨ret_b HO.out.symm, Below.refl _ _⟩

set_option maxHeartbeats 400000 in
theorem not42_any (l : List UInt8) (B : Nat) (w : World) (hl : l.length ≤ 140737488351232) (hB : w.heap[B]? = some (.cells #[.func (.func 195) #[] #[]] 29 (0, 0))) :
    Calls Tryz.prog 203 #[.string (ofL l), .pointer (some ⟨B, 0, none⟩)] w fun e w' => e = .returned (.bool (!trimB l)) ∧ Below w.heap.size w w' := by
  have c0 := cell_at 0 hB rfl
  have C := hide (fun w => isTrimmed_any l w (by omega))
  go_enter Tryz.func203, Tryz.ntmps203
  go_wp2_with fail
  refine (C.out _).mono ?_
  rintro e w1 ⟨rfl, b1⟩
  go_wp2_with fail
  go_ret
  exact ⟨rfl, by first | exact Below.refl _ _ | (rw [b1]; exact Below.refl _ _)⟩

set_option maxHeartbeats 1000000 in
theorem index42_any (v : Value) (ts : List (List UInt8)) (B : Nat) (w : World) (hv : Txt w v ts) (hs : ts.length ≤ 1048576 ∧ ∀ t ∈ ts, t.length ≤ 1048576) (hB : w.heap[B]? = some (.cells #[.func (.func 195) #[] #[]] 29 (0, 0))) :
    Calls Tryz.prog 204 #[v, .func (.func 203) #[] #[.pointer (some ⟨B, 0, none⟩)]] w fun e w' => (∃ i : Int, e = .returned (.int .i64 i) ∧ decide (0 ≤ i) = !ts.all trimB) ∧ Below w.heap.size w w' := by
  obtain ⟨a1, c1, rfl, _⟩ := id hv
  have HV := hide hv
  have HS := hide hs
  have ls := hs.1
  have HB := hide hB
  clear hv hs hB
  go_enter Tryz.func204, Tryz.ntmps204
  go_wp2_with fail
  go_loopw [8] (fun i wr => ∃ k : Nat, k ≤ ts.length ∧ i = .int .i64 k ∧ Hid (ts.all trimB = (ts.drop k).all trimB) ∧ Below w.heap.size w wr) (fun i _ => ts.length - (intOf i).toNat)
  case atStart => exact ⟨0, by omega, rfl, by simp [Hid], Below.refl _ _⟩
  case round =>
    obtain ⟨k, hk, rfl, HR, bW⟩ := hrel
    have hv1 := HV.out.below bW
    by_cases h1 : k < ts.length
    · have hlt' : (k : Int) < (ts.length : Int) := by omega
      obtain ⟨b1, o1, rfl, hc1⟩ := hv1.some (by omega)
      have p1 := hc1 k h1
      clear hc1
      have C := fun w h => not42_any ts[k] B w (by have := HS.out.2 _ (List.getElem_mem h1); omega) h
      have hX : (ts.drop k).all trimB = (trimB ts[k] && (ts.drop (k + 1)).all trimB) := by rw [List.drop_eq_getElem_cons h1, List.all_cons]
      have hBB := (bW.block _ (Array.getElem?_eq_some_iff.1 HB.out).1).trans HB.out
      have C := C wr hBB
      generalize ts[k] = t at *
      generalize trimB t = b at *
      have HC := hide C
      have HX := hide hX
      clear C hX hv1 hBB
      cases b
      · go_wp2_with fail
        refine HC.out.mono ?_
        rintro e w2 ⟨rfl, b2⟩
        go_wp2_with fail
        go_ret
        exact ⟨⟨_, rfl, by rw [HR.out, HX.out]; simp⟩, bW.trans (b2.mono bW.size)⟩
      · go_wp2_with fail
        refine HC.out.mono ?_
        rintro e w2 ⟨rfl, b2⟩
        go_wp2_with fail
        go_roundw
        case rel => exact ⟨k + 1, by omega, by go_num, by rw [HR.out, HX.out]; simp [Hid], bW.trans (b2.mono bW.size)⟩
        case measure => simp [intOf]; omega
    · have hlt' : ¬ (k : Int) < (ts.length : Int) := by omega
      go_wp2_with fail
      go_ret
      exact ⟨⟨_, rfl, by rw [HR.out, List.drop_eq_nil_of_le (by omega)]; rfl⟩, bW⟩

set_option maxHeartbeats 1000000 in
theorem all42_any (v : Value) (ts : List (List UInt8)) (w : World) (hv : Txt w v ts) (hs : ts.length ≤ 1048576 ∧ ∀ t ∈ ts, t.length ≤ 1048576) :
    Calls Tryz.prog 196 #[v, .func (.func 195) #[] #[]] w fun e w' => e = .returned (.bool (ts.all trimB)) ∧ Below w.heap.size w w' := by
  obtain ⟨a1, c1, rfl, _⟩ := id hv
  have bb := (Below.refl _ w).alloc (Nat.le_refl _) (.cells #[.func (.func 195) #[] #[]] 29)
  have IX := index42_any _ ts w.heap.size _ (hv.below bb) hs (World.alloc_heap_new w _)
  have CF : Hid (Calls Tryz.prog 202 #[.slice a1 ts.length c1, .func (.func 203) #[] #[.pointer (some ⟨w.heap.size, 0, none⟩)]] (w.alloc (.cells #[.func (.func 195) #[] #[]] 29)) fun e w' => e = .returned (.bool (!ts.all trimB)) ∧ Below (w.alloc (.cells #[.func (.func 195) #[] #[]] 29)).heap.size (w.alloc (.cells #[.func (.func 195) #[] #[]] 29)) w') := by
    have IX := hide IX
    generalize ts.all trimB = b at *
    show Calls _ _ _ _ _
    go_enter Tryz.func202, Tryz.ntmps202
    go_wp2_with fail
    refine IX.out.mono ?_
    rintro e w1 ⟨⟨i, rfl, hi⟩, b1⟩
    go_wp2_with fail
    go_ret
    exact ⟨ret_b (by first | rfl | exact hi), b1⟩
  clear IX
  generalize ts.all trimB = b at *
  go_enter Tryz.func196, Tryz.ntmps196
  go_wp2_with fail
  refine CF.out.mono ?_
  rintro e w1 ⟨rfl, b1⟩
  go_wp2_with fail
  go_ret
  exact ⟨ret_b (by simp), bb.trans (b1.mono bb.size)⟩

set_option maxHeartbeats 400000 in
theorem not45_any (l : List UInt8) (B : Nat) (w : World) (hl : l.length ≤ 140737488351232) (hB : w.heap[B]? = some (.cells #[.func (.func 198) #[] #[]] 29 (0, 0))) :
    Calls Tryz.prog 203 #[.string (ofL l), .pointer (some ⟨B, 0, none⟩)] w fun e w' => e = .returned (.bool (!locB l)) ∧ Below w.heap.size w w' := by
  have c0 := cell_at 0 hB rfl
  have C := hide (fun w => fitsLocal_any l w (by omega))
  go_enter Tryz.func203, Tryz.ntmps203
  go_wp2_with fail
  refine (C.out _).mono ?_
  rintro e w1 ⟨rfl, b1⟩
  go_wp2_with fail
  go_ret
  exact ⟨rfl, b1⟩

set_option maxHeartbeats 1000000 in
theorem index45_any (v : Value) (ts : List (List UInt8)) (B : Nat) (w : World) (hv : Txt w v ts) (hs : ts.length ≤ 1048576 ∧ ∀ t ∈ ts, t.length ≤ 1048576) (hB : w.heap[B]? = some (.cells #[.func (.func 198) #[] #[]] 29 (0, 0))) :
    Calls Tryz.prog 204 #[v, .func (.func 203) #[] #[.pointer (some ⟨B, 0, none⟩)]] w fun e w' => (∃ i : Int, e = .returned (.int .i64 i) ∧ decide (0 ≤ i) = !ts.all locB) ∧ Below w.heap.size w w' := by
  obtain ⟨a1, c1, rfl, _⟩ := id hv
  have HV := hide hv
  have HS := hide hs
  have ls := hs.1
  have HB := hide hB
  clear hv hs hB
  go_enter Tryz.func204, Tryz.ntmps204
  go_wp2_with fail
  go_loopw [8] (fun i wr => ∃ k : Nat, k ≤ ts.length ∧ i = .int .i64 k ∧ Hid (ts.all locB = (ts.drop k).all locB) ∧ Below w.heap.size w wr) (fun i _ => ts.length - (intOf i).toNat)
  case atStart => exact ⟨0, by omega, rfl, by simp [Hid], Below.refl _ _⟩
  case round =>
    obtain ⟨k, hk, rfl, HR, bW⟩ := hrel
    have hv1 := HV.out.below bW
    by_cases h1 : k < ts.length
    · have hlt' : (k : Int) < (ts.length : Int) := by omega
      obtain ⟨b1, o1, rfl, hc1⟩ := hv1.some (by omega)
      have p1 := hc1 k h1
      clear hc1
      have C := fun w h => not45_any ts[k] B w (by have := HS.out.2 _ (List.getElem_mem h1); omega) h
      have hX : (ts.drop k).all locB = (locB ts[k] && (ts.drop (k + 1)).all locB) := by rw [List.drop_eq_getElem_cons h1, List.all_cons]
      have hBB := (bW.block _ (Array.getElem?_eq_some_iff.1 HB.out).1).trans HB.out
      have C := C wr hBB
      generalize ts[k] = t at *
      generalize locB t = b at *
      have HC := hide C
      have HX := hide hX
      clear C hX hv1 hBB
      cases b
      · go_wp2_with fail
        refine HC.out.mono ?_
        rintro e w2 ⟨rfl, b2⟩
        go_wp2_with fail
        go_ret
        exact ⟨⟨_, rfl, by rw [HR.out, HX.out]; simp⟩, bW.trans (b2.mono bW.size)⟩
      · go_wp2_with fail
        refine HC.out.mono ?_
        rintro e w2 ⟨rfl, b2⟩
        go_wp2_with fail
        go_roundw
        case rel => exact ⟨k + 1, by omega, by go_num, by rw [HR.out, HX.out]; simp [Hid], bW.trans (b2.mono bW.size)⟩
        case measure => simp [intOf]; omega
    · have hlt' : ¬ (k : Int) < (ts.length : Int) := by omega
      go_wp2_with fail
      go_ret
      exact ⟨⟨_, rfl, by rw [HR.out, List.drop_eq_nil_of_le (by omega)]; rfl⟩, bW⟩

set_option maxHeartbeats 1000000 in
theorem all45_any (v : Value) (ts : List (List UInt8)) (w : World) (hv : Txt w v ts) (hs : ts.length ≤ 1048576 ∧ ∀ t ∈ ts, t.length ≤ 1048576) :
    Calls Tryz.prog 196 #[v, .func (.func 198) #[] #[]] w fun e w' => e = .returned (.bool (ts.all locB)) ∧ Below w.heap.size w w' := by
  obtain ⟨a1, c1, rfl, _⟩ := id hv
  have bb := (Below.refl _ w).alloc (Nat.le_refl _) (.cells #[.func (.func 198) #[] #[]] 29)
  have IX := index45_any _ ts w.heap.size _ (hv.below bb) hs (World.alloc_heap_new w _)
  have CF : Hid (Calls Tryz.prog 202 #[.slice a1 ts.length c1, .func (.func 203) #[] #[.pointer (some ⟨w.heap.size, 0, none⟩)]] (w.alloc (.cells #[.func (.func 198) #[] #[]] 29)) fun e w' => e = .returned (.bool (!ts.all locB)) ∧ Below (w.alloc (.cells #[.func (.func 198) #[] #[]] 29)).heap.size (w.alloc (.cells #[.func (.func 198) #[] #[]] 29)) w') := by
    have IX := hide IX
    generalize ts.all locB = b at *
    show Calls _ _ _ _ _
    go_enter Tryz.func202, Tryz.ntmps202
    go_wp2_with fail
    refine IX.out.mono ?_
    rintro e w1 ⟨⟨i, rfl, hi⟩, b1⟩
    go_wp2_with fail
    go_ret
    exact ⟨ret_b (by first | rfl | exact hi), b1⟩
  clear IX
  generalize ts.all locB = b at *
  go_enter Tryz.func196, Tryz.ntmps196
  go_wp2_with fail
  refine CF.out.mono ?_
  rintro e w1 ⟨rfl, b1⟩
  go_wp2_with fail
  go_ret
  exact ⟨ret_b (by simp), bb.trans (b1.mono bb.size)⟩


end Go.Proofs.YtabmfdedbpmfmaaGreat

namespace Go.Proofs.YtabmfdedbpmfmaaGreat
open Go.RowKit Go.Shelf
set_option linter.unusedVariables false

structure TB (w : World) (x : PepL) (r1 q1 : Option Addr) (c1 d1 : Nat) (W : World) : Prop where
  bel : Below w.heap.size w W
  ea : W.heap[w.heap.size]? = some (.cells #[.string (ofL x.ep), .slice r1 x.rel.length c1, .int .u8 x.c, .string (ofL x.n), .bool x.b, .string (ofL x.m), .bool x.d, .string (ofL x.k), .slice q1 x.loc.length d1] 44 (0, 0))
  rr : Txt W (.slice r1 x.rel.length c1) x.rel
  ll : Txt W (.slice q1 x.loc.length d1) x.loc
theorem TB.next {w W W' : World} {x : PepL} {r1 q1 : Option Addr} {c1 d1 : Nat} (h : TB w x r1 q1 c1 d1 W) (hb : Below W.heap.size W W') : TB w x r1 q1 c1 d1 W' :=
  ⟨h.bel.trans (hb.mono h.bel.size), (hb.block _ (Array.getElem?_eq_some_iff.1 h.ea).1).trans h.ea, h.rr.below hb, h.ll.below hb⟩
theorem TB.seen {w W : World} {x : PepL} {r1 q1 : Option Addr} {c1 d1 : Nat} (h : TB w x r1 q1 c1 d1 W) : W.cell? ⟨w.heap.size, 0, none⟩ = some (.string (ofL x.ep)) ∧ W.cell? ⟨w.heap.size, 1, none⟩ = some (.slice r1 x.rel.length c1) ∧ W.cell? ⟨w.heap.size, 2, none⟩ = some (.int .u8 x.c) ∧ W.cell? ⟨w.heap.size, 3, none⟩ = some (.string (ofL x.n)) ∧ W.cell? ⟨w.heap.size, 4, none⟩ = some (.bool x.b) ∧ W.cell? ⟨w.heap.size, 5, none⟩ = some (.string (ofL x.m)) ∧ W.cell? ⟨w.heap.size, 6, none⟩ = some (.bool x.d) ∧ W.cell? ⟨w.heap.size, 7, none⟩ = some (.string (ofL x.k)) ∧ W.cell? ⟨w.heap.size, 8, none⟩ = some (.slice q1 x.loc.length d1) :=
  ⟨cell_at 0 h.ea rfl, cell_at 1 h.ea rfl, cell_at 2 h.ea rfl, cell_at 3 h.ea rfl, cell_at 4 h.ea rfl, cell_at 5 h.ea rfl, cell_at 6 h.ea rfl, cell_at 7 h.ea rfl, cell_at 8 h.ea rfl⟩
theorem TB.start {w : World} {x : PepL} {r1 q1 : Option Addr} {c1 d1 : Nat} (rr : Txt w (.slice r1 x.rel.length c1) x.rel) (ll : Txt w (.slice q1 x.loc.length d1) x.loc) : TB w x r1 q1 c1 d1 (w.alloc (.cells #[.string (ofL x.ep), .slice r1 x.rel.length c1, .int .u8 x.c, .string (ofL x.n), .bool x.b, .string (ofL x.m), .bool x.d, .string (ofL x.k), .slice q1 x.loc.length d1] 44)) := by
  have bb : Below w.heap.size w (w.alloc (.cells #[.string (ofL x.ep), .slice r1 x.rel.length c1, .int .u8 x.c, .string (ofL x.n), .bool x.b, .string (ofL x.m), .bool x.d, .string (ofL x.k), .slice q1 x.loc.length d1] 44)) := (Below.refl _ w).alloc (Nat.le_refl _) _
  exact ⟨bb, World.alloc_heap_new w _, rr.below bb, ll.below bb⟩

structure FitT (x : PepL) : Prop where
  f1 : trimB x.ep = true
  f2 : x.rel ≠ []
  f3 : x.rel.all trimB = true
  f4 : x.c = 0 ∨ x.c = 97 ∨ x.c = 98 ∨ x.c = 114
  f5 : numB x.n (x.c != 0) = true
  f6 : numB x.m x.b = true
  f7 : numB x.k x.d = true
  f8 : x.loc.all locB = true

set_option maxRecDepth 100000 in
set_option maxHeartbeats 2000000 in
theorem Fit_0 (x : PepL) (r1 q1 : Option Addr) (c1 d1 : Nat) (w : World) (rr : Txt w (.slice r1 x.rel.length c1) x.rel) (ll : Txt w (.slice q1 x.loc.length d1) x.loc) (hx : SmallP x) (hf : FitT x) (hc : x.c = 0) :
    Calls Tryz.prog 186 #[.agg #[.string (ofL x.ep), .slice r1 x.rel.length c1, .int .u8 x.c, .string (ofL x.n), .bool x.b, .string (ofL x.m), .bool x.d, .string (ofL x.k), .slice q1 x.loc.length d1]] w fun e w' => e = .returned (.bool true) ∧ Below w.heap.size w w' := by
  have C1 := fun w => isTrimmed_any x.ep w (by have := hx.e; omega)
  rw [hf.f1] at C1
  have C2 := fun w h => all42_any (.slice r1 x.rel.length c1) x.rel w h hx.r
  rw [hf.f3] at C2
  have C3 := fun w => fitsNumber_any x.n false w (by have := hx.n; omega)
  have f5 := hf.f5
  rw [hc, show ((0 : Int) != 0) = false from rfl] at f5
  rw [f5] at C3
  have C4 := fun w => fitsNumber_any x.m x.b w (by have := hx.m; omega)
  rw [hf.f6] at C4
  have C5 := fun w => fitsNumber_any x.k x.d w (by have := hx.k; omega)
  rw [hf.f7] at C5
  have C6 := fun w h => all45_any (.slice q1 x.loc.length d1) x.loc w h hx.l
  rw [hf.f8] at C6
  have S0 := TB.start rr ll
  have hp : 0 < x.rel.length := List.length_pos_iff.2 hf.f2
  have hp' : (0 : Int) < (x.rel.length : Int) := by omega
  have C1 := hide C1
  have C2 := hide C2
  have C3 := hide C3
  have C4 := hide C4
  have C5 := hide C5
  have C6 := hide C6
  have HC := hide hc
  clear hf rr ll f5 hc
  obtain ⟨s0, s1, s2, s3, s4, s5, s6, s7, s8⟩ := S0.seen
  have sb := S0.bel
  go_enter Tryz.func186, Tryz.ntmps186
  go_wp2_with fail
  generalize hW0 : w.alloc (.cells #[.string (ofL x.ep), .slice r1 x.rel.length c1, .int .u8 x.c, .string (ofL x.n), .bool x.b, .string (ofL x.m), .bool x.d, .string (ofL x.k), .slice q1 x.loc.length d1] 44) = W0 at *
  refine (C1.out _).mono ?_
  rintro e w' ⟨rfl, hw'⟩
  rw [hw']
  clear hw' w'
  go_wp2_with fail
  refine (C2.out _ S0.rr).mono ?_
  rintro e w2 ⟨rfl, b2⟩
  have S2 := S0.next b2
  obtain ⟨t0, t1, t2, t3, t4, t5, t6, t7, t8⟩ := S2.seen
  rw [HC.out] at t2
  go_wp2_with fail
  refine (C3.out _).mono ?_
  rintro e w' ⟨rfl, hw'⟩
  rw [hw']
  clear hw' w'
  go_wp2_with fail
  refine (C4.out _).mono ?_
  rintro e w' ⟨rfl, hw'⟩
  rw [hw']
  clear hw' w'
  go_wp2_with fail
  refine (C5.out _).mono ?_
  rintro e w' ⟨rfl, hw'⟩
  rw [hw']
  clear hw' w'
  go_wp2_with fail
  refine (C6.out _ S2.ll).mono ?_
  rintro e w3 ⟨rfl, b3⟩
  go_wp2_with fail
  go_ret
  exact ⟨rfl, S2.bel.trans (b3.mono S2.bel.size)⟩

set_option maxRecDepth 100000 in
set_option maxHeartbeats 2000000 in
theorem Fit_97 (x : PepL) (r1 q1 : Option Addr) (c1 d1 : Nat) (w : World) (rr : Txt w (.slice r1 x.rel.length c1) x.rel) (ll : Txt w (.slice q1 x.loc.length d1) x.loc) (hx : SmallP x) (hf : FitT x) (hc : x.c = 97) :
    Calls Tryz.prog 186 #[.agg #[.string (ofL x.ep), .slice r1 x.rel.length c1, .int .u8 x.c, .string (ofL x.n), .bool x.b, .string (ofL x.m), .bool x.d, .string (ofL x.k), .slice q1 x.loc.length d1]] w fun e w' => e = .returned (.bool true) ∧ Below w.heap.size w w' := by
  have C1 := fun w => isTrimmed_any x.ep w (by have := hx.e; omega)
  rw [hf.f1] at C1
  have C2 := fun w h => all42_any (.slice r1 x.rel.length c1) x.rel w h hx.r
  rw [hf.f3] at C2
  have C3 := fun w => fitsNumber_any x.n true w (by have := hx.n; omega)
  have f5 := hf.f5
  rw [hc, show ((97 : Int) != 0) = true from rfl] at f5
  rw [f5] at C3
  have C4 := fun w => fitsNumber_any x.m x.b w (by have := hx.m; omega)
  rw [hf.f6] at C4
  have C5 := fun w => fitsNumber_any x.k x.d w (by have := hx.k; omega)
  rw [hf.f7] at C5
  have C6 := fun w h => all45_any (.slice q1 x.loc.length d1) x.loc w h hx.l
  rw [hf.f8] at C6
  have S0 := TB.start rr ll
  have hp : 0 < x.rel.length := List.length_pos_iff.2 hf.f2
  have hp' : (0 : Int) < (x.rel.length : Int) := by omega
  have C1 := hide C1
  have C2 := hide C2
  have C3 := hide C3
  have C4 := hide C4
  have C5 := hide C5
  have C6 := hide C6
  have HC := hide hc
  clear hf rr ll f5 hc
  obtain ⟨s0, s1, s2, s3, s4, s5, s6, s7, s8⟩ := S0.seen
  have sb := S0.bel
  go_enter Tryz.func186, Tryz.ntmps186
  go_wp2_with fail
  generalize hW0 : w.alloc (.cells #[.string (ofL x.ep), .slice r1 x.rel.length c1, .int .u8 x.c, .string (ofL x.n), .bool x.b, .string (ofL x.m), .bool x.d, .string (ofL x.k), .slice q1 x.loc.length d1] 44) = W0 at *
  refine (C1.out _).mono ?_
  rintro e w' ⟨rfl, hw'⟩
  rw [hw']
  clear hw' w'
  go_wp2_with fail
  refine (C2.out _ S0.rr).mono ?_
  rintro e w2 ⟨rfl, b2⟩
  have S2 := S0.next b2
  obtain ⟨t0, t1, t2, t3, t4, t5, t6, t7, t8⟩ := S2.seen
  rw [HC.out] at t2
  go_wp2_with fail
  refine (C3.out _).mono ?_
  rintro e w' ⟨rfl, hw'⟩
  rw [hw']
  clear hw' w'
  go_wp2_with fail
  refine (C4.out _).mono ?_
  rintro e w' ⟨rfl, hw'⟩
  rw [hw']
  clear hw' w'
  go_wp2_with fail
  refine (C5.out _).mono ?_
  rintro e w' ⟨rfl, hw'⟩
  rw [hw']
  clear hw' w'
  go_wp2_with fail
  refine (C6.out _ S2.ll).mono ?_
  rintro e w3 ⟨rfl, b3⟩
  go_wp2_with fail
  go_ret
  exact ⟨rfl, S2.bel.trans (b3.mono S2.bel.size)⟩

set_option maxRecDepth 100000 in
set_option maxHeartbeats 2000000 in
theorem Fit_98 (x : PepL) (r1 q1 : Option Addr) (c1 d1 : Nat) (w : World) (rr : Txt w (.slice r1 x.rel.length c1) x.rel) (ll : Txt w (.slice q1 x.loc.length d1) x.loc) (hx : SmallP x) (hf : FitT x) (hc : x.c = 98) :
    Calls Tryz.prog 186 #[.agg #[.string (ofL x.ep), .slice r1 x.rel.length c1, .int .u8 x.c, .string (ofL x.n), .bool x.b, .string (ofL x.m), .bool x.d, .string (ofL x.k), .slice q1 x.loc.length d1]] w fun e w' => e = .returned (.bool true) ∧ Below w.heap.size w w' := by
  have C1 := fun w => isTrimmed_any x.ep w (by have := hx.e; omega)
  rw [hf.f1] at C1
  have C2 := fun w h => all42_any (.slice r1 x.rel.length c1) x.rel w h hx.r
  rw [hf.f3] at C2
  have C3 := fun w => fitsNumber_any x.n true w (by have := hx.n; omega)
  have f5 := hf.f5
  rw [hc, show ((98 : Int) != 0) = true from rfl] at f5
  rw [f5] at C3
  have C4 := fun w => fitsNumber_any x.m x.b w (by have := hx.m; omega)
  rw [hf.f6] at C4
  have C5 := fun w => fitsNumber_any x.k x.d w (by have := hx.k; omega)
  rw [hf.f7] at C5
  have C6 := fun w h => all45_any (.slice q1 x.loc.length d1) x.loc w h hx.l
  rw [hf.f8] at C6
  have S0 := TB.start rr ll
  have hp : 0 < x.rel.length := List.length_pos_iff.2 hf.f2
  have hp' : (0 : Int) < (x.rel.length : Int) := by omega
  have C1 := hide C1
  have C2 := hide C2
  have C3 := hide C3
  have C4 := hide C4
  have C5 := hide C5
  have C6 := hide C6
  have HC := hide hc
  clear hf rr ll f5 hc
  obtain ⟨s0, s1, s2, s3, s4, s5, s6, s7, s8⟩ := S0.seen
  have sb := S0.bel
  go_enter Tryz.func186, Tryz.ntmps186
  go_wp2_with fail
  generalize hW0 : w.alloc (.cells #[.string (ofL x.ep), .slice r1 x.rel.length c1, .int .u8 x.c, .string (ofL x.n), .bool x.b, .string (ofL x.m), .bool x.d, .string (ofL x.k), .slice q1 x.loc.length d1] 44) = W0 at *
  refine (C1.out _).mono ?_
  rintro e w' ⟨rfl, hw'⟩
  rw [hw']
  clear hw' w'
  go_wp2_with fail
  refine (C2.out _ S0.rr).mono ?_
  rintro e w2 ⟨rfl, b2⟩
  have S2 := S0.next b2
  obtain ⟨t0, t1, t2, t3, t4, t5, t6, t7, t8⟩ := S2.seen
  rw [HC.out] at t2
  go_wp2_with fail
  refine (C3.out _).mono ?_
  rintro e w' ⟨rfl, hw'⟩
  rw [hw']
  clear hw' w'
  go_wp2_with fail
  refine (C4.out _).mono ?_
  rintro e w' ⟨rfl, hw'⟩
  rw [hw']
  clear hw' w'
  go_wp2_with fail
  refine (C5.out _).mono ?_
  rintro e w' ⟨rfl, hw'⟩
  rw [hw']
  clear hw' w'
  go_wp2_with fail
  refine (C6.out _ S2.ll).mono ?_
  rintro e w3 ⟨rfl, b3⟩
  go_wp2_with fail
  go_ret
  exact ⟨rfl, S2.bel.trans (b3.mono S2.bel.size)⟩

set_option maxRecDepth 100000 in
set_option maxHeartbeats 2000000 in
theorem Fit_114 (x : PepL) (r1 q1 : Option Addr) (c1 d1 : Nat) (w : World) (rr : Txt w (.slice r1 x.rel.length c1) x.rel) (ll : Txt w (.slice q1 x.loc.length d1) x.loc) (hx : SmallP x) (hf : FitT x) (hc : x.c = 114) :
    Calls Tryz.prog 186 #[.agg #[.string (ofL x.ep), .slice r1 x.rel.length c1, .int .u8 x.c, .string (ofL x.n), .bool x.b, .string (ofL x.m), .bool x.d, .string (ofL x.k), .slice q1 x.loc.length d1]] w fun e w' => e = .returned (.bool true) ∧ Below w.heap.size w w' := by
  have C1 := fun w => isTrimmed_any x.ep w (by have := hx.e; omega)
  rw [hf.f1] at C1
  have C2 := fun w h => all42_any (.slice r1 x.rel.length c1) x.rel w h hx.r
  rw [hf.f3] at C2
  have C3 := fun w => fitsNumber_any x.n true w (by have := hx.n; omega)
  have f5 := hf.f5
  rw [hc, show ((114 : Int) != 0) = true from rfl] at f5
  rw [f5] at C3
  have C4 := fun w => fitsNumber_any x.m x.b w (by have := hx.m; omega)
  rw [hf.f6] at C4
  have C5 := fun w => fitsNumber_any x.k x.d w (by have := hx.k; omega)
  rw [hf.f7] at C5
  have C6 := fun w h => all45_any (.slice q1 x.loc.length d1) x.loc w h hx.l
  rw [hf.f8] at C6
  have S0 := TB.start rr ll
  have hp : 0 < x.rel.length := List.length_pos_iff.2 hf.f2
  have hp' : (0 : Int) < (x.rel.length : Int) := by omega
  have C1 := hide C1
  have C2 := hide C2
  have C3 := hide C3
  have C4 := hide C4
  have C5 := hide C5
  have C6 := hide C6
  have HC := hide hc
  clear hf rr ll f5 hc
  obtain ⟨s0, s1, s2, s3, s4, s5, s6, s7, s8⟩ := S0.seen
  have sb := S0.bel
  go_enter Tryz.func186, Tryz.ntmps186
  go_wp2_with fail
  generalize hW0 : w.alloc (.cells #[.string (ofL x.ep), .slice r1 x.rel.length c1, .int .u8 x.c, .string (ofL x.n), .bool x.b, .string (ofL x.m), .bool x.d, .string (ofL x.k), .slice q1 x.loc.length d1] 44) = W0 at *
  refine (C1.out _).mono ?_
  rintro e w' ⟨rfl, hw'⟩
  rw [hw']
  clear hw' w'
  go_wp2_with fail
  refine (C2.out _ S0.rr).mono ?_
  rintro e w2 ⟨rfl, b2⟩
  have S2 := S0.next b2
  obtain ⟨t0, t1, t2, t3, t4, t5, t6, t7, t8⟩ := S2.seen
  rw [HC.out] at t2
  go_wp2_with fail
  refine (C3.out _).mono ?_
  rintro e w' ⟨rfl, hw'⟩
  rw [hw']
  clear hw' w'
  go_wp2_with fail
  refine (C4.out _).mono ?_
  rintro e w' ⟨rfl, hw'⟩
  rw [hw']
  clear hw' w'
  go_wp2_with fail
  refine (C5.out _).mono ?_
  rintro e w' ⟨rfl, hw'⟩
  rw [hw']
  clear hw' w'
  go_wp2_with fail
  refine (C6.out _ S2.ll).mono ?_
  rintro e w3 ⟨rfl, b3⟩
  go_wp2_with fail
  go_ret
  exact ⟨rfl, S2.bel.trans (b3.mono S2.bel.size)⟩

theorem Fit_true (x : PepL) (r1 q1 : Option Addr) (c1 d1 : Nat) (w : World) (rr : Txt w (.slice r1 x.rel.length c1) x.rel) (ll : Txt w (.slice q1 x.loc.length d1) x.loc) (hx : SmallP x) (hf : FitT x) :
    Calls Tryz.prog 186 #[.agg #[.string (ofL x.ep), .slice r1 x.rel.length c1, .int .u8 x.c, .string (ofL x.n), .bool x.b, .string (ofL x.m), .bool x.d, .string (ofL x.k), .slice q1 x.loc.length d1]] w fun e w' => e = .returned (.bool true) ∧ Below w.heap.size w w' := by
  rcases hf.f4 with hc | hc | hc | hc
  · exact Fit_0 x r1 q1 c1 d1 w rr ll hx hf hc
  · exact Fit_97 x r1 q1 c1 d1 w rr ll hx hf hc
  · exact Fit_98 x r1 q1 c1 d1 w rr ll hx hf hc
  · exact Fit_114 x r1 q1 c1 d1 w rr ll hx hf hc

end Go.Proofs.YtabmfdedbpmfmaaGreat
