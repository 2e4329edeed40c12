/-
  Walks: a version's tokens as a text.
-/
import Derived.Test.YtobcoppbphfcaaaDoorDp
namespace Go.Proofs.YtobcoppbphfcaaaDoor
open Go.RowKit Go.Shelf
set_option linter.unusedVariables false

theorem builder_below {T e : TypeId} {B b : Nat} {p : Value} {bs : List Value} {W W' : World} (h : Lib.BuilderAt T e B b p bs W) (hb : Below W.heap.size W W') : Lib.BuilderAt T e B b p bs W' := by
  obtain ⟨hB, v, hbk, hown, hne⟩ := h
  exact ⟨hB, v, (hb.block b (Array.getElem?_eq_some_iff.1 hbk).1).trans hbk, own_below hown hb, hne⟩
theorem isb_below {T e : TypeId} {B b : Nat} {bs : List Value} {W W' : World} (h : Lib.IsBuilder T e B b bs W) (hb : Below W.heap.size W W') : Lib.IsBuilder T e B b bs W' := h.imp (fun h => builder_below h hb) (fun h => builder_below h hb)
theorem bc_app (l r : List UInt8) : Lib.byteCells l ++ Lib.byteCells r = Lib.byteCells (l ++ r) := by simp [Lib.byteCells]
theorem bc_str (l : List UInt8) : Lib.strCells (ofL l) = Lib.byteCells l := by simp [Lib.strCells, Lib.byteCells, ofL]
theorem bc_one (c : UInt8) : [Value.int .u8 (c.toNat : Int)] = Lib.byteCells [c] := rfl

theorem canonR_snoc : ∀ (ts : List Tok) (t : Tok), canonR (ts ++ [t]) = canonR ts ++ (markT t :: writeT t)
  | [], t => by simp [canonR]
  | x :: r, t => by rw [List.cons_append, canonR, canonR_snoc r t, canonR]; simp
theorem canon_first (ts : List Tok) (h : 0 < ts.length) : canonT (ts.take 1) = writeT (ts.getD 0 nilT) := by
  cases ts with
  | nil => simp at h
  | cons x r => simp [canonT, canonR]
theorem canon_next (ts : List Tok) (k : Nat) (hk : k < ts.length) (h0 : 0 < k) : canonT (ts.take (k + 1)) = canonT (ts.take k) ++ [markT (ts.getD k nilT)] ++ writeT (ts.getD k nilT) := by
  cases ts with
  | nil => simp at hk
  | cons x r =>
    obtain ⟨j, rfl⟩ : ∃ j, k = j + 1 := ⟨k - 1, by omega⟩
    have hj : j < r.length := by simpa using hk
    rw [List.take_succ_cons, List.take_succ_cons, List.take_succ_eq_append_getElem hj, canonT, canonT, canonR_snoc]
    simp [List.getD_eq_getElem?_getD, List.getElem?_eq_getElem hj]
theorem write_len (t : Tok) (h : t.text.length ≤ 73) : (writeT t).length ≤ 73 := by unfold writeT; split <;> simp_all
theorem canonR_len : ∀ ts : List Tok, (∀ t ∈ ts, t.text.length ≤ 73) → (canonR ts).length ≤ ts.length * 74
  | [], _ => Nat.le_refl _
  | x :: r, h => by
    have h1 := canonR_len r (fun t ht => h t (List.mem_cons_of_mem _ ht))
    have h2 := write_len x (h x List.mem_cons_self)
    rw [canonR]
    simp only [List.length_cons, List.length_append]
    omega
theorem canonT_len (ts : List Tok) (h : ∀ t ∈ ts, t.text.length ≤ 73) : (canonT ts).length ≤ ts.length * 74 := by
  cases ts with
  | nil => exact Nat.le_refl _
  | cons x r =>
    have h1 := canonR_len r (fun t ht => h t (List.mem_cons_of_mem _ ht))
    have h2 := write_len x (h x List.mem_cons_self)
    rw [canonT]
    simp only [List.length_cons, List.length_append]
    omega

set_option maxRecDepth 100000 in
set_option maxHeartbeats 4000000 in
theorem Canon_any (s : ByteArray) (w : World) (hk : Kn w) :
    Calls Tryd.prog 11 #[.string s] w fun e w' => e = .returned (.string (ofL (canonL s.data.toList))) ∧ Below w.heap.size w w' := by
  cases hp : toksL s.data.toList with
  | error x =>
    have C := hide (fun w => Tokens_no s x hp w)
    have HX : Hid (canonL s.data.toList = []) := by show _ = _; unfold canonL; rw [hp]
    generalize canonL s.data.toList = R at *
    go_enter Tryd.func11, Tryd.ntmps11
    go_wp2_with fail
    refine (C.out _).mono ?_
    rintro e' w1 ⟨rfl, b1⟩
    have b2 : Below w.heap.size w (w1.alloc (.cells #[.int .i64 x.1, .int .i64 (x.2 : Int)] 25)) := b1.alloc b1.size _
    go_wp2_with fail
    have hf := Lib.fresh_isBuilder 54 5 (w1.alloc (.cells #[.int .i64 x.1, .int .i64 (x.2 : Int)] 25))
    have hzs : w1.heap.size + 1 = (w1.alloc (.cells #[.int .i64 x.1, .int .i64 (x.2 : Int)] 25)).heap.size := by simp
    rw [hzs]
    clear hzs
    generalize w1.alloc (.cells #[.int .i64 x.1, .int .i64 (x.2 : Int)] 25) = W2 at *
    have bB : Below W2.heap.size W2 (W2.alloc (.cells #[.pointer none, .slice none 0 0] 54)) := (Below.refl _ W2).alloc (Nat.le_refl _) _
    go_loopw [15] (fun i wr => i = .int .i64 0 ∧ Lib.IsBuilder 54 5 W2.heap.size W2.heap.size (Lib.byteCells []) wr ∧ Below W2.heap.size W2 wr) (fun i _ => 0)
    case atStart => exact ⟨rfl, hf, bB⟩
    case round =>
      obtain ⟨rfl, hI, hB⟩ := hrel
      have hsz := hB.size
      have ST := hide (Tryd.Builder_String_any W2.heap.size W2.heap.size _ wr hI hsz)
      clear hf bB
      go_wp2_with fail
      refine ST.out.mono ?_
      rintro e w5 ⟨rfl, b5⟩
      go_wp2_with fail
      go_ret
      exact ⟨ret_s (by rw [HX.out]; rfl), b2.trans ((hB.trans b5).mono b2.size)⟩
  | ok ts =>
    have hp0 := toks_pos hp
    obtain ⟨hsh, hst⟩ := toks_short hp
    have C := hide (fun w h => Tokens_ok s ts hp w h)
    have HX : Hid (canonL s.data.toList = canonT ts) := by show _ = _; unfold canonL; rw [hp]
    have hk0 := hk.pos
    have HCL : Hid (∀ k, (canonT (ts.take k)).length ≤ 5000) := by
      intro k
      have h1 := canonT_len (ts.take k) (fun t ht => hst t (List.mem_of_mem_take ht))
      have h2 : (ts.take k).length ≤ ts.length := by rw [List.length_take]; omega
      omega
    have HWL : Hid (∀ k, (writeT (ts.getD k nilT)).length ≤ 100) := by
      intro k
      have : (ts.getD k nilT).text.length ≤ 73 := by
        by_cases h : k < ts.length
        · rw [List.getD_eq_getElem?_getD, List.getElem?_eq_getElem h]; exact hst _ (List.getElem_mem h)
        · rw [List.getD_eq_getElem?_getD, List.getElem?_eq_none (by omega)]; simp [nilT]
      have := write_len _ this
      omega
    have HF := hide (canon_first ts hp0)
    have HNX := hide (canon_next ts)
    generalize canonL s.data.toList = R at *
    clear hst
    go_enter Tryd.func11, Tryd.ntmps11
    go_wp2_with fail
    refine (C.out _ hk0).mono ?_
    rintro e' w1 ⟨v, rfl, ht, b1⟩
    obtain ⟨g, cap, sp, rfl, hg, hh⟩ := ht
    have hgl : g < w1.heap.size := (Array.getElem?_eq_some_iff.1 hh).1
    have b2 : Below w.heap.size w (w1.alloc (.cells #[.int .i64 0, .int .i64 0] 25)) := b1.alloc b1.size _
    have e2 : (w1.alloc (.cells #[.int .i64 0, .int .i64 0] 25)).heap[g]? = some (.cells (flatT ts ++ sp).toArray 48 (0, 0)) := (Below.heap_alloc _ _ _ hgl).trans hh
    have hz2 : g < (w1.alloc (.cells #[.int .i64 0, .int .i64 0] 25)).heap.size := by simp; omega
    go_wp2_with fail
    have hzs : w1.heap.size + 1 = (w1.alloc (.cells #[.int .i64 0, .int .i64 0] 25)).heap.size := by simp
    have hf := Lib.fresh_isBuilder 54 5 (w1.alloc (.cells #[.int .i64 0, .int .i64 0] 25))
    rw [hzs]
    clear hzs hgl hh
    generalize w1.alloc (.cells #[.int .i64 0, .int .i64 0] 25) = W2 at *
    have bB : Below W2.heap.size W2 (W2.alloc (.cells #[.pointer none, .slice none 0 0] 54)) := (Below.refl _ W2).alloc (Nat.le_refl _) _
    go_loopw [15] (fun i wr => ∃ k : Nat, k ≤ ts.length ∧ i = .int .i64 k ∧ Lib.IsBuilder 54 5 W2.heap.size W2.heap.size (Lib.byteCells (canonT (ts.take k))) wr ∧ Below W2.heap.size W2 wr) (fun i _ => ts.length - (intOf i).toNat)
    case atStart => exact ⟨0, by omega, rfl, hf, bB⟩
    case round =>
      clear hf bB
      obtain ⟨k, hkn, rfl, hI, hB⟩ := hrel
      have hsz := hB.size
      by_cases hlt : k < ts.length
      · have hlt' : (k : Int) < (ts.length : Int) := by omega
        have hW : KW W2 g sp ts wr := ⟨Turn.ofBelow hB, (hB.block g hz2).trans e2⟩
        obtain ⟨c0, c1, c2⟩ := hW.seen k (ts.getD k nilT) (by rw [List.getD_eq_getElem?_getD, List.getElem?_eq_getElem hlt]; rfl)
        have MK := fun w => mark_any (ts.getD k nilT) w
        have WR := fun w => write_any (ts.getD k nilT) w
        unfold tokV at MK WR
        have hwl := HWL.out k
        have hcl := HCL.out k
        have HS0 : Hid (k = 0 → canonT (ts.take (k + 1)) = canonT (ts.take k) ++ writeT (ts.getD k nilT)) := by
          intro h0
          subst h0
          exact HF.out
        have HS1 := hide (HNX.out k hlt)
        have MK := hide MK
        have WR := hide WR
        clear hW
        generalize hgd : ts.getD k nilT = t at *
        have bA : Below wr.heap.size wr (wr.alloc (.cells #[.bool t.dash, .bool t.num, .string (ofL t.text)] 48)) := (Below.refl _ wr).alloc (Nat.le_refl _) _
        have eA := World.alloc_heap_new wr (.cells #[.bool t.dash, .bool t.num, .string (ofL t.text)] 48)
        have hIA := isb_below hI bA
        have hbl : W2.heap.size < wr.heap.size := by rcases hI with h | h <;> exact h.lt
        have HGD := hide hgd
        have hne : g ≠ wr.heap.size := by omega
        clear hgd HF HNX hI
        by_cases h0 : 0 < k
        · have h0' : (0 : Int) < (k : Int) := by omega
          have HSX := hide (HS1.out h0)
          clear HS0 HS1
          go_wp2_with fail
          refine (MK.out _).mono ?_
          rintro e w2 ⟨rfl, b2'⟩
          have hI2 := isb_below hIA b2'
          have sA : (wr.alloc (.cells #[.bool t.dash, .bool t.num, .string (ofL t.text)] 48)).heap.size = wr.heap.size + 1 := by simp
          have s2 := b2'.size
          have eA2 := (b2'.block wr.heap.size (by rw [sA]; omega)).trans eA
          rw [sA] at s2
          have WB := hide (WriteByte_any W2.heap.size W2.heap.size _ ((markT t).toNat : Int) w2 hI2 (by rw [Lib.byteCells_length]; omega) (by omega))
          go_wp2_with fail
          refine WB.out.mono ?_
          rintro e w3 ⟨rfl, h3, b3, k3⟩
          have eA3 := (k3 wr.heap.size _ _ _ (by omega) eA2 (by decide)).trans eA2
          have x0 := cell_at 0 eA3 rfl
          have x1 := cell_at 1 eA3 rfl
          have x2 := cell_at 2 eA3 rfl
          have hI3 : Lib.IsBuilder 54 5 W2.heap.size W2.heap.size (Lib.byteCells (canonT (ts.take k)) ++ [.int .u8 ((markT t).toNat : Int)]) w3 := .inr h3
          go_wp2_with fail
          refine (WR.out _).mono ?_
          rintro e w4 ⟨rfl, b4⟩
          have s1 := b3.size
          have hI4 := isb_below hI3 b4
          have s4 := b4.size
          have WS := hide (WriteString_any W2.heap.size W2.heap.size _ (ofL (writeT t)) w4 hI4 (by rw [List.length_append, Lib.byteCells_length, List.length_singleton, ofL_size]; omega) (by omega))
          go_wp2_with fail
          refine WS.out.mono ?_
          rintro e w5 ⟨rfl, h5, b5⟩
          rw [bc_str] at h5
          go_wp2_with fail
          go_roundw
          case rel => exact ⟨k + 1, by omega, by go_num, .inr (by rw [HSX.out]; simpa only [bc_app, bc_one] using h5), hB.trans ((bA.mono hsz).trans ((b2'.mono (by rw [sA]; omega)).trans (b3.trans ((b4.mono (by omega)).trans b5))))⟩
          case measure => simp [intOf]; omega
        · obtain rfl : k = 0 := by omega
          have HSX := hide (HS0.out rfl)
          clear HS0 HS1
          go_wp2_with fail
          refine (WR.out _).mono ?_
          rintro e w4 ⟨rfl, b4⟩
          have sA : (wr.alloc (.cells #[.bool t.dash, .bool t.num, .string (ofL t.text)] 48)).heap.size = wr.heap.size + 1 := by simp
          have b3 := bA
          have hI3 := hIA
          have s1 := b3.size
          have hI4 := isb_below hI3 b4
          have s4 := b4.size
          have WS := hide (WriteString_any W2.heap.size W2.heap.size _ (ofL (writeT t)) w4 hI4 (by rw [Lib.byteCells_length, ofL_size]; omega) (by omega))
          go_wp2_with fail
          refine WS.out.mono ?_
          rintro e w5 ⟨rfl, h5, b5⟩
          rw [bc_str] at h5
          go_wp2_with fail
          go_roundw
          case rel => exact ⟨0 + 1, by omega, by go_num, .inr (by rw [HSX.out]; simpa only [bc_app, bc_one] using h5), hB.trans ((bA.mono hsz).trans ((b4.mono (by rw [sA]; omega)).trans b5))⟩
          case measure => simp [intOf]; omega
      · have hlt' : ¬ (k : Int) < (ts.length : Int) := by omega
        obtain rfl : k = ts.length := by omega
        have ST := hide (Tryd.Builder_String_any W2.heap.size W2.heap.size _ wr hI hsz)
        rw [List.take_of_length_le (Nat.le_refl _)] at ST
        go_wp2_with fail
        refine ST.out.mono ?_
        rintro e w5 ⟨rfl, b5⟩
        go_wp2_with fail
        go_ret
        exact ⟨ret_s (by rw [HX.out]; rfl), b2.trans ((hB.trans b5).mono b2.size)⟩

end Go.Proofs.YtobcoppbphfcaaaDoor
