/-
  Walks: the law on orders.
-/
import Derived.Test.YthojcidbhojlhaaRi
import Derived.Test.YthojcidbhojlhaaRd
import Derived.Test.YthojcidbhojlhaaDk
namespace Go.Proofs.Ythojcidbhojlhaa
open Go.RowKit Go.Shelf
set_option linter.unusedVariables false

theorem RTexts_same (a1 a2 : Option Addr) (n c1 c2 : Nat) (ts : List (List UInt8)) (hl : ts.length = n) (hn : n ≤ 1048576) (w : World) (hT1 : Txt w (.slice a1 n c1) ts) (hT2 : Txt w (.slice a2 n c2) ts) :
    Calls Try.prog 24 #[.slice a1 n c1, .slice a2 n c2] w fun e w' => e = .returned (.bool true) ∧ Below w.heap.size w w' := by
  refine (RTexts_any a1 a2 n n c1 c2 ts ts hl hl hn w hT1 hT2).mono ?_
  rintro e w' ⟨rfl, h⟩
  exact ⟨by simp, h⟩
theorem txt_own {W : World} {B n cv : Nat} {ao : Option Addr} {S : List (List UInt8)} (h : W.ownsRow B 9 1 (.slice ao n cv) n (strs S)) (hl : S.length = n) : Txt W (.slice ao n cv) S := by
  refine ⟨ao, cv, by rw [hl], ?_⟩
  rcases h.2 with ⟨hv, h0⟩ | ⟨g, cap', cur, hv, hg1, hg2, hg3, hg4, hg5, hg6⟩
  · exact .inl (List.length_eq_zero_iff.1 (by omega))
  · cases hv
    refine .inr ⟨g, 0, rfl, (Array.getElem?_eq_some_iff.1 hg2).1, fun q hq => ?_⟩
    have := h.cells (g := g) rfl q (.string (ofL S[q])) (by rw [strs, List.getElem?_map, List.getElem?_eq_getElem hq]; rfl)
    have e : (⟨g, 0, none⟩ : Addr).add q = ⟨g, 0 + q, none⟩ := by unfold Addr.add; split <;> simp_all
    rwa [e] at this

/-- What the law holds while it calls. -/
structure OD (w : World) (x y : DebL) (v u : Value) (ts : List (List UInt8)) (W : World) : Prop where
  bel : Below w.heap.size w W
  ca : W.heap[w.heap.size]? = some (.cells #[.string (ofL x.ep), .string (ofL x.up), .string (ofL x.rev)] 23 (0, 0))
  cb : W.heap[w.heap.size + 1]? = some (.cells #[.string (ofL y.ep), .string (ofL y.up), .string (ofL y.rev)] 23 (0, 0))
  tn : Txt W v ts
  tl : Txt W u ts
theorem OD.next {w : World} {x y : DebL} {v u : Value} {ts : List (List UInt8)} {W W' : World} (h : OD w x y v u ts W) (hb : Below W.heap.size W W') : OD w x y v u ts W' :=
  ⟨h.bel.trans (hb.mono h.bel.size), (hb.block _ (Array.getElem?_eq_some_iff.1 h.ca).1).trans h.ca, (hb.block _ (Array.getElem?_eq_some_iff.1 h.cb).1).trans h.cb, h.tn.below hb, h.tl.below hb⟩
theorem OD.seen {w : World} {x y : DebL} {v u : Value} {ts : List (List UInt8)} {W : World} (h : OD w x y v u ts W) :
    W.cell? ⟨w.heap.size, 0, none⟩ = some (.string (ofL x.ep)) ∧ W.cell? ⟨w.heap.size, 1, none⟩ = some (.string (ofL x.up)) ∧ W.cell? ⟨w.heap.size, 2, none⟩ = some (.string (ofL x.rev)) ∧
    W.cell? ⟨w.heap.size + 1, 0, none⟩ = some (.string (ofL y.ep)) ∧ W.cell? ⟨w.heap.size + 1, 1, none⟩ = some (.string (ofL y.up)) ∧ W.cell? ⟨w.heap.size + 1, 2, none⟩ = some (.string (ofL y.rev)) :=
  ⟨cell_at 0 h.ca rfl, cell_at 1 h.ca rfl, cell_at 2 h.ca rfl, cell_at 0 h.cb rfl, cell_at 1 h.cb rfl, cell_at 2 h.cb rfl⟩
theorem OD.start {w W4 : World} {x y : DebL} {a ao1 : Option Addr} {n cap cv1 : Nat} {ts : List (List UInt8)} (hT : Txt w (.slice a n cap) ts) (hl : ts.length = n)
    (own1 : W4.ownsRow (w.heap.size + 2) 9 1 (.slice ao1 n cv1) n (strs ts))
    (grow1 : (((w.alloc (.cells #[.string (ofL x.ep), .string (ofL x.up), .string (ofL x.rev)] 23)).alloc (.cells #[.string (ofL y.ep), .string (ofL y.up), .string (ofL y.rev)] 23)).alloc (.cells #[] 9)).grownBy W4 (some (w.heap.size + 2))) :
    OD w x y (.slice ao1 n cv1) (.slice a n cap) ts W4 := by
  have b0 := (((Below.refl w.heap.size w).alloc (Nat.le_refl _) (.cells #[.string (ofL x.ep), .string (ofL x.up), .string (ofL x.rev)] 23)).alloc (by simp) (.cells #[.string (ofL y.ep), .string (ofL y.up), .string (ofL y.rev)] 23)).alloc (by simp; omega) (.cells #[] 9)
  have b1 := b0.grown grow1 (by simp; omega) (fun k h => by have := Option.some.inj h; omega)
  refine ⟨b1, ?_, ?_, txt_own own1 hl, hT.below b1⟩
  · rw [grow1.block _ (by simp; omega) (fun h => by have := Option.some.inj h; omega)]
    rw [Below.heap_alloc _ _ _ (by simp; omega), Below.heap_alloc _ _ _ (by simp)]
    exact World.alloc_heap_new w _
  · rw [grow1.block _ (by simp) (fun h => by have := Option.some.inj h; omega)]
    rw [Below.heap_alloc _ _ _ (by simp)]
    have := World.alloc_heap_new (w.alloc (.cells #[.string (ofL x.ep), .string (ofL x.up), .string (ofL x.rev)] 23)) (.cells #[.string (ofL y.ep), .string (ofL y.up), .string (ofL y.rev)] 23)
    simpa using this

set_option maxRecDepth 100000 in
set_option maxHeartbeats 8000000 in
theorem orders_walk (x y : DebL) (s t o : ByteArray) (a : Option Addr) (n cap : Nat) (ts : List (List UInt8)) (w : World) (hx : Sz x) (hy : Sz y) (hs : s.size ≤ 1048576) (ht : t.size ≤ 1048576) (hl : ts.length = n) (hn : n ≤ 1048576)
    (hT : Txt w (.slice a n cap) ts) (hnil : a = none → n = 0 ∧ cap = 0) :
    Calls Try.prog 5 #[verV x, verV y, .string s, .string t, .string o, .slice a n cap] w fun e w' => e = .returned (.bool true) ∧ Below w.heap.size w w' := by
  have P1 := fun w => Part_any s t w (by omega) (by omega)
  have P2 := fun w => RPart_any s t w (by omega) (by omega)
  have O1 := fun w => Order_any x y w hx hy
  have O2 := fun w => ROrder_any x y w hx hy
  have C1 := fun w => CompareT_any s t w
  have C2 := fun w => RCompare_any s t w
  have H1 := fun w => Holds_any s o t w
  have H2 := fun w => RHolds_any s o t w
  unfold verV at O1 O2 ⊢
  have P1 := hide P1
  have P2 := hide P2
  have O1 := hide O1
  have O2 := hide O2
  have C1 := hide C1
  have C2 := hide C2
  have H1 := hide H1
  have H2 := hide H2
  generalize partO s.data.toList t.data.toList = po at *
  generalize ordF x y = od at *
  generalize cmpT s.data.toList t.data.toList = co at *
  generalize holdsL s.data.toList o.data.toList t.data.toList = ho at *
  have ep : (po == po) = true := by simp
  have ed : (od == od) = true := by simp
  have ec : (co == co) = true := by simp
  have eh : (ho == ho) = true := by simp
  have SR := hide (fun (a : Option Addr) (cap : Nat) W h => RSort_any a cap n ts hl W h hn)
  have SP := hide (fun (a : Option Addr) (cap : Nat) W h => Sort_any a cap n ts hl W h hn)
  have TX := hide (fun (a1 a2 : Option Addr) (c1 c2 : Nat) (ts' : List (List UInt8)) (h : ts'.length = n) W h1 h2 => RTexts_same a1 a2 n c1 c2 ts' h hn W h1 h2)
  have hls : Hid ((srt cmpT ts).length = n) := by show _ = _; rw [srt_length]; exact hl
  have HC : Hid (∀ W, Below w.heap.size w W → ∀ ad, a = some ad → ∀ j u, (strs ts)[j]? = some u → W.cell? (ad.add j) = some u) := by
    intro W hb ad had j u hu
    obtain ⟨a', cap', hv, h0 | ⟨b, off, ha, hlt, hc⟩⟩ := hT.below hb
    · subst h0; simp [strs] at hu
    · cases hv
      rw [had] at ha
      cases ha
      rw [strs, List.getElem?_map] at hu
      have hj : j < ts.length := by
        by_cases h : j < ts.length
        · exact h
        · rw [List.getElem?_eq_none (by omega)] at hu; simp at hu
      rw [List.getElem?_eq_getElem hj] at hu
      have e : (⟨b, off, none⟩ : Addr).add j = ⟨b, off + j, none⟩ := by unfold Addr.add; split <;> simp_all
      rw [e, hc j hj]
      simpa using hu
  have HL := hide hl
  have HT := hide hT
  have HN := hide hnil
  clear hx hy hs ht hl hT hnil
  go_enter Try.func5, Try.ntmps5
  go_wp2_with (first
    | (at_builtin; refine app_any rfl (.tmp 14) (.tmp 15) rfl (w.heap.size + 2) (some ⟨w.heap.size + 2, 0, none⟩) 0 0 [] rfl (by have := World.ownsRow_made (base := w.heap.size + 2) (e := 9) (size := 1) ((w.alloc (.cells #[.string (ofL x.ep), .string (ofL x.up), .string (ofL x.rev)] 23)).alloc (.cells #[.string (ofL y.ep), .string (ofL y.up), .string (ofL y.rev)] 23)) #[] 0 (by simp) (by unfold maxLen; omega) (by simp); simpa [strs] using this) a n cap ts rfl HL.out HN.out (HC.out _ ((((Below.refl w.heap.size w).alloc (Nat.le_refl _) _).alloc (by simp) _).alloc (by simp; omega) _)) (by omega) (by simp) ?_; intro ao1 cv1 W4 own1 grow1)
    | fail)
  simp only [Nat.zero_add, List.nil_append] at own1
  have S0 := OD.start (x := x) (y := y) HT.out HL.out own1 grow1
  clear own1 grow1 HC HN HT
  have D0 := S0.next (below_drewN _ W4 1)
  obtain ⟨c0, c1, c2, c3, c4, c5⟩ := S0.seen
  go_region_held3 (fun w' => w'.cell? ⟨w.heap.size, 0, none⟩ = some (.string (ofL x.ep)) ∧ w'.cell? ⟨w.heap.size, 1, none⟩ = some (.string (ofL x.up)) ∧ w'.cell? ⟨w.heap.size, 2, none⟩ = some (.string (ofL x.rev)) ∧ w'.cell? ⟨w.heap.size + 1, 0, none⟩ = some (.string (ofL y.ep)) ∧ w'.cell? ⟨w.heap.size + 1, 1, none⟩ = some (.string (ofL y.up)) ∧ w'.cell? ⟨w.heap.size + 1, 2, none⟩ = some (.string (ofL y.rev)))
    (go_keep)
    ((first
      | (go_at_call 11; refine (awake_any _).mono ?_; rintro e w13 ⟨rfl, b13⟩; have Q13 := Q12.next b13; obtain ⟨km0, km1, km2, km3, km4, km5⟩ := Q13.seen)
      | (go_at_call 24; refine (TX.out _ _ _ _ _ HL.out _ Q11.tn Q11.tl).mono ?_; rintro e w12 ⟨rfl, b12⟩; have Q12 := Q11.next b12; obtain ⟨kl0, kl1, kl2, kl3, kl4, kl5⟩ := Q12.seen)
      | (go_at_call 24; refine (TX.out _ _ _ _ _ hls.out _ T9b T10).mono ?_; rintro e w11 ⟨rfl, b11⟩; have Q11 := Q10.next b11; obtain ⟨kk0, kk1, kk2, kk3, kk4, kk5⟩ := Q11.seen)
      | (go_at_call 26; refine (SR.out _ _ _ Q9.tl).mono ?_; rintro e w10 ⟨g10, cv10, rfl, T10, b10⟩; have Q10 := Q9.next b10; have T9b := T9.below b10; obtain ⟨kj0, kj1, kj2, kj3, kj4, kj5⟩ := Q10.seen)
      | (go_at_call 25; refine (SP.out _ _ _ Q8.tn).mono ?_; rintro e w9 ⟨g9, rfl, T9, hg9, b9⟩; have Q9 := Q8.next b9; obtain ⟨ki0, ki1, ki2, ki3, ki4, ki5⟩ := Q9.seen)
      | (go_at_call 23; refine (H2.out _).mono ?_; rintro e w8 ⟨rfl, b8⟩; have Q8 := Q7.next b8; obtain ⟨kh0, kh1, kh2, kh3, kh4, kh5⟩ := Q8.seen)
      | (go_at_call 22; refine (H1.out _).mono ?_; rintro e w7 ⟨rfl, b7⟩; have Q7 := Q6.next b7; obtain ⟨kg0, kg1, kg2, kg3, kg4, kg5⟩ := Q7.seen)
      | (go_at_call 21; refine (C2.out _).mono ?_; rintro e w6 ⟨rfl, b6⟩; have Q6 := Q5.next b6; obtain ⟨kf0, kf1, kf2, kf3, kf4, kf5⟩ := Q6.seen)
      | (go_at_call 20; refine (C1.out _).mono ?_; rintro e w5 ⟨rfl, b5⟩; have Q5 := Q4.next b5; obtain ⟨ke0, ke1, ke2, ke3, ke4, ke5⟩ := Q5.seen)
      | (go_at_call 19; refine (O2.out _).mono ?_; rintro e w4 ⟨rfl, b4⟩; have Q4 := Q3.next b4; obtain ⟨kd0, kd1, kd2, kd3, kd4, kd5⟩ := Q4.seen)
      | (go_at_call 18; refine (O1.out _).mono ?_; rintro e w3 ⟨rfl, b3⟩; have Q3 := Q2.next b3; obtain ⟨kc0, kc1, kc2, kc3, kc4, kc5⟩ := Q3.seen)
      | (go_at_call 17; refine (P2.out _).mono ?_; rintro e w2 ⟨rfl, b2⟩; have Q2 := Q1.next b2; obtain ⟨kb0, kb1, kb2, kb3, kb4, kb5⟩ := Q2.seen)
      | (go_at_call 16; refine (P1.out _).mono ?_; rintro e w1 ⟨rfl, b1⟩; have Q1 := D0.next b1; obtain ⟨ka0, ka1, ka2, ka3, ka4, ka5⟩ := Q1.seen)
      | fail))
  go_wp2_with fail
  go_ret
  exact ⟨rfl, Q13.bel⟩

end Go.Proofs.Ythojcidbhojlhaa
