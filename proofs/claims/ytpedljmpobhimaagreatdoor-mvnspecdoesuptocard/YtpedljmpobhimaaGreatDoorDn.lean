/-
  Walks: texts read and compared.
-/
import Derived.Test.YtpedljmpobhimaaGreatDoorDm
namespace Go.Proofs.YtpedljmpobhimaaGreatDoor
open Go.RowKit Go.Shelf
set_option linter.unusedVariables false

theorem qual_len (w : List UInt8) (b : Bool) : (qualL w b).length ≤ w.length + 9 := by
  unfold qualL
  (repeat' split) <;> simp_all
theorem tok_len (d : Bool) (l : List UInt8) (b : Bool) : (tokL d l b).text.length ≤ l.length + 9 := by
  unfold tokL
  split
  · have := trimL_le l; dsimp only; omega
  · have := qual_len (l.map lowC) b; rw [List.length_map] at this; exact this
theorem split_short : ∀ (n : Nat) (d : Bool) (l : List UInt8), ∀ t ∈ splitN n d l, t.text.length ≤ l.length + 9
  | 0, _, _, t, h => by cases h
  | n + 1, d, l, t, h => by
    rw [splitN] at h
    have hdl : (l.drop (tkN l)).length = l.length - tkN l := List.length_drop
    rcases List.mem_cons.1 h with rfl | h
    · have := tok_len d (l.take (tkN l)) (turnB (l.drop (tkN l)))
      rw [List.length_take] at this
      omega
    · cases hd : l.drop (tkN l) with
      | nil => rw [hd] at h; cases h
      | cons c r =>
        rw [hd] at h hdl
        dsimp only at h
        simp only [List.length_cons] at hdl
        split at h
        · have := split_short n (c == 45) r t h; omega
        · have := split_short n true (c :: r) t h; simp only [List.length_cons] at this; omega
theorem trimR_mem : ∀ (ts : List Tok) (t : Tok), t ∈ trimR ts → t ∈ ts
  | [], t, h => h
  | x :: r, t, h => by
    rw [trimR] at h
    split at h
    · exact List.mem_cons_of_mem _ (trimR_mem r t h)
    · rcases List.mem_cons.1 h with rfl | h
      · exact List.mem_cons_self
      · exact List.mem_cons_of_mem _ (trimR_mem r t h)
theorem trimR_len : ∀ ts : List Tok, (trimR ts).length ≤ ts.length
  | [] => Nat.le_refl _
  | x :: r => by
    have := trimR_len r
    rw [trimR]
    split <;> simp only [List.length_cons] <;> omega
theorem head_short {n : Nat} (ts : List Tok) (hn : 1 ≤ n) (h : ∀ t ∈ ts, t.text.length ≤ n) : ∀ t ∈ headL ts, t.text.length ≤ n := by
  cases ts with
  | nil => intro t ht; simp [headL] at ht; subst ht; simpa [zeroT] using hn
  | cons x r =>
    intro t ht
    rcases List.mem_cons.1 ht with rfl | ht
    · exact h x List.mem_cons_self
    · exact h t (List.mem_cons_of_mem _ ht)
theorem head_len (ts : List Tok) : (headL ts).length ≤ ts.length + 1 := by cases ts <;> simp [headL]
theorem toks_len {l : List UInt8} {ts : List Tok} (h : toksL l = .ok ts) : l.length ≤ 64 := by
  unfold toksL at h
  split at h
  · cases h
  · omega
theorem toks_eq {l : List UInt8} {ts : List Tok} (h : toksL l = .ok ts) : ts = trimT (splitL l) := by
  unfold toksL at h
  split at h
  · cases h
  · split at h
    · cases h
    · split at h
      · cases h
      · cases h; rfl
theorem toks_short {l : List UInt8} {ts : List Tok} (h : toksL l = .ok ts) : ts.length ≤ 66 ∧ ∀ t ∈ ts, t.text.length ≤ 73 := by
  have hl := toks_len h
  obtain rfl := toks_eq h
  unfold trimT
  refine ⟨?_, head_short _ (by omega) (fun t ht => ?_)⟩
  · have h1 := head_len (trimR (splitL l))
    have h2 := trimR_len (splitL l)
    have h3 := splitN_len (l.length + 1) false l
    unfold splitL at h1 h2 ⊢
    omega
  · have := split_short _ _ _ t (trimR_mem _ _ ht)
    omega
theorem toks_sh {l : List UInt8} {ts : List Tok} (h : toksL l = .ok ts) : ShT ts := by
  obtain ⟨h1, h2⟩ := toks_short h
  exact ⟨by omega, fun t ht => by have := h2 t ht; omega⟩
theorem toks_errs {l : List UInt8} {x : Int × Nat} (h : toksL l = .error x) : x.1 ≠ 0 := by
  unfold toksL at h
  split at h
  · cases h; simp
  · split at h
    · cases h; simp
    · split at h
      · cases h; simp
      · cases h

/-- What a text's reading holds. -/
def Rd (W : World) (l : List UInt8) (v : Value) (k : Bool) : Prop := (∃ x, toksL l = .error x ∧ k = false ∧ v = .slice none 0 0) ∨ (∃ ts, toksL l = .ok ts ∧ k = true ∧ Toks W v ts)
theorem Rd.below {W W' : World} {l : List UInt8} {v : Value} {k : Bool} (h : Rd W l v k) (hb : Below W.heap.size W W') : Rd W' l v k := by
  rcases h with h | ⟨ts, h1, h2, h3⟩
  · exact .inl h
  · exact .inr ⟨ts, h1, h2, h3.below hb⟩

theorem fin68 {R : Ending → World → Prop} (tmps : Array Value) (W : World) (B : Nat) (s : ByteArray) (a : Option Addr) (n c : Nat) (k : Bool)
    (h2 : tmps.getD 4 undef = .pointer (some ⟨B, 0, none⟩)) (e1 : W.heap[B]? = some (.cells #[.string s, .slice a n c, .bool k] 134 (0, 0)))
    (hR : R (.returned (.agg #[.string s, .slice a n c, .bool k])) W) :
    bodyPost Tryz.prog Tryz.f115 R .ret { tmps := tmps, defers := [] } W := by
  have r0 := cell_at 0 e1 rfl
  have r1 := cell_at 1 e1 rfl
  have r2 := cell_at 2 e1 rfl
  rw [Array.getD_eq_getD_getElem?] at h2
  refine ⟨rfl, _, ?_, hR⟩
  simp [results, Tryz.results115, go_sem, h2, r0, r1, r2]
  try rfl
theorem three87 {W : World} {B : Nat} {x0 x1 x2 : Value} (a b c : Value) (o : Obj) (h : W.heap[B]? = some (.cells #[x0, x1, x2] 134 (0, 0))) :
    ∃ W', W' = (((W.setCell ⟨B, 0, none⟩ a).setCell ⟨B, 1, none⟩ b).setCell ⟨B, 2, none⟩ c).alloc o ∧ W'.heap[B]? = some (.cells #[a, b, c] 134 (0, 0)) ∧ Below B W W' ∧ (∀ n v ts, B < n → ToksN n W v ts → ToksN n W' v ts) := by
  have h0 : (W.setCell ⟨B, 0, none⟩ a).heap[B]? = some (.cells #[a, x1, x2] 134 (0, 0)) := set_lies 0 a h
  have h1 : ((W.setCell ⟨B, 0, none⟩ a).setCell ⟨B, 1, none⟩ b).heap[B]? = some (.cells #[a, b, x2] 134 (0, 0)) := set_lies 1 b h0
  have h2 : (((W.setCell ⟨B, 0, none⟩ a).setCell ⟨B, 1, none⟩ b).setCell ⟨B, 2, none⟩ c).heap[B]? = some (.cells #[a, b, c] 134 (0, 0)) := set_lies 2 c h1
  have hlt := (Array.getElem?_eq_some_iff.1 h2).1
  refine ⟨_, rfl, (Below.heap_alloc _ _ _ hlt).trans h2, ((((Below.refl B W).setCell (p := ⟨B, 0, none⟩) (Nat.le_refl _) a).setCell (p := ⟨B, 1, none⟩) (Nat.le_refl _) b).setCell (p := ⟨B, 2, none⟩) (Nat.le_refl _) c).alloc (by omega) _, ?_⟩
  intro n v ts hn ht
  obtain ⟨g, cap, sp, hv, hg, hh⟩ := ((ht.other B 0 a hn).other B 1 b hn).other B 2 c hn
  exact ⟨g, cap, sp, hv, hg, (Below.heap_alloc _ _ _ (Array.getElem?_eq_some_iff.1 hh).1).trans hh⟩

/-- What reading leaves. -/
def ReadPost (s : ByteArray) (w : World) (r : Ending) (w' : World) : Prop := ∃ a n c k, r = .returned (.agg #[.string s, .slice a n c, .bool k]) ∧ Rd w' s.data.toList (.slice a n c) k ∧ Below w.heap.size w w'

set_option maxRecDepth 100000 in
set_option maxHeartbeats 1000000 in
theorem read_any (s : ByteArray) (w : World) (hk : Kn w) :
    Calls Tryz.prog 115 #[.string s, .func (.func 58) #[] #[]] w (ReadPost s w) := by
  cases hp : toksL s.data.toList with
  | error x =>
    have C := hide (fun w => Tokens_no s x hp w)
    have hx0 : (x.1 == 0) = false := by simpa using toks_errs hp
    go_enter Tryz.func115, Tryz.ntmps115
    go_wp2_with fail
    refine (C.out _).mono ?_
    rintro e' w1 ⟨rfl, b1⟩
    have eR := (b1.block w.heap.size (by simp)).trans (World.alloc_heap_new w (.cells #[.string ⟨#[]⟩, .slice none 0 0, .bool false] 134))
    have bw := ((Below.refl _ w).alloc (Nat.le_refl _) (.cells #[.string ⟨#[]⟩, .slice none 0 0, .bool false] 134)).trans (b1.mono (by simp))
    have hlt : w.heap.size < w1.heap.size := (Array.getElem?_eq_some_iff.1 eR).1
    have hlt1 : w.heap.size < w1.heap.size + 1 := by omega
    have r0 := cell_at 0 eR rfl
    have r1 := cell_at 1 eR rfl
    have r2 := cell_at 2 eR rfl
    have z0 := one_free 0 eR
    have z1 := one_free 1 eR
    have z2 := one_free 2 eR
    clear b1
    go_wp2_with fail
    obtain ⟨W9, hW9, g1, b9, _⟩ := three87 (.string s) (.slice none 0 0) (.bool false) (.cells #[.int .i64 x.1, .int .i64 (x.2 : Int)] 27) eR
    rw [← hW9]
    exact fin68 _ W9 w.heap.size s _ _ _ _ rfl g1 ⟨_, _, _, _, rfl, .inl ⟨x, hp, rfl, rfl⟩, bw.trans b9⟩
  | ok ts =>
    have C := hide (fun w h => Tokens_ok s ts hp w h)
    go_enter Tryz.func115, Tryz.ntmps115
    go_wp2_with fail
    refine (C.out _ (by simp)).mono ?_
    rintro e' w1 ⟨v, rfl, ht, b1⟩
    have eR := (b1.block w.heap.size (by simp)).trans (World.alloc_heap_new w (.cells #[.string ⟨#[]⟩, .slice none 0 0, .bool false] 134))
    have bw := ((Below.refl _ w).alloc (Nat.le_refl _) (.cells #[.string ⟨#[]⟩, .slice none 0 0, .bool false] 134)).trans (b1.mono (by simp))
    have hlt : w.heap.size < w1.heap.size := (Array.getElem?_eq_some_iff.1 eR).1
    have hlt1 : w.heap.size < w1.heap.size + 1 := by omega
    have HT := hide ht
    obtain ⟨b, cap, sp, rfl, _, _⟩ := ht
    have r0 := cell_at 0 eR rfl
    have r1 := cell_at 1 eR rfl
    have r2 := cell_at 2 eR rfl
    have z0 := one_free 0 eR
    have z1 := one_free 1 eR
    have z2 := one_free 2 eR
    clear b1
    go_wp2_with fail
    obtain ⟨W9, hW9, g1, b9, k9⟩ := three87 (.string s) (.slice (some ⟨b, 0, none⟩) ts.length cap) (.bool true) (.cells #[.int .i64 0, .int .i64 0] 27) eR
    rw [← hW9]
    exact fin68 _ W9 w.heap.size s _ _ _ _ rfl g1 ⟨_, _, _, _, rfl, .inr ⟨ts, hp, rfl, (k9 _ _ _ (by simp) HT.out).toks⟩, bw.trans b9⟩

set_option maxRecDepth 100000 in
set_option maxHeartbeats 1000000 in
theorem compareR_any (s t : List UInt8) (a1 a2 : Option Addr) (n1 c1 n2 c2 : Nat) (k1 k2 : Bool) (w : World) (hk : Kn w) (h1 : Rd w s (.slice a1 n1 c1) k1) (h2 : Rd w t (.slice a2 n2 c2) k2) :
    Calls Tryz.prog 114 #[.agg #[.string (ofL s), .slice a1 n1 c1, .bool k1], .agg #[.string (ofL t), .slice a2 n2 c2, .bool k2], .func (.func 103) #[] #[], .func (.func 116) #[] #[]] w fun e w' => e = .returned (.int .i64 (cmpT s t)) ∧ Below w.heap.size w w' := by
  have HT : Hid (cmpT s t = match toksL s, toksL t with
    | .ok x, .ok y => ordL x y
    | .ok _, .error _ => 1
    | .error _, .ok _ => -1
    | .error _, .error _ => Lib.compareBytes s t) := rfl
  generalize cmpT s t = C at *
  rcases h1 with ⟨x, hs, rfl, _⟩ | ⟨xs, hs, rfl, hX⟩
  · rcases h2 with ⟨y, ht, rfl, _⟩ | ⟨ys, ht, rfl, hY⟩
    · rw [hs, ht] at HT
      have SC := fun w => StrCompare_any (ofL s) (ofL t) w
      rw [ofL_data, ofL_data] at SC
      have SC := hide SC
      go_enter Tryz.func114, Tryz.ntmps114
      go_wp2_with fail
      refine (SC.out _).mono ?_
      rintro e w' ⟨rfl, hw'⟩
      rw [hw']
      go_wp2_with fail
      go_ret
      exact ⟨ret_i HT.out.symm, ((Below.refl _ w).alloc (Nat.le_refl _) _).alloc (by simp) _⟩
    · rw [hs, ht] at HT
      clear hY
      go_enter Tryz.func114, Tryz.ntmps114
      go_wp2_with fail
      go_ret
      exact ⟨ret_i HT.out.symm, ((Below.refl _ w).alloc (Nat.le_refl _) _).alloc (by simp) _⟩
  · rcases h2 with ⟨y, ht, rfl, _⟩ | ⟨ys, ht, rfl, hY⟩
    · rw [hs, ht] at HT
      clear hX
      go_enter Tryz.func114, Tryz.ntmps114
      go_wp2_with fail
      go_ret
      exact ⟨ret_i HT.out.symm, ((Below.refl _ w).alloc (Nat.le_refl _) _).alloc (by simp) _⟩
    · rw [hs, ht] at HT
      have b0 : Below w.heap.size w ((w.alloc (.cells #[.string (ofL s), .slice a1 n1 c1, .bool true] 134)).alloc (.cells #[.string (ofL t), .slice a2 n2 c2, .bool true] 134)) := ((Below.refl _ w).alloc (Nat.le_refl _) _).alloc (by simp) _
      have OO := hide (order_any (.slice a1 n1 c1) (.slice a2 n2 c2) xs ys _ (hk.below hk.pos b0) (hX.below b0) (hY.below b0) (toks_sh hs) (toks_sh ht))
      have HB0 := hide b0
      clear hX hY hk b0
      go_enter Tryz.func114, Tryz.ntmps114
      go_wp2_with fail
      refine OO.out.mono ?_
      rintro e w' ⟨rfl, b1⟩
      go_wp2_with fail
      go_ret
      exact ⟨ret_i HT.out.symm, HB0.out.trans (b1.mono HB0.out.size)⟩

set_option maxHeartbeats 400000 in
theorem TextsCompare_any (s t : ByteArray) (w : World) (hk : Kn w) :
    Calls Tryz.prog 102 #[.string s, .string t, .func (.func 58) #[] #[], .func (.func 103) #[] #[]] w fun e w' => e = .returned (.int .i64 (cmpT s.data.toList t.data.toList)) ∧ Below w.heap.size w w' := by
  go_enter Tryz.func102, Tryz.ntmps102
  go_wp2_with fail
  refine (read_any _ _ hk).mono ?_
  rintro e w1 ⟨a1, n1, c1, k1, rfl, r1, b1⟩
  have hk1 := hk.below hk.pos b1
  go_wp2_with fail
  refine (read_any _ _ hk1).mono ?_
  rintro e w2 ⟨a2, n2, c2, k2, rfl, r2, b2⟩
  have hk2 := hk1.below hk1.pos b2
  have CR := compareR_any s.data.toList t.data.toList a1 a2 n1 c1 n2 c2 k1 k2 w2 hk2 (r1.below b2) r2
  rw [ofL_self, ofL_self] at CR
  go_wp2_with fail
  refine CR.mono ?_
  rintro e w3 ⟨rfl, b3⟩
  go_wp2_with fail
  go_ret
  have s1 := b1.size
  have s2 := b2.size
  exact ⟨rfl, b1.trans ((b2.mono (by omega)).trans (b3.mono (by omega)))⟩

set_option maxHeartbeats 400000 in
theorem CompareT_any (s t : ByteArray) (w : World) (hk : Kn w) :
    Calls Tryz.prog 81 #[.string s, .string t] w fun e w' => e = .returned (.int .i64 (cmpT s.data.toList t.data.toList)) ∧ Below w.heap.size w w' := by
  go_enter Tryz.func81, Tryz.ntmps81
  go_wp2_with fail
  refine (TextsCompare_any _ _ _ hk).mono ?_
  rintro e w1 ⟨rfl, b1⟩
  go_wp2_with fail
  go_ret
  exact ⟨rfl, b1⟩

end Go.Proofs.YtpedljmpobhimaaGreatDoor
