/-
  Walks: a row of texts, copied: slices.Clone.
-/
import Derived.Test.YtagnikhkmaplpaaGreatPt
import Derived.Deep.AppendLies
import Derived.Lib.SliceRun
import Derived.Test.YtagnikhkmaplpaaGreatZg
import Derived.Laws.AppendOwnNone
import Derived.Test.YtagnikhkmaplpaaGreatQp
import Derived.Test.YtagnikhkmaplpaaGreatPv
namespace Go.Proofs.YtagnikhkmaplpaaGreat
open Go.RowKit Go.Shelf
set_option linter.unusedVariables false

/-- The values of a row of texts. -/
def valT (ts : List (List UInt8)) : List Value := ts.map fun t => .string (ofL t)
theorem valT_len (ts : List (List UInt8)) : (valT ts).length = ts.length * 1 := by simp [valT]
theorem valT_one (ts : List (List UInt8)) : ∀ u ∈ valT ts, u.oneCell' = true := by
  intro u hu
  simp only [valT, List.mem_map] at hu
  obtain ⟨t, _, rfl⟩ := hu
  rfl
theorem own_txt {W : World} {base : Nat} {v : Value} {ts : List (List UInt8)} (h : W.ownsRow base 9 1 v ts.length (valT ts)) : Txt W v ts := by
  rcases h.2 with ⟨rfl, h0⟩ | ⟨g, cap, cur, rfl, hg, hh, _, _, hsz, ht⟩
  · exact ⟨none, 0, by rw [h0], .inl (List.length_eq_zero_iff.1 h0)⟩
  · refine ⟨_, cap, rfl, .inr ⟨g, 0, rfl, (Array.getElem?_eq_some_iff.1 hh).1, fun i hi => ?_⟩⟩
    refine cell_at _ hh ?_
    have e : (valT ts)[i]? = some (.string (ofL ts[i])) := by simp [valT, hi]
    rw [← ht, List.getElem?_take_of_lt (by omega)] at e
    rw [Nat.zero_add]
    simpa using e
theorem txt_news {W : World} {b off : Nat} {ts : List (List UInt8)} (hc : ∀ i (h : i < ts.length), W.cell? ⟨b, off + i, none⟩ = some (.string (ofL ts[i]))) : ∀ j u, (valT ts)[j]? = some u → W.cell? ((⟨b, off, none⟩ : Addr).add j) = some u := by
  intro j u hu
  obtain ⟨hj, rfl⟩ := List.getElem?_eq_some_iff.1 hu
  have hj' : j < ts.length := by simpa [valT] using hj
  have := hc j hj'
  have ea : (Addr.add ⟨b, off, none⟩ j) = ⟨b, off + j, none⟩ := by
    by_cases e0 : j = 0
    · subst e0; rfl
    · simp [Addr.add, e0]
  rw [ea]
  simpa [valT] using this
theorem own_below {W W' : World} {base : Nat} {e : TypeId} {size : Nat} {v : Value} {n : Nat} {xs : List Value} (h : W.ownsRow base e size v n xs) (hB : base ≤ W.heap.size) (hg : W.grownBy W' v.ownBlock) : Below base W W' := by
  refine ⟨hg.os, hg.tape, hg.output, hg.size, fun k hk => hg.block k (by omega) fun e => ?_⟩
  rcases h.2 with ⟨rfl, _⟩ | ⟨g, cap, cur, rfl, h2, _⟩
  · cases e
  · simp only [Value.ownBlock, Option.some.injEq] at e
    omega

set_option maxRecDepth 100000 in
set_option maxHeartbeats 2000000 in
theorem Clone_any (v : Value) (ts : List (List UInt8)) (w : World) (hA : Txt w v ts) (hl : ts.length ≤ 1048576) (hnil : ∀ n c, v = .slice none n c → c = 0) :
    Calls Tryz.prog 52 #[v] w fun e w' => ∃ v', e = .returned v' ∧ w'.ownsRow w.heap.size 9 1 v' ts.length (valT ts) ∧ Below w.heap.size w w' := by
  obtain ⟨i0, hi, hz0, hz1, hz2⟩ := info_parts Tryz.info9
  obtain ⟨aa, ca, rfl, hra⟩ := hA
  have own0 : (w.alloc (.cells #[] 9)).ownsRow w.heap.size 9 1 (.slice (some ⟨w.heap.size, 0, none⟩) 0 0) 0 [] := ⟨rfl, .inr ⟨w.heap.size, 0, #[], rfl, Nat.le_refl _, World.alloc_heap_new w _, Nat.le_refl _, by unfold maxLen; omega, rfl, rfl⟩⟩
  have b0 : Below w.heap.size w (w.alloc (.cells #[] 9)) := (Below.refl _ w).alloc (Nat.le_refl _) _
  have HO := hide own0
  clear own0
  cases aa with
  | none =>
    have hs : ts = [] := by rcases hra with h | ⟨b, off, h, _⟩; exact h; cases h
    subst hs
    obtain rfl := hnil _ _ rfl
    have EQ := Lib.run_eql_slice_nil (P := Tryz.prog) w 22 9 none 0 0 0 0 Tryz.underlying22
    simp only [Option.isNone] at EQ
    go_enter Tryz.func52, Tryz.ntmps52
    go_wp2_with fail
    go_ret
    exact ⟨_, rfl, World.ownsRow_nil _ _ _ _, Below.refl _ _⟩
  | some ad =>
    by_cases h0 : ts = []
    · subst h0
      have EQ := Lib.run_eql_slice_nil (P := Tryz.prog) w 22 9 (some ad) 0 ca 0 0 Tryz.underlying22
      simp only [Option.isNone] at EQ
      go_enter Tryz.func52, Tryz.ntmps52
      go_wp2_with (at_builtin; refine wpList_append_own _ rfl (.tmp 5) (.tmp 6) 22 rfl w.heap.size 9 i0 (.string .empty) 1 16 Tryz.underlying22 hi hz0 hz1 hz2 rfl (by decide) _ _ _ rfl HO.out ad 0 ca [] rfl rfl (fun j u h => by simp at h) (fun u h => by cases h) (by unfold maxLen; omega) (by omega) (by simp) ?_; intro v' w3 own1 grow1 _)
      go_ret
      exact ⟨v', rfl, own1, b0.trans (own_below HO.out (by simp) grow1)⟩
    · obtain ⟨b, off, hab, hlb, hc⟩ : ∃ b off, some ad = some ⟨b, off, none⟩ ∧ b < w.heap.size ∧ ∀ i (h : i < ts.length), w.cell? ⟨b, off + i, none⟩ = some (.string (ofL ts[i])) := by
        rcases hra with h1 | h1
        · exact absurd h1 h0
        · exact h1
      cases hab
      have HC := hide (txt_news (W := w.alloc (.cells #[] 9)) (b := b) (off := off) (ts := ts) (fun i h => by rw [← hc i h]; simp only [World.cell?]; rw [b0.block b hlb]))
      clear hc
      have EQ := Lib.run_eql_slice_nil (P := Tryz.prog) w 22 9 (some ⟨b, off, none⟩) ts.length ca 0 0 Tryz.underlying22
      simp only [Option.isNone] at EQ
      go_enter Tryz.func52, Tryz.ntmps52
      go_wp2_with (at_builtin; refine wpList_append_own _ rfl (.tmp 5) (.tmp 6) 22 rfl w.heap.size 9 i0 (.string .empty) 1 16 Tryz.underlying22 hi hz0 hz1 hz2 rfl (by decide) _ _ _ rfl HO.out ⟨b, off, none⟩ ts.length ca (valT ts) rfl (valT_len ts) HC.out (valT_one ts) (by unfold maxLen; omega) (by omega) (by simp) ?_; intro v' w3 own1 grow1 _)
      go_ret
      refine ⟨v', rfl, ?_, b0.trans (own_below HO.out (by simp) grow1)⟩
      have := own1
      simp only [Nat.zero_add, List.nil_append] at this
      exact this

end Go.Proofs.YtagnikhkmaplpaaGreat

/-
  Walks: a version without its local part.
-/
namespace Go.Proofs.YtagnikhkmaplpaaGreat
open Go.RowKit Go.Shelf
set_option linter.unusedVariables false

theorem size24 : (Tryz.prog.info? 24).map (·.size) = some 9 := by kernel_rfl
/-- What Public leaves. -/
def PubPost (x : PepL) (w : World) (e : Ending) (w' : World) : Prop :=
  ∃ v', e = .returned (.agg #[.string (ofL x.ep), v', .int .u8 x.c, .string (ofL x.n), .bool x.b, .string (ofL x.m), .bool x.d, .string (ofL x.k), .slice none 0 0]) ∧ w'.ownsRow w.heap.size 9 1 v' x.rel.length (valT x.rel) ∧ Below w.heap.size w w'
/-- A store into a block that is no row of the call's own. -/
theorem put_in {w W : World} {K o base n k : Nat} {cs : Array Value} {t : TypeId} {v0 : Value} {xs : List Value} (v : Value) (h : W.heap[K]? = some (.cells cs t (0, 0))) (hn : n ≤ K) (hb : Below n w W) (ho : W.ownsRow base 9 1 v0 k xs) (hK : K < base) :
    ∃ W', W.setCell ⟨K, o, none⟩ v = W' ∧ W'.heap[K]? = some (.cells (cs.setIfInBounds o v) t (0, 0)) ∧ (∀ j, j ≠ K → j < W.heap.size → W'.heap[j]? = W.heap[j]?) ∧ Below n w W' ∧ W'.ownsRow base 9 1 v0 k xs ∧ W.frozen? ⟨K, o, none⟩ = false ∧ W'.heap.size = W.heap.size :=
  ⟨_, rfl, set_lies o v h, fun j hj hl => (grownBy_set W K o v).block j hl (fun e => hj (by simpa using e)), hb.setCell (p := ⟨K, o, none⟩) hn v, ownsRow_setCell_below ho (a := ⟨K, o, none⟩) hK v, one_free o h, by simp⟩
theorem own_slice {W : World} {base : Nat} {e : TypeId} {size : Nat} {v : Value} {n : Nat} {xs : List Value} (h : W.ownsRow base e size v n xs) : ∃ a k c, v = .slice a k c := by
  rcases h.2 with ⟨h, _⟩ | ⟨g, cap, cur, h, _⟩
  · exact ⟨_, _, _, h⟩
  · exact ⟨_, _, _, h⟩

set_option maxRecDepth 100000 in
set_option maxHeartbeats 4000000 in
theorem Public_any (x : PepL) (r1 q1 : Option Addr) (c1 d1 : Nat) (w : World) (rr : Txt w (.slice r1 x.rel.length c1) x.rel) (ll : Txt w (.slice q1 x.loc.length d1) x.loc) (hl : x.rel.length ≤ 1048576) (hnil : r1 = none → c1 = 0) :
    Calls Tryz.prog 22 #[.agg #[.string (ofL x.ep), .slice r1 x.rel.length c1, .int .u8 x.c, .string (ofL x.n), .bool x.b, .string (ofL x.m), .bool x.d, .string (ofL x.k), .slice q1 x.loc.length d1]] w (PubPost x w) := by
  have CL := hide (fun w h => Clone_any (.slice r1 x.rel.length c1) x.rel w h hl (by rintro n c h; cases h; exact hnil rfl))
  have S0 := TB.start rr ll
  have b1 : Below (w.alloc (.cells #[.string (ofL x.ep), .slice r1 x.rel.length c1, .int .u8 x.c, .string (ofL x.n), .bool x.b, .string (ofL x.m), .bool x.d, .string (ofL x.k), .slice q1 x.loc.length d1] 24)).heap.size (w.alloc (.cells #[.string (ofL x.ep), .slice r1 x.rel.length c1, .int .u8 x.c, .string (ofL x.n), .bool x.b, .string (ofL x.m), .bool x.d, .string (ofL x.k), .slice q1 x.loc.length d1] 24)) ((w.alloc (.cells #[.string (ofL x.ep), .slice r1 x.rel.length c1, .int .u8 x.c, .string (ofL x.n), .bool x.b, .string (ofL x.m), .bool x.d, .string (ofL x.k), .slice q1 x.loc.length d1] 24)).alloc (.cells #[.string ⟨#[]⟩, .slice none 0 0, .int .u8 0, .string ⟨#[]⟩, .bool false, .string ⟨#[]⟩, .bool false, .string ⟨#[]⟩, .slice none 0 0] 24)) := (Below.refl _ _).alloc (Nat.le_refl _) _
  have e1 := World.alloc_heap_new (w.alloc (.cells #[.string (ofL x.ep), .slice r1 x.rel.length c1, .int .u8 x.c, .string (ofL x.n), .bool x.b, .string (ofL x.m), .bool x.d, .string (ofL x.k), .slice q1 x.loc.length d1] 24)) (.cells #[.string ⟨#[]⟩, .slice none 0 0, .int .u8 0, .string ⟨#[]⟩, .bool false, .string ⟨#[]⟩, .bool false, .string ⟨#[]⟩, .slice none 0 0] 24)
  have S1 := S0.next b1
  clear rr ll
  obtain ⟨s0, s1, s2, s3, s4, s5, s6, s7, s8⟩ := S1.seen
  go_enter Tryz.func22, Tryz.ntmps22
  go_wp2_with fail
  generalize (w.alloc (.cells #[.string (ofL x.ep), .slice r1 x.rel.length c1, .int .u8 x.c, .string (ofL x.n), .bool x.b, .string (ofL x.m), .bool x.d, .string (ofL x.k), .slice q1 x.loc.length d1] 24)).alloc (.cells #[.string ⟨#[]⟩, .slice none 0 0, .int .u8 0, .string ⟨#[]⟩, .bool false, .string ⟨#[]⟩, .bool false, .string ⟨#[]⟩, .slice none 0 0] 24) = W0 at *
  refine (CL.out _ S1.rr).mono ?_
  rintro e w2 ⟨v', rfl, own2, b2⟩
  obtain ⟨va, vn, vc, rfl⟩ := own_slice own2
  have hs1 := (Array.getElem?_eq_some_iff.1 S1.ea).1
  have hs2 := (Array.getElem?_eq_some_iff.1 e1).1
  simp only [World.size_alloc] at e1 hs2
  have f1 := (b2.block _ hs1).trans S1.ea
  have f2 := (b2.block _ hs2).trans e1
  have B2 := S1.bel.trans (b2.mono S1.bel.size)
  have lt2 := (Array.getElem?_eq_some_iff.1 f2).1
  have y1 := cell_at 1 f1 rfl
  obtain ⟨P1, p1, g1, k1, B3, o3, z1, n1⟩ := put_in (o := 1) (.slice va vn vc) f1 (Nat.le_refl _) B2 own2 hs1
  change P1.heap[w.heap.size]? = some (.cells #[.string (ofL x.ep), .slice va vn vc, .int .u8 x.c, .string (ofL x.n), .bool x.b, .string (ofL x.m), .bool x.d, .string (ofL x.k), .slice q1 x.loc.length d1] 24 (0, 0)) at g1
  have y8 := cell_at 8 g1 rfl
  obtain ⟨P2, p2, g2, k2, B4, o4, z8, n2⟩ := put_in (o := 8) (.slice none 0 0) g1 (Nat.le_refl _) B3 o3 hs1
  change P2.heap[w.heap.size]? = some (.cells #[.string (ofL x.ep), .slice va vn vc, .int .u8 x.c, .string (ofL x.n), .bool x.b, .string (ofL x.m), .bool x.d, .string (ofL x.k), .slice none 0 0] 24 (0, 0)) at g2
  have h0 : P2.heap[w.heap.size + 1]? = _ := ((k2 _ (by omega) (by rw [n1]; exact lt2)).trans (k1 _ (by omega) lt2)).trans f2
  have x0 := cell_at 0 g2 rfl
  have x1 := cell_at 1 g2 rfl
  have x2 := cell_at 2 g2 rfl
  have x3 := cell_at 3 g2 rfl
  have x4 := cell_at 4 g2 rfl
  have x5 := cell_at 5 g2 rfl
  have x6 := cell_at 6 g2 rfl
  have x7 := cell_at 7 g2 rfl
  have x8 := cell_at 8 g2 rfl
  have t0 := cell_at 0 h0 rfl
  obtain ⟨Q1, q1q, h1, _, C1, u1, m1, _⟩ := put_in (o := 0) (.string (ofL x.ep)) h0 (by omega) B4 o4 hs2
  change Q1.heap[w.heap.size + 1]? = some (.cells #[.string (ofL x.ep), .slice none 0 0, .int .u8 0, .string ⟨#[]⟩, .bool false, .string ⟨#[]⟩, .bool false, .string ⟨#[]⟩, .slice none 0 0] 24 (0, 0)) at h1
  have t1 := cell_at 1 h1 rfl
  obtain ⟨Q2, q2q, h2, _, C2, u2, m2, _⟩ := put_in (o := 1) (.slice va vn vc) h1 (by omega) C1 u1 hs2
  change Q2.heap[w.heap.size + 1]? = some (.cells #[.string (ofL x.ep), .slice va vn vc, .int .u8 0, .string ⟨#[]⟩, .bool false, .string ⟨#[]⟩, .bool false, .string ⟨#[]⟩, .slice none 0 0] 24 (0, 0)) at h2
  have t2 := cell_at 2 h2 rfl
  obtain ⟨Q3, q3q, h3, _, C3, u3, m3, _⟩ := put_in (o := 2) (.int .u8 x.c) h2 (by omega) C2 u2 hs2
  change Q3.heap[w.heap.size + 1]? = some (.cells #[.string (ofL x.ep), .slice va vn vc, .int .u8 x.c, .string ⟨#[]⟩, .bool false, .string ⟨#[]⟩, .bool false, .string ⟨#[]⟩, .slice none 0 0] 24 (0, 0)) at h3
  have t3 := cell_at 3 h3 rfl
  obtain ⟨Q4, q4q, h4, _, C4, u4, m4, _⟩ := put_in (o := 3) (.string (ofL x.n)) h3 (by omega) C3 u3 hs2
  change Q4.heap[w.heap.size + 1]? = some (.cells #[.string (ofL x.ep), .slice va vn vc, .int .u8 x.c, .string (ofL x.n), .bool false, .string ⟨#[]⟩, .bool false, .string ⟨#[]⟩, .slice none 0 0] 24 (0, 0)) at h4
  have t4 := cell_at 4 h4 rfl
  obtain ⟨Q5, q5q, h5, _, C5, u5, m5, _⟩ := put_in (o := 4) (.bool x.b) h4 (by omega) C4 u4 hs2
  change Q5.heap[w.heap.size + 1]? = some (.cells #[.string (ofL x.ep), .slice va vn vc, .int .u8 x.c, .string (ofL x.n), .bool x.b, .string ⟨#[]⟩, .bool false, .string ⟨#[]⟩, .slice none 0 0] 24 (0, 0)) at h5
  have t5 := cell_at 5 h5 rfl
  obtain ⟨Q6, q6q, h6, _, C6, u6, m6, _⟩ := put_in (o := 5) (.string (ofL x.m)) h5 (by omega) C5 u5 hs2
  change Q6.heap[w.heap.size + 1]? = some (.cells #[.string (ofL x.ep), .slice va vn vc, .int .u8 x.c, .string (ofL x.n), .bool x.b, .string (ofL x.m), .bool false, .string ⟨#[]⟩, .slice none 0 0] 24 (0, 0)) at h6
  have t6 := cell_at 6 h6 rfl
  obtain ⟨Q7, q7q, h7, _, C7, u7, m7, _⟩ := put_in (o := 6) (.bool x.d) h6 (by omega) C6 u6 hs2
  change Q7.heap[w.heap.size + 1]? = some (.cells #[.string (ofL x.ep), .slice va vn vc, .int .u8 x.c, .string (ofL x.n), .bool x.b, .string (ofL x.m), .bool x.d, .string ⟨#[]⟩, .slice none 0 0] 24 (0, 0)) at h7
  have t7 := cell_at 7 h7 rfl
  obtain ⟨Q8, q8q, h8, _, C8, u8, m8, _⟩ := put_in (o := 7) (.string (ofL x.k)) h7 (by omega) C7 u7 hs2
  change Q8.heap[w.heap.size + 1]? = some (.cells #[.string (ofL x.ep), .slice va vn vc, .int .u8 x.c, .string (ofL x.n), .bool x.b, .string (ofL x.m), .bool x.d, .string (ofL x.k), .slice none 0 0] 24 (0, 0)) at h8
  have t8 := cell_at 8 h8 rfl
  obtain ⟨Q9, q9q, h9, _, C9, u9, m9, _⟩ := put_in (o := 8) (.slice none 0 0) h8 (by omega) C8 u8 hs2
  change Q9.heap[w.heap.size + 1]? = some (.cells #[.string (ofL x.ep), .slice va vn vc, .int .u8 x.c, .string (ofL x.n), .bool x.b, .string (ofL x.m), .bool x.d, .string (ofL x.k), .slice none 0 0] 24 (0, 0)) at h9
  have H9 := hide h9
  clear s0 s1 s2 s3 s4 s5 s6 s7 s8 k1 k2 g1 g2 h0 h1 h2 h3 h4 h5 h6 h7 h8 h9 f1 f2 e1
  have O9 := hide (own_weak u9 (Nat.le_of_lt hs1))
  have C9 := hide C9
  clear own2 o3 o4 u1 u2 u3 u4 u5 u6 u7 u8 u9 B2 B3 B4 C1 C2 C3 C4 C5 C6 C7 C8 S0 S1 b1 b2 CL
  go_wp2_with fail
  (try simp only [Exit.inBlock, Exit.then])
  refine bodyPost_ret (results_cell_row rfl _ _ (w.heap.size + 1) 24 _ (0, 0) _ rfl H9.out Tryz.underlying24 rfl size24) rfl ?_
  exact ⟨_, rfl, O9.out, C9.out⟩

end Go.Proofs.YtagnikhkmaplpaaGreat

/-
  Walks: a version without its local part: the document's.
-/
namespace Go.Proofs.YtagnikhkmaplpaaGreat
open Go.RowKit Go.Shelf
set_option linter.unusedVariables false

theorem alloc3_mid (W : World) (A B C : Obj) : (((W.alloc A).alloc B).alloc C).heap[W.heap.size + 1]? = some B := by
  have h := World.alloc_heap_new (W.alloc A) B
  rw [World.size_alloc] at h
  exact (((Below.refl ((W.alloc A).alloc B).heap.size _).alloc (Nat.le_refl _) C).block _ (by simp)).trans h
set_option maxRecDepth 100000 in
set_option maxHeartbeats 4000000 in
theorem RPublic_any (x : PepL) (r1 q1 : Option Addr) (c1 d1 : Nat) (w : World) (rr : Txt w (.slice r1 x.rel.length c1) x.rel) (ll : Txt w (.slice q1 x.loc.length d1) x.loc) (hl : x.rel.length ≤ 1048576) (hnil : r1 = none → c1 = 0) :
    Calls Tryz.prog 13 #[.agg #[.string (ofL x.ep), .slice r1 x.rel.length c1, .int .u8 x.c, .string (ofL x.n), .bool x.b, .string (ofL x.m), .bool x.d, .string (ofL x.k), .slice q1 x.loc.length d1]] w (PubPost x w) := by
  have S0 := TB.start rr ll
  have b1 : Below (w.alloc (.cells #[.string (ofL x.ep), .slice r1 x.rel.length c1, .int .u8 x.c, .string (ofL x.n), .bool x.b, .string (ofL x.m), .bool x.d, .string (ofL x.k), .slice q1 x.loc.length d1] 24)).heap.size (w.alloc (.cells #[.string (ofL x.ep), .slice r1 x.rel.length c1, .int .u8 x.c, .string (ofL x.n), .bool x.b, .string (ofL x.m), .bool x.d, .string (ofL x.k), .slice q1 x.loc.length d1] 24)) (((w.alloc (.cells #[.string (ofL x.ep), .slice r1 x.rel.length c1, .int .u8 x.c, .string (ofL x.n), .bool x.b, .string (ofL x.m), .bool x.d, .string (ofL x.k), .slice q1 x.loc.length d1] 24)).alloc (.cells #[.string ⟨#[]⟩, .slice none 0 0, .int .u8 0, .string ⟨#[]⟩, .bool false, .string ⟨#[]⟩, .bool false, .string ⟨#[]⟩, .slice none 0 0] 24)).alloc (.cells #[.string (ofL x.ep), .slice none 0 0, .int .u8 x.c, .string (ofL x.n), .bool x.b, .string (ofL x.m), .bool x.d, .string (ofL x.k), .slice q1 x.loc.length d1] 24)) := ((Below.refl _ _).alloc (Nat.le_refl _) _).alloc (by simp) _
  have b2 : Below ((w.alloc (.cells #[.string (ofL x.ep), .slice r1 x.rel.length c1, .int .u8 x.c, .string (ofL x.n), .bool x.b, .string (ofL x.m), .bool x.d, .string (ofL x.k), .slice q1 x.loc.length d1] 24)).alloc (.cells #[.string ⟨#[]⟩, .slice none 0 0, .int .u8 0, .string ⟨#[]⟩, .bool false, .string ⟨#[]⟩, .bool false, .string ⟨#[]⟩, .slice none 0 0] 24)).heap.size ((w.alloc (.cells #[.string (ofL x.ep), .slice r1 x.rel.length c1, .int .u8 x.c, .string (ofL x.n), .bool x.b, .string (ofL x.m), .bool x.d, .string (ofL x.k), .slice q1 x.loc.length d1] 24)).alloc (.cells #[.string ⟨#[]⟩, .slice none 0 0, .int .u8 0, .string ⟨#[]⟩, .bool false, .string ⟨#[]⟩, .bool false, .string ⟨#[]⟩, .slice none 0 0] 24)) (((w.alloc (.cells #[.string (ofL x.ep), .slice r1 x.rel.length c1, .int .u8 x.c, .string (ofL x.n), .bool x.b, .string (ofL x.m), .bool x.d, .string (ofL x.k), .slice q1 x.loc.length d1] 24)).alloc (.cells #[.string ⟨#[]⟩, .slice none 0 0, .int .u8 0, .string ⟨#[]⟩, .bool false, .string ⟨#[]⟩, .bool false, .string ⟨#[]⟩, .slice none 0 0] 24)).alloc (.cells #[.string (ofL x.ep), .slice none 0 0, .int .u8 x.c, .string (ofL x.n), .bool x.b, .string (ofL x.m), .bool x.d, .string (ofL x.k), .slice q1 x.loc.length d1] 24)) := (Below.refl _ _).alloc (Nat.le_refl _) _
  have a0 : (((w.alloc (.cells #[.string (ofL x.ep), .slice r1 x.rel.length c1, .int .u8 x.c, .string (ofL x.n), .bool x.b, .string (ofL x.m), .bool x.d, .string (ofL x.k), .slice q1 x.loc.length d1] 24)).alloc (.cells #[.string ⟨#[]⟩, .slice none 0 0, .int .u8 0, .string ⟨#[]⟩, .bool false, .string ⟨#[]⟩, .bool false, .string ⟨#[]⟩, .slice none 0 0] 24)).alloc (.cells #[.string (ofL x.ep), .slice none 0 0, .int .u8 x.c, .string (ofL x.n), .bool x.b, .string (ofL x.m), .bool x.d, .string (ofL x.k), .slice q1 x.loc.length d1] 24)).heap[w.heap.size]? = some (.cells #[.string (ofL x.ep), .slice r1 x.rel.length c1, .int .u8 x.c, .string (ofL x.n), .bool x.b, .string (ofL x.m), .bool x.d, .string (ofL x.k), .slice q1 x.loc.length d1] 24 (0, 0)) := (b1.block _ (by simp)).trans S0.ea
  have a1 : (((w.alloc (.cells #[.string (ofL x.ep), .slice r1 x.rel.length c1, .int .u8 x.c, .string (ofL x.n), .bool x.b, .string (ofL x.m), .bool x.d, .string (ofL x.k), .slice q1 x.loc.length d1] 24)).alloc (.cells #[.string ⟨#[]⟩, .slice none 0 0, .int .u8 0, .string ⟨#[]⟩, .bool false, .string ⟨#[]⟩, .bool false, .string ⟨#[]⟩, .slice none 0 0] 24)).alloc (.cells #[.string (ofL x.ep), .slice none 0 0, .int .u8 x.c, .string (ofL x.n), .bool x.b, .string (ofL x.m), .bool x.d, .string (ofL x.k), .slice q1 x.loc.length d1] 24)).heap[w.heap.size + 1]? = some (.cells #[.string ⟨#[]⟩, .slice none 0 0, .int .u8 0, .string ⟨#[]⟩, .bool false, .string ⟨#[]⟩, .bool false, .string ⟨#[]⟩, .slice none 0 0] 24 (0, 0)) := by
    have h := World.alloc_heap_new (w.alloc (.cells #[.string (ofL x.ep), .slice r1 x.rel.length c1, .int .u8 x.c, .string (ofL x.n), .bool x.b, .string (ofL x.m), .bool x.d, .string (ofL x.k), .slice q1 x.loc.length d1] 24)) (.cells #[.string ⟨#[]⟩, .slice none 0 0, .int .u8 0, .string ⟨#[]⟩, .bool false, .string ⟨#[]⟩, .bool false, .string ⟨#[]⟩, .slice none 0 0] 24)
    rw [World.size_alloc] at h
    exact (b2.block _ (by simp)).trans h
  have g1 : (((w.alloc (.cells #[.string (ofL x.ep), .slice r1 x.rel.length c1, .int .u8 x.c, .string (ofL x.n), .bool x.b, .string (ofL x.m), .bool x.d, .string (ofL x.k), .slice q1 x.loc.length d1] 24)).alloc (.cells #[.string ⟨#[]⟩, .slice none 0 0, .int .u8 0, .string ⟨#[]⟩, .bool false, .string ⟨#[]⟩, .bool false, .string ⟨#[]⟩, .slice none 0 0] 24)).alloc (.cells #[.string (ofL x.ep), .slice none 0 0, .int .u8 x.c, .string (ofL x.n), .bool x.b, .string (ofL x.m), .bool x.d, .string (ofL x.k), .slice q1 x.loc.length d1] 24)).heap[w.heap.size + 1 + 1]? = some (.cells #[.string (ofL x.ep), .slice none 0 0, .int .u8 x.c, .string (ofL x.n), .bool x.b, .string (ofL x.m), .bool x.d, .string (ofL x.k), .slice q1 x.loc.length d1] 24 (0, 0)) := by
    have h := World.alloc_heap_new ((w.alloc (.cells #[.string (ofL x.ep), .slice r1 x.rel.length c1, .int .u8 x.c, .string (ofL x.n), .bool x.b, .string (ofL x.m), .bool x.d, .string (ofL x.k), .slice q1 x.loc.length d1] 24)).alloc (.cells #[.string ⟨#[]⟩, .slice none 0 0, .int .u8 0, .string ⟨#[]⟩, .bool false, .string ⟨#[]⟩, .bool false, .string ⟨#[]⟩, .slice none 0 0] 24)) (.cells #[.string (ofL x.ep), .slice none 0 0, .int .u8 x.c, .string (ofL x.n), .bool x.b, .string (ofL x.m), .bool x.d, .string (ofL x.k), .slice q1 x.loc.length d1] 24)
    rw [World.size_alloc, World.size_alloc] at h
    exact h
  have lP : (((w.alloc (.cells #[.string (ofL x.ep), .slice r1 x.rel.length c1, .int .u8 x.c, .string (ofL x.n), .bool x.b, .string (ofL x.m), .bool x.d, .string (ofL x.k), .slice q1 x.loc.length d1] 24)).alloc (.cells #[.string ⟨#[]⟩, .slice none 0 0, .int .u8 0, .string ⟨#[]⟩, .bool false, .string ⟨#[]⟩, .bool false, .string ⟨#[]⟩, .slice none 0 0] 24)).alloc (.cells #[.string (ofL x.ep), .slice none 0 0, .int .u8 x.c, .string (ofL x.n), .bool x.b, .string (ofL x.m), .bool x.d, .string (ofL x.k), .slice q1 x.loc.length d1] 24)).heap.size = w.heap.size + 1 + 1 + 1 := by simp
  have B1 := S0.bel.trans (b1.mono S0.bel.size)
  have HO := hide (World.ownsRow_nil (((w.alloc (.cells #[.string (ofL x.ep), .slice r1 x.rel.length c1, .int .u8 x.c, .string (ofL x.n), .bool x.b, .string (ofL x.m), .bool x.d, .string (ofL x.k), .slice q1 x.loc.length d1] 24)).alloc (.cells #[.string ⟨#[]⟩, .slice none 0 0, .int .u8 0, .string ⟨#[]⟩, .bool false, .string ⟨#[]⟩, .bool false, .string ⟨#[]⟩, .slice none 0 0] 24)).alloc (.cells #[.string (ofL x.ep), .slice none 0 0, .int .u8 x.c, .string (ofL x.n), .bool x.b, .string (ofL x.m), .bool x.d, .string (ofL x.k), .slice q1 x.loc.length d1] 24)) (((w.alloc (.cells #[.string (ofL x.ep), .slice r1 x.rel.length c1, .int .u8 x.c, .string (ofL x.n), .bool x.b, .string (ofL x.m), .bool x.d, .string (ofL x.k), .slice q1 x.loc.length d1] 24)).alloc (.cells #[.string ⟨#[]⟩, .slice none 0 0, .int .u8 0, .string ⟨#[]⟩, .bool false, .string ⟨#[]⟩, .bool false, .string ⟨#[]⟩, .slice none 0 0] 24)).alloc (.cells #[.string (ofL x.ep), .slice none 0 0, .int .u8 x.c, .string (ofL x.n), .bool x.b, .string (ofL x.m), .bool x.d, .string (ofL x.k), .slice q1 x.loc.length d1] 24)).heap.size 9 1)
  obtain ⟨i0, hi, hz0, hz1, hz2⟩ := info_parts Tryz.info9
  clear S0 b1 b2 ll
  cases r1 with
  | none =>
    obtain rfl := hnil rfl
    have hs : x.rel = [] := by
      obtain ⟨a, c, hv, hra⟩ := rr
      cases hv
      rcases hra with h | ⟨b, off, h, _⟩
      · exact h
      · cases h
    have hl0 : x.rel.length = 0 := by rw [hs]; rfl
    have hv0 : valT x.rel = [] := by rw [hs]; rfl
    clear a0 a1 g1 lP B1 rr
    rw [hl0] at HO ⊢
    go_enter Tryz.func13, Tryz.ntmps13
    go_wp2_with (at_builtin; refine wpList_append_own_none rfl (.tmp 7) (.tmp 9) 22 rfl _ 9 i0 1 Tryz.underlying22 hi _ 0 _ rfl HO.out rfl ?_)
    (try simp only [Exit.inBlock, Exit.then])
    refine bodyPost_ret (results_cell_row rfl _ _ (w.heap.size + 1) 24 #[.string (ofL x.ep), .slice none 0 0, .int .u8 x.c, .string (ofL x.n), .bool x.b, .string (ofL x.m), .bool x.d, .string (ofL x.k), .slice none 0 0] (0, 0) _ rfl (alloc3_mid _ _ _ _) Tryz.underlying24 rfl size24) rfl ?_
    refine ⟨_, rfl, ?_, (((Below.refl _ w).alloc (Nat.le_refl _) _).alloc (by simp) _).alloc (by simp; omega) _⟩
    rw [hl0, hv0]
    exact World.ownsRow_nil _ _ _ _
  | some ad =>
    by_cases h0 : x.rel = []
    · have hl0 : x.rel.length = 0 := by rw [h0]; rfl
      have hv0 : valT x.rel = [] := by rw [h0]; rfl
      clear rr
      rw [hl0] at a0 a1 g1 lP B1 HO ⊢
      go_enter Tryz.func13, Tryz.ntmps13
      go_wp2_with (at_builtin; refine wpList_append_own _ rfl (.tmp 7) (.tmp 9) 22 rfl _ 9 i0 (.string .empty) 1 16 Tryz.underlying22 hi hz0 hz1 hz2 rfl (by decide) _ _ _ rfl HO.out ad 0 c1 [] rfl rfl (fun j u h => by simp at h) (fun u h => by cases h) (by unfold maxLen; omega) (by omega) (Nat.le_refl _) ?_; intro v' w3 own1 grow1 _; have own3 : w3.ownsRow _ 9 1 v' x.rel.length (valT x.rel) := (by rw [hl0, hv0]; exact own1); have B3 := B1.trans (own_below HO.out (Nat.le_refl _) grow1 |>.mono B1.size); have f0 := (grow1.block _ (by rw [lP]; omega) (fun e => by cases e)).trans a0; have f1 := (grow1.block _ (by rw [lP]; omega) (fun e => by cases e)).trans a1; have f2 := (grow1.block _ (by rw [lP]; omega) (fun e => by cases e)).trans g1; obtain ⟨va, vn, vc, rfl⟩ := own_slice own3; have y1 := cell_at 1 f2 rfl; obtain ⟨R1, e1e, g1, k1, B4, o4, z1, n1⟩ := put_in (o := 1) (.slice va vn vc) f2 (by omega) B3 own3 (by rw [lP]; omega); change R1.heap[w.heap.size + 1 + 1]? = some (.cells #[.string (ofL x.ep), .slice va vn vc, .int .u8 x.c, .string (ofL x.n), .bool x.b, .string (ofL x.m), .bool x.d, .string (ofL x.k), .slice q1 x.loc.length d1] 24 (0, 0)) at g1; have y8 := cell_at 8 g1 rfl; obtain ⟨R2, e2e, g2, k2, B5, o5, z8, n2⟩ := put_in (o := 8) (.slice none 0 0) g1 (by omega) B4 o4 (by rw [lP]; omega); change R2.heap[w.heap.size + 1 + 1]? = some (.cells #[.string (ofL x.ep), .slice va vn vc, .int .u8 x.c, .string (ofL x.n), .bool x.b, .string (ofL x.m), .bool x.d, .string (ofL x.k), .slice none 0 0] 24 (0, 0)) at g2; have lt1 := (Array.getElem?_eq_some_iff.1 f1).1; have h0 : R2.heap[w.heap.size + 1]? = _ := ((k2 _ (by omega) (by rw [n1]; exact lt1)).trans (k1 _ (by omega) lt1)).trans f1; have x0 := cell_at 0 g2 rfl; have x1 := cell_at 1 g2 rfl; have x2 := cell_at 2 g2 rfl; have x3 := cell_at 3 g2 rfl; have x4 := cell_at 4 g2 rfl; have x5 := cell_at 5 g2 rfl; have x6 := cell_at 6 g2 rfl; have x7 := cell_at 7 g2 rfl; have x8 := cell_at 8 g2 rfl; have t0 := cell_at 0 h0 rfl; obtain ⟨Q1, q1q, h1, _, C1, u1, m1, _⟩ := put_in (o := 0) (.string (ofL x.ep)) h0 (by omega) B5 o5 (by rw [lP]; omega); change Q1.heap[w.heap.size + 1]? = some (.cells #[.string (ofL x.ep), .slice none 0 0, .int .u8 0, .string ⟨#[]⟩, .bool false, .string ⟨#[]⟩, .bool false, .string ⟨#[]⟩, .slice none 0 0] 24 (0, 0)) at h1; have t1 := cell_at 1 h1 rfl; obtain ⟨Q2, q2q, h2, _, C2, u2, m2, _⟩ := put_in (o := 1) (.slice va vn vc) h1 (by omega) C1 u1 (by rw [lP]; omega); change Q2.heap[w.heap.size + 1]? = some (.cells #[.string (ofL x.ep), .slice va vn vc, .int .u8 0, .string ⟨#[]⟩, .bool false, .string ⟨#[]⟩, .bool false, .string ⟨#[]⟩, .slice none 0 0] 24 (0, 0)) at h2; have t2 := cell_at 2 h2 rfl; obtain ⟨Q3, q3q, h3, _, C3, u3, m3, _⟩ := put_in (o := 2) (.int .u8 x.c) h2 (by omega) C2 u2 (by rw [lP]; omega); change Q3.heap[w.heap.size + 1]? = some (.cells #[.string (ofL x.ep), .slice va vn vc, .int .u8 x.c, .string ⟨#[]⟩, .bool false, .string ⟨#[]⟩, .bool false, .string ⟨#[]⟩, .slice none 0 0] 24 (0, 0)) at h3; have t3 := cell_at 3 h3 rfl; obtain ⟨Q4, q4q, h4, _, C4, u4, m4, _⟩ := put_in (o := 3) (.string (ofL x.n)) h3 (by omega) C3 u3 (by rw [lP]; omega); change Q4.heap[w.heap.size + 1]? = some (.cells #[.string (ofL x.ep), .slice va vn vc, .int .u8 x.c, .string (ofL x.n), .bool false, .string ⟨#[]⟩, .bool false, .string ⟨#[]⟩, .slice none 0 0] 24 (0, 0)) at h4; have t4 := cell_at 4 h4 rfl; obtain ⟨Q5, q5q, h5, _, C5, u5, m5, _⟩ := put_in (o := 4) (.bool x.b) h4 (by omega) C4 u4 (by rw [lP]; omega); change Q5.heap[w.heap.size + 1]? = some (.cells #[.string (ofL x.ep), .slice va vn vc, .int .u8 x.c, .string (ofL x.n), .bool x.b, .string ⟨#[]⟩, .bool false, .string ⟨#[]⟩, .slice none 0 0] 24 (0, 0)) at h5; have t5 := cell_at 5 h5 rfl; obtain ⟨Q6, q6q, h6, _, C6, u6, m6, _⟩ := put_in (o := 5) (.string (ofL x.m)) h5 (by omega) C5 u5 (by rw [lP]; omega); change Q6.heap[w.heap.size + 1]? = some (.cells #[.string (ofL x.ep), .slice va vn vc, .int .u8 x.c, .string (ofL x.n), .bool x.b, .string (ofL x.m), .bool false, .string ⟨#[]⟩, .slice none 0 0] 24 (0, 0)) at h6; have t6 := cell_at 6 h6 rfl; obtain ⟨Q7, q7q, h7, _, C7, u7, m7, _⟩ := put_in (o := 6) (.bool x.d) h6 (by omega) C6 u6 (by rw [lP]; omega); change Q7.heap[w.heap.size + 1]? = some (.cells #[.string (ofL x.ep), .slice va vn vc, .int .u8 x.c, .string (ofL x.n), .bool x.b, .string (ofL x.m), .bool x.d, .string ⟨#[]⟩, .slice none 0 0] 24 (0, 0)) at h7; have t7 := cell_at 7 h7 rfl; obtain ⟨Q8, q8q, h8, _, C8, u8, m8, _⟩ := put_in (o := 7) (.string (ofL x.k)) h7 (by omega) C7 u7 (by rw [lP]; omega); change Q8.heap[w.heap.size + 1]? = some (.cells #[.string (ofL x.ep), .slice va vn vc, .int .u8 x.c, .string (ofL x.n), .bool x.b, .string (ofL x.m), .bool x.d, .string (ofL x.k), .slice none 0 0] 24 (0, 0)) at h8; have t8 := cell_at 8 h8 rfl; obtain ⟨Q9, q9q, h9, _, C9, u9, m9, _⟩ := put_in (o := 8) (.slice none 0 0) h8 (by omega) C8 u8 (by rw [lP]; omega); change Q9.heap[w.heap.size + 1]? = some (.cells #[.string (ofL x.ep), .slice va vn vc, .int .u8 x.c, .string (ofL x.n), .bool x.b, .string (ofL x.m), .bool x.d, .string (ofL x.k), .slice none 0 0] 24 (0, 0)) at h9; have H9 := hide h9; have O9 := hide (own_weak (b := w.heap.size) u9 (by rw [lP]; omega)); have C9 := hide C9; clear k1 k2 g1 g2 h0 h1 h2 h3 h4 h5 h6 h7 h8 h9 f0 f1 f2 own3 o4 o5 u1 u2 u3 u4 u5 u6 u7 u8 u9 B3 B4 B5 C1 C2 C3 C4 C5 C6 C7 C8)
      (try simp only [Exit.inBlock, Exit.then])
      refine bodyPost_ret (results_cell_row rfl _ _ (w.heap.size + 1) 24 _ (0, 0) _ rfl H9.out Tryz.underlying24 rfl size24) rfl ?_
      exact ⟨_, rfl, O9.out, C9.out⟩
    · obtain ⟨_, _, hv, hra⟩ := rr.below B1
      obtain ⟨b, off, hab, hlb, hc⟩ : ∃ b off, some ad = some ⟨b, off, none⟩ ∧ b < (((w.alloc (.cells #[.string (ofL x.ep), .slice (some ad) x.rel.length c1, .int .u8 x.c, .string (ofL x.n), .bool x.b, .string (ofL x.m), .bool x.d, .string (ofL x.k), .slice q1 x.loc.length d1] 24)).alloc (.cells #[.string ⟨#[]⟩, .slice none 0 0, .int .u8 0, .string ⟨#[]⟩, .bool false, .string ⟨#[]⟩, .bool false, .string ⟨#[]⟩, .slice none 0 0] 24)).alloc (.cells #[.string (ofL x.ep), .slice none 0 0, .int .u8 x.c, .string (ofL x.n), .bool x.b, .string (ofL x.m), .bool x.d, .string (ofL x.k), .slice q1 x.loc.length d1] 24)).heap.size ∧ ∀ i (h : i < x.rel.length), (((w.alloc (.cells #[.string (ofL x.ep), .slice (some ad) x.rel.length c1, .int .u8 x.c, .string (ofL x.n), .bool x.b, .string (ofL x.m), .bool x.d, .string (ofL x.k), .slice q1 x.loc.length d1] 24)).alloc (.cells #[.string ⟨#[]⟩, .slice none 0 0, .int .u8 0, .string ⟨#[]⟩, .bool false, .string ⟨#[]⟩, .bool false, .string ⟨#[]⟩, .slice none 0 0] 24)).alloc (.cells #[.string (ofL x.ep), .slice none 0 0, .int .u8 x.c, .string (ofL x.n), .bool x.b, .string (ofL x.m), .bool x.d, .string (ofL x.k), .slice q1 x.loc.length d1] 24)).cell? ⟨b, off + i, none⟩ = some (.string (ofL x.rel[i])) := by
        cases hv
        rcases hra with h1 | h1
        · exact absurd h1 h0
        · exact h1
      cases hab
      have HC := hide (txt_news hc)
      clear hc
      go_enter Tryz.func13, Tryz.ntmps13
      go_wp2_with (at_builtin; refine wpList_append_own _ rfl (.tmp 7) (.tmp 9) 22 rfl _ 9 i0 (.string .empty) 1 16 Tryz.underlying22 hi hz0 hz1 hz2 rfl (by decide) _ _ _ rfl HO.out ⟨b, off, none⟩ x.rel.length c1 (valT x.rel) rfl (valT_len _) HC.out (valT_one _) (by unfold maxLen; omega) (by omega) (Nat.le_refl _) ?_; intro v' w3 own1 grow1 _; have own3 : w3.ownsRow _ 9 1 v' x.rel.length (valT x.rel) := (by simpa only [Nat.zero_add, List.nil_append] using own1); have B3 := B1.trans (own_below HO.out (Nat.le_refl _) grow1 |>.mono B1.size); have f0 := (grow1.block _ (by rw [lP]; omega) (fun e => by cases e)).trans a0; have f1 := (grow1.block _ (by rw [lP]; omega) (fun e => by cases e)).trans a1; have f2 := (grow1.block _ (by rw [lP]; omega) (fun e => by cases e)).trans g1; obtain ⟨va, vn, vc, rfl⟩ := own_slice own3; have y1 := cell_at 1 f2 rfl; obtain ⟨R1, e1e, g1, k1, B4, o4, z1, n1⟩ := put_in (o := 1) (.slice va vn vc) f2 (by omega) B3 own3 (by rw [lP]; omega); change R1.heap[w.heap.size + 1 + 1]? = some (.cells #[.string (ofL x.ep), .slice va vn vc, .int .u8 x.c, .string (ofL x.n), .bool x.b, .string (ofL x.m), .bool x.d, .string (ofL x.k), .slice q1 x.loc.length d1] 24 (0, 0)) at g1; have y8 := cell_at 8 g1 rfl; obtain ⟨R2, e2e, g2, k2, B5, o5, z8, n2⟩ := put_in (o := 8) (.slice none 0 0) g1 (by omega) B4 o4 (by rw [lP]; omega); change R2.heap[w.heap.size + 1 + 1]? = some (.cells #[.string (ofL x.ep), .slice va vn vc, .int .u8 x.c, .string (ofL x.n), .bool x.b, .string (ofL x.m), .bool x.d, .string (ofL x.k), .slice none 0 0] 24 (0, 0)) at g2; have lt1 := (Array.getElem?_eq_some_iff.1 f1).1; have h0 : R2.heap[w.heap.size + 1]? = _ := ((k2 _ (by omega) (by rw [n1]; exact lt1)).trans (k1 _ (by omega) lt1)).trans f1; have x0 := cell_at 0 g2 rfl; have x1 := cell_at 1 g2 rfl; have x2 := cell_at 2 g2 rfl; have x3 := cell_at 3 g2 rfl; have x4 := cell_at 4 g2 rfl; have x5 := cell_at 5 g2 rfl; have x6 := cell_at 6 g2 rfl; have x7 := cell_at 7 g2 rfl; have x8 := cell_at 8 g2 rfl; have t0 := cell_at 0 h0 rfl; obtain ⟨Q1, q1q, h1, _, C1, u1, m1, _⟩ := put_in (o := 0) (.string (ofL x.ep)) h0 (by omega) B5 o5 (by rw [lP]; omega); change Q1.heap[w.heap.size + 1]? = some (.cells #[.string (ofL x.ep), .slice none 0 0, .int .u8 0, .string ⟨#[]⟩, .bool false, .string ⟨#[]⟩, .bool false, .string ⟨#[]⟩, .slice none 0 0] 24 (0, 0)) at h1; have t1 := cell_at 1 h1 rfl; obtain ⟨Q2, q2q, h2, _, C2, u2, m2, _⟩ := put_in (o := 1) (.slice va vn vc) h1 (by omega) C1 u1 (by rw [lP]; omega); change Q2.heap[w.heap.size + 1]? = some (.cells #[.string (ofL x.ep), .slice va vn vc, .int .u8 0, .string ⟨#[]⟩, .bool false, .string ⟨#[]⟩, .bool false, .string ⟨#[]⟩, .slice none 0 0] 24 (0, 0)) at h2; have t2 := cell_at 2 h2 rfl; obtain ⟨Q3, q3q, h3, _, C3, u3, m3, _⟩ := put_in (o := 2) (.int .u8 x.c) h2 (by omega) C2 u2 (by rw [lP]; omega); change Q3.heap[w.heap.size + 1]? = some (.cells #[.string (ofL x.ep), .slice va vn vc, .int .u8 x.c, .string ⟨#[]⟩, .bool false, .string ⟨#[]⟩, .bool false, .string ⟨#[]⟩, .slice none 0 0] 24 (0, 0)) at h3; have t3 := cell_at 3 h3 rfl; obtain ⟨Q4, q4q, h4, _, C4, u4, m4, _⟩ := put_in (o := 3) (.string (ofL x.n)) h3 (by omega) C3 u3 (by rw [lP]; omega); change Q4.heap[w.heap.size + 1]? = some (.cells #[.string (ofL x.ep), .slice va vn vc, .int .u8 x.c, .string (ofL x.n), .bool false, .string ⟨#[]⟩, .bool false, .string ⟨#[]⟩, .slice none 0 0] 24 (0, 0)) at h4; have t4 := cell_at 4 h4 rfl; obtain ⟨Q5, q5q, h5, _, C5, u5, m5, _⟩ := put_in (o := 4) (.bool x.b) h4 (by omega) C4 u4 (by rw [lP]; omega); change Q5.heap[w.heap.size + 1]? = some (.cells #[.string (ofL x.ep), .slice va vn vc, .int .u8 x.c, .string (ofL x.n), .bool x.b, .string ⟨#[]⟩, .bool false, .string ⟨#[]⟩, .slice none 0 0] 24 (0, 0)) at h5; have t5 := cell_at 5 h5 rfl; obtain ⟨Q6, q6q, h6, _, C6, u6, m6, _⟩ := put_in (o := 5) (.string (ofL x.m)) h5 (by omega) C5 u5 (by rw [lP]; omega); change Q6.heap[w.heap.size + 1]? = some (.cells #[.string (ofL x.ep), .slice va vn vc, .int .u8 x.c, .string (ofL x.n), .bool x.b, .string (ofL x.m), .bool false, .string ⟨#[]⟩, .slice none 0 0] 24 (0, 0)) at h6; have t6 := cell_at 6 h6 rfl; obtain ⟨Q7, q7q, h7, _, C7, u7, m7, _⟩ := put_in (o := 6) (.bool x.d) h6 (by omega) C6 u6 (by rw [lP]; omega); change Q7.heap[w.heap.size + 1]? = some (.cells #[.string (ofL x.ep), .slice va vn vc, .int .u8 x.c, .string (ofL x.n), .bool x.b, .string (ofL x.m), .bool x.d, .string ⟨#[]⟩, .slice none 0 0] 24 (0, 0)) at h7; have t7 := cell_at 7 h7 rfl; obtain ⟨Q8, q8q, h8, _, C8, u8, m8, _⟩ := put_in (o := 7) (.string (ofL x.k)) h7 (by omega) C7 u7 (by rw [lP]; omega); change Q8.heap[w.heap.size + 1]? = some (.cells #[.string (ofL x.ep), .slice va vn vc, .int .u8 x.c, .string (ofL x.n), .bool x.b, .string (ofL x.m), .bool x.d, .string (ofL x.k), .slice none 0 0] 24 (0, 0)) at h8; have t8 := cell_at 8 h8 rfl; obtain ⟨Q9, q9q, h9, _, C9, u9, m9, _⟩ := put_in (o := 8) (.slice none 0 0) h8 (by omega) C8 u8 (by rw [lP]; omega); change Q9.heap[w.heap.size + 1]? = some (.cells #[.string (ofL x.ep), .slice va vn vc, .int .u8 x.c, .string (ofL x.n), .bool x.b, .string (ofL x.m), .bool x.d, .string (ofL x.k), .slice none 0 0] 24 (0, 0)) at h9; have H9 := hide h9; have O9 := hide (own_weak (b := w.heap.size) u9 (by rw [lP]; omega)); have C9 := hide C9; clear k1 k2 g1 g2 h0 h1 h2 h3 h4 h5 h6 h7 h8 h9 f0 f1 f2 own3 o4 o5 u1 u2 u3 u4 u5 u6 u7 u8 u9 B3 B4 B5 C1 C2 C3 C4 C5 C6 C7 C8)
      (try simp only [Exit.inBlock, Exit.then])
      refine bodyPost_ret (results_cell_row rfl _ _ (w.heap.size + 1) 24 _ (0, 0) _ rfl H9.out Tryz.underlying24 rfl size24) rfl ?_
      exact ⟨_, rfl, O9.out, C9.out⟩

end Go.Proofs.YtagnikhkmaplpaaGreat

/-
  append of a row of texts onto a row of the call's own, wherever the texts lie.
-/
namespace Go.Proofs.YtagnikhkmaplpaaGreat
open Go.RowKit Go.Shelf
set_option linter.unusedVariables false

theorem wpList_append_txt (w : World) {ops : Array Oper} {rest : List Oper} {o : Oper} {a : Act} {Q : Exit → Act → World → Prop} (hgd : o.guard = none) (s x : Operand)
    (ho : o.op = .call { callee := .builtin .append, args := #[s, x], argTypes := #[22, 22] }) (base : Nat) (v : Value) (n : Nat) (xs : List Value) (hs : a.eval s = v) (hown : w.ownsRow base 9 1 v n xs)
    (q : Option Addr) (c : Nat) (ts : List (List UInt8)) (hx : a.eval x = .slice q ts.length c) (ht : Txt w (.slice q ts.length c) ts) (hnil : q = none → c = 0) (hl : n + ts.length ≤ 1048576) (hbase : base ≤ w.heap.size)
    (h : ∀ v' w', w'.ownsRow base 9 1 v' (n + ts.length) (xs ++ valT ts) → w.grownBy w' v.ownBlock → wpList Tryz.prog ops Q rest (a.put o.dst v') w') : wpList Tryz.prog ops Q (o :: rest) a w := by
  obtain ⟨i0, hi, hz0, hz1, hz2⟩ := info_parts Tryz.info9
  obtain ⟨q', c', hv, hra⟩ := ht
  cases hv
  cases q with
  | none =>
    obtain rfl := hnil rfl
    have h0 : ts = [] := by
      rcases hra with h | ⟨b, off, h, _⟩
      · exact h
      · cases h
    subst h0
    refine wpList_append_own_none hgd s x 22 ho base 9 i0 1 Tryz.underlying22 hi v n xs hs hown hx (h v w ?_ ⟨rfl, rfl, rfl, Nat.le_refl _, fun _ _ _ => rfl⟩)
    simpa [valT] using hown
  | some ad =>
    refine wpList_append_own w hgd s x 22 ho base 9 i0 (.string .empty) 1 16 Tryz.underlying22 hi hz0 hz1 hz2 rfl (by decide) v n xs hs hown ad ts.length c (valT ts) hx (valT_len ts) ?_ (valT_one ts) (by unfold maxLen; omega) (by omega) hbase (fun v' w' h2 h3 _ => h v' w' h2 h3)
    rcases hra with h0 | ⟨b, off, hab, _, hc⟩
    · subst h0
      intro j u hu
      simp [valT] at hu
    · cases hab
      exact txt_news hc

end Go.Proofs.YtagnikhkmaplpaaGreat

/-
  Three versions in their boxes: the law's two, and one of the call's own that is the first's alike.
-/
namespace Go.Proofs.YtagnikhkmaplpaaGreat
open Go.RowKit Go.Shelf
set_option linter.unusedVariables false

/-- Two versions in their boxes, and a third that is the first's alike. -/
structure TRI (w : World) (x y : PepL) (r1 r2 r3 q1 q2 q3 : Option Addr) (c1 c2 c3 d1 d2 d3 K : Nat) (W : World) : Prop where
  bel : Below w.heap.size w W
  ea : W.heap[w.heap.size]? = some (.cells #[.string (ofL x.ep), .slice r1 x.rel.length c1, .int .u8 x.c, .string (ofL x.n), .bool x.b, .string (ofL x.m), .bool x.d, .string (ofL x.k), .slice q1 x.loc.length d1] 24 (0, 0))
  eb : W.heap[w.heap.size + 1]? = some (.cells #[.string (ofL y.ep), .slice r2 y.rel.length c2, .int .u8 y.c, .string (ofL y.n), .bool y.b, .string (ofL y.m), .bool y.d, .string (ofL y.k), .slice q2 y.loc.length d2] 24 (0, 0))
  eo : W.heap[K]? = some (.cells #[.string (ofL x.ep), .slice r3 x.rel.length c3, .int .u8 x.c, .string (ofL x.n), .bool x.b, .string (ofL x.m), .bool x.d, .string (ofL x.k), .slice q3 x.loc.length d3] 24 (0, 0))
  ra : Txt W (.slice r1 x.rel.length c1) x.rel
  rb : Txt W (.slice r2 y.rel.length c2) y.rel
  ro : Txt W (.slice r3 x.rel.length c3) x.rel
  la : Txt W (.slice q1 x.loc.length d1) x.loc
  lb : Txt W (.slice q2 y.loc.length d2) y.loc
  lo : Txt W (.slice q3 x.loc.length d3) x.loc
theorem TRI.next {w W : World} {x y : PepL} {r1 r2 r3 q1 q2 q3 : Option Addr} {c1 c2 c3 d1 d2 d3 K : Nat} {W' : World} (h : TRI w x y r1 r2 r3 q1 q2 q3 c1 c2 c3 d1 d2 d3 K W) (hb : Below W.heap.size W W') : TRI w x y r1 r2 r3 q1 q2 q3 c1 c2 c3 d1 d2 d3 K W' :=
  ⟨h.bel.trans (hb.mono h.bel.size), (hb.block _ (Array.getElem?_eq_some_iff.1 h.ea).1).trans h.ea, (hb.block _ (Array.getElem?_eq_some_iff.1 h.eb).1).trans h.eb, (hb.block _ (Array.getElem?_eq_some_iff.1 h.eo).1).trans h.eo,
    h.ra.below hb, h.rb.below hb, h.ro.below hb, h.la.below hb, h.lb.below hb, h.lo.below hb⟩
theorem TRI.seen {w W : World} {x y : PepL} {r1 r2 r3 q1 q2 q3 : Option Addr} {c1 c2 c3 d1 d2 d3 K : Nat} (h : TRI w x y r1 r2 r3 q1 q2 q3 c1 c2 c3 d1 d2 d3 K W) : W.cell? ⟨w.heap.size, 0, none⟩ = some (.string (ofL x.ep)) ∧ W.cell? ⟨w.heap.size, 1, none⟩ = some (.slice r1 x.rel.length c1) ∧ W.cell? ⟨w.heap.size, 2, none⟩ = some (.int .u8 x.c) ∧ W.cell? ⟨w.heap.size, 3, none⟩ = some (.string (ofL x.n)) ∧ W.cell? ⟨w.heap.size, 4, none⟩ = some (.bool x.b) ∧ W.cell? ⟨w.heap.size, 5, none⟩ = some (.string (ofL x.m)) ∧ W.cell? ⟨w.heap.size, 6, none⟩ = some (.bool x.d) ∧ W.cell? ⟨w.heap.size, 7, none⟩ = some (.string (ofL x.k)) ∧ W.cell? ⟨w.heap.size, 8, none⟩ = some (.slice q1 x.loc.length d1) ∧ W.cell? ⟨w.heap.size + 1, 0, none⟩ = some (.string (ofL y.ep)) ∧ W.cell? ⟨w.heap.size + 1, 1, none⟩ = some (.slice r2 y.rel.length c2) ∧ W.cell? ⟨w.heap.size + 1, 2, none⟩ = some (.int .u8 y.c) ∧ W.cell? ⟨w.heap.size + 1, 3, none⟩ = some (.string (ofL y.n)) ∧ W.cell? ⟨w.heap.size + 1, 4, none⟩ = some (.bool y.b) ∧ W.cell? ⟨w.heap.size + 1, 5, none⟩ = some (.string (ofL y.m)) ∧ W.cell? ⟨w.heap.size + 1, 6, none⟩ = some (.bool y.d) ∧ W.cell? ⟨w.heap.size + 1, 7, none⟩ = some (.string (ofL y.k)) ∧ W.cell? ⟨w.heap.size + 1, 8, none⟩ = some (.slice q2 y.loc.length d2) ∧ W.cell? ⟨K, 0, none⟩ = some (.string (ofL x.ep)) ∧ W.cell? ⟨K, 1, none⟩ = some (.slice r3 x.rel.length c3) ∧ W.cell? ⟨K, 2, none⟩ = some (.int .u8 x.c) ∧ W.cell? ⟨K, 3, none⟩ = some (.string (ofL x.n)) ∧ W.cell? ⟨K, 4, none⟩ = some (.bool x.b) ∧ W.cell? ⟨K, 5, none⟩ = some (.string (ofL x.m)) ∧ W.cell? ⟨K, 6, none⟩ = some (.bool x.d) ∧ W.cell? ⟨K, 7, none⟩ = some (.string (ofL x.k)) ∧ W.cell? ⟨K, 8, none⟩ = some (.slice q3 x.loc.length d3) :=
  ⟨cell_at 0 h.ea rfl, cell_at 1 h.ea rfl, cell_at 2 h.ea rfl, cell_at 3 h.ea rfl, cell_at 4 h.ea rfl, cell_at 5 h.ea rfl, cell_at 6 h.ea rfl, cell_at 7 h.ea rfl, cell_at 8 h.ea rfl, cell_at 0 h.eb rfl, cell_at 1 h.eb rfl, cell_at 2 h.eb rfl, cell_at 3 h.eb rfl, cell_at 4 h.eb rfl, cell_at 5 h.eb rfl, cell_at 6 h.eb rfl, cell_at 7 h.eb rfl, cell_at 8 h.eb rfl, cell_at 0 h.eo rfl, cell_at 1 h.eo rfl, cell_at 2 h.eo rfl, cell_at 3 h.eo rfl, cell_at 4 h.eo rfl, cell_at 5 h.eo rfl, cell_at 6 h.eo rfl, cell_at 7 h.eo rfl, cell_at 8 h.eo rfl⟩

end Go.Proofs.YtagnikhkmaplpaaGreat

/-
  PepDoes: its walk.
-/
namespace Go.Proofs.YtagnikhkmaplpaaGreat
open Go.RowKit Go.Shelf
set_option linter.unusedVariables false

theorem own_put {W : World} {base g cap n j : Nat} {e : TypeId} {size : Nat} {xs : List Value} (h : W.ownsRow base e size (.slice (some ⟨g, 0, none⟩) n cap) n xs) (hj : j < n * size) (u : Value) :
    (W.setCell ⟨g, j, none⟩ u).ownsRow base e size (.slice (some ⟨g, 0, none⟩) n cap) n (xs.set j u) := by
  refine ⟨by rw [List.length_set]; exact h.1, ?_⟩
  rcases h.2 with ⟨h1, _⟩ | ⟨g', cap', cur, hv, hg, hh, h1, h2, h3, h4⟩
  · cases h1
  · cases hv
    refine .inr ⟨g, cap, cur.setIfInBounds j u, rfl, hg, set_lies j u hh, h1, h2, by simpa using h3, ?_⟩
    rw [← h4, Array.toList_setIfInBounds, List.take_set]
theorem own_block {W : World} {base : Nat} {e : TypeId} {size : Nat} {v : Value} {n : Nat} {xs : List Value} (h : W.ownsRow base e size v n xs) : (v = .slice none 0 0 ∧ n = 0) ∨ ∃ g cap, v = .slice (some ⟨g, 0, none⟩) n cap ∧ base ≤ g ∧ g < W.heap.size := by
  rcases h.2 with h1 | ⟨g, cap, cur, hv, hg, hh, _⟩
  · exact .inl h1
  · exact .inr ⟨g, cap, hv, hg, (Array.getElem?_eq_some_iff.1 hh).1⟩
theorem own_cell {W : World} {base g cap n j : Nat} {e : TypeId} {size : Nat} {xs : List Value} {u : Value} (h : W.ownsRow base e size (.slice (some ⟨g, 0, none⟩) n cap) n xs) (hu : xs[j]? = some u) : W.cell? ⟨g, j, none⟩ = some u ∧ W.frozen? ⟨g, j, none⟩ = false := by
  rcases h.2 with ⟨h1, _⟩ | ⟨g', cap', cur, hv, hg, hh, h1, h2, h3, h4⟩
  · cases h1
  · cases hv
    refine ⟨cell_at j hh ?_, one_free j hh⟩
    have hj := (List.getElem?_eq_some_iff.1 hu).1
    rw [← h4, List.getElem?_take_of_lt (by rw [← h4, List.length_take] at hj; omega)] at hu
    simpa using hu
theorem own_nil0 {W : World} {base : Nat} {e : TypeId} {size : Nat} {r : Option Addr} {n c : Nat} {k : Nat} {xs : List Value} (h : W.ownsRow base e size (.slice r n c) k xs) : r = none → c = 0 := by
  rintro rfl
  rcases h.2 with ⟨h, _⟩ | ⟨g, cap, cur, h, _⟩
  · cases h; rfl
  · cases h
theorem own_next {W W' : World} {base : Nat} {e : TypeId} {size : Nat} {v : Value} {n : Nat} {xs : List Value} (h : W.ownsRow base e size v n xs) (hb : Below W.heap.size W W') (h0 : 0 < base) : W'.ownsRow base e size v n xs := own_turn h (Turn.ofBelow (B := 0) hb) h0
set_option maxRecDepth 100000 in
set_option maxHeartbeats 8000000 in
theorem does_walk (x y : PepL) (r1 r2 q1 q2 : Option Addr) (c1 c2 d1 d2 : Nat) (w : World) (ra : Txt w (.slice r1 x.rel.length c1) x.rel) (rb : Txt w (.slice r2 y.rel.length c2) y.rel) (la : Txt w (.slice q1 x.loc.length d1) x.loc) (lb : Txt w (.slice q2 y.loc.length d2) y.loc) (hx : lenP x ≤ 1048576) (hy : lenP y ≤ 1048576) (hn1 : r1 = none → c1 = 0) (hn2 : q1 = none → d1 = 0) :
    Calls Tryz.prog 4 #[.agg #[.string (ofL x.ep), .slice r1 x.rel.length c1, .int .u8 x.c, .string (ofL x.n), .bool x.b, .string (ofL x.m), .bool x.d, .string (ofL x.k), .slice q1 x.loc.length d1], .agg #[.string (ofL y.ep), .slice r2 y.rel.length c2, .int .u8 y.c, .string (ofL y.n), .bool y.b, .string (ofL y.m), .bool y.d, .string (ofL y.k), .slice q2 y.loc.length d2]] w fun e w' => e = .returned (.bool true) ∧ Below w.heap.size w w' := by
  have mx := mid_of x hx
  have RP := hide (fun w h1 h2 => RPublic_any x r1 q1 c1 d1 w h1 h2 mx.r.1 hn1)
  have lx : x.loc.length ≤ 1048576 := mx.l.1
  have S0 := OB.start ra rb la lb
  clear ra rb la lb
  go_enter Tryz.func4, Tryz.ntmps4
  go_wp2_with fail
  generalize (w.alloc (.cells #[.string (ofL x.ep), .slice r1 x.rel.length c1, .int .u8 x.c, .string (ofL x.n), .bool x.b, .string (ofL x.m), .bool x.d, .string (ofL x.k), .slice q1 x.loc.length d1] 24)).alloc (.cells #[.string (ofL y.ep), .slice r2 y.rel.length c2, .int .u8 y.c, .string (ofL y.n), .bool y.b, .string (ofL y.m), .bool y.d, .string (ofL y.k), .slice q2 y.loc.length d2] 24) = W0 at *
  obtain ⟨s0, s1, s2, s3, s4, s5, s6, s7, s8, s9, s10, s11, s12, s13, s14, s15, s16, s17⟩ := S0.seen
  go_wp2_with fail
  refine (RP.out _ S0.ra S0.la).mono ?_
  rintro e w1 ⟨v1, rfl, own1, b1⟩
  obtain ⟨r3, c3, rfl, _⟩ := id (own_txt own1)
  have S1 := S0.next b1
  clear s0 s1 s2 s3 s4 s5 s6 s7 s8 s9 s10 s11 s12 s13 s14 s15 s16 s17
  have bP : Below w1.heap.size w1 ((w1.alloc (.cells #[.string (ofL x.ep), .slice r3 x.rel.length c3, .int .u8 x.c, .string (ofL x.n), .bool x.b, .string (ofL x.m), .bool x.d, .string (ofL x.k), .slice none 0 0] 24)).alloc (.cells #[] 9)) := ((Below.refl _ _).alloc (Nat.le_refl _) _).alloc (by simp) _
  have S2 := S1.next bP
  have hsz : w.heap.size ≤ w1.heap.size := S1.bel.size
  have BP := S2.bel
  have EO : ((w1.alloc (.cells #[.string (ofL x.ep), .slice r3 x.rel.length c3, .int .u8 x.c, .string (ofL x.n), .bool x.b, .string (ofL x.m), .bool x.d, .string (ofL x.k), .slice none 0 0] 24)).alloc (.cells #[] 9)).heap[w1.heap.size]? = some (.cells #[.string (ofL x.ep), .slice r3 x.rel.length c3, .int .u8 x.c, .string (ofL x.n), .bool x.b, .string (ofL x.m), .bool x.d, .string (ofL x.k), .slice none 0 0] 24 (0, 0)) := (((Below.refl (w1.alloc (.cells #[.string (ofL x.ep), .slice r3 x.rel.length c3, .int .u8 x.c, .string (ofL x.n), .bool x.b, .string (ofL x.m), .bool x.d, .string (ofL x.k), .slice none 0 0] 24)).heap.size _).alloc (Nat.le_refl _) (.cells #[] 9)).block _ (by simp)).trans (World.alloc_heap_new w1 _)
  have HO := hide (show ((w1.alloc (.cells #[.string (ofL x.ep), .slice r3 x.rel.length c3, .int .u8 x.c, .string (ofL x.n), .bool x.b, .string (ofL x.m), .bool x.d, .string (ofL x.k), .slice none 0 0] 24)).alloc (.cells #[] 9)).ownsRow (w1.heap.size + 1) 9 1 (.slice (some ⟨w1.heap.size + 1, 0, none⟩) 0 0) 0 [] from ⟨rfl, .inr ⟨w1.heap.size + 1, 0, #[], rfl, Nat.le_refl _, (by have h := World.alloc_heap_new (w1.alloc (.cells #[.string (ofL x.ep), .slice r3 x.rel.length c3, .int .u8 x.c, .string (ofL x.n), .bool x.b, .string (ofL x.m), .bool x.d, .string (ofL x.k), .slice none 0 0] 24)) (.cells #[] 9); rw [World.size_alloc] at h; exact h), Nat.le_refl _, (by unfold maxLen; omega), rfl, rfl⟩⟩)
  obtain ⟨s0, s1, s2, s3, s4, s5, s6, s7, s8, s9, s10, s11, s12, s13, s14, s15, s16, s17⟩ := S2.seen
  have TL := hide S2.la
  go_wp2_with (at_builtin; refine wpList_append_txt _ rfl (.tmp 10) (.tmp 12) rfl (w1.heap.size + 1) _ 0 [] rfl HO.out q1 d1 x.loc rfl TL.out hn2 (by omega) (by simp) ?_; intro v2 w2 own2' grow2; have own2 : w2.ownsRow (w1.heap.size + 1) 9 1 v2 x.loc.length (valT x.loc) := (by simpa only [Nat.zero_add, List.nil_append] using own2'); obtain ⟨q3, d3, rfl, _⟩ := id (own_txt own2); have B2 := BP.trans ((own_below HO.out (by simp) grow2).mono (by omega)); have f1 := (grow2.block _ (by simp; omega) (fun e => by have e : some w1.heap.size = some (w1.heap.size + 1) := e; injection e with e; omega)).trans EO; have y8 := cell_at 8 f1 rfl; obtain ⟨W3, e3, g3, k3, B3, o3, z8, n3⟩ := put_in (o := 8) (.slice q3 x.loc.length d3) f1 hsz B2 own2 (Nat.lt_succ_self _); change W3.heap[w1.heap.size]? = some (.cells #[.string (ofL x.ep), .slice r3 x.rel.length c3, .int .u8 x.c, .string (ofL x.n), .bool x.b, .string (ofL x.m), .bool x.d, .string (ofL x.k), .slice q3 x.loc.length d3] 24 (0, 0)) at g3; have BW : Below w1.heap.size w1 W3 := e3 ▸ (bP.trans ((own_below HO.out (by simp) grow2).mono (Nat.le_succ _))).setCell (p := ⟨w1.heap.size, 8, none⟩) (Nat.le_refl _) _; have S3 := S1.next BW; have T3 : TRI w x y r1 r2 r3 q1 q2 q3 c1 c2 c3 d1 d2 d3 w1.heap.size W3 := ⟨S3.bel, S3.ea, S3.eb, g3, S3.ra, S3.rb, (own_txt own1).below BW, S3.la, S3.lb, own_txt o3⟩; have O3 := hide o3; have K3 := hide (own_weak (b := w.heap.size) own1 (Nat.le_of_lt (Array.getElem?_eq_some_iff.1 S0.ea).1)))
  have kr := cap_row own1 _ _ _ rfl
  have kl := cap_row O3.out _ _ _ rfl
  have F14 := fun w h1 h2 => Fit_any x r3 q3 c3 d3 w h1 h2 mx
  have F15 := fun w h1 h2 => RFit_any x r1 q1 c1 d1 w h1 h2 mx
  have T16 := fun w h1 h2 => Text_all x r3 q3 c3 d3 w h1 h2 hx kr kl
  have T17 := fun w h1 h2 => RText_all x r1 q1 c1 d1 w h1 h2 hx
  have O18 := fun w h1 h2 h3 h4 => Order_all x y r3 r2 q3 q2 c3 c2 d3 d2 w h1 h2 h3 h4 hx hy
  have O19 := fun w h1 h2 h3 h4 => ROrder_all x y r1 r2 q1 q2 c1 c2 d1 d2 w h1 h2 h3 h4 hx hy
  have P20 := fun w h1 h2 => Pre_any x r3 q3 c3 d3 w h1 h2
  have P21 := fun w h1 h2 => RPre_any x r1 q1 c1 d1 w h1 h2
  generalize fitR x = FB at *
  generalize textA x = TA at *
  generalize ordA x y = OA at *
  generalize (x.c != 0 || x.d) = PB at *
  have F14 := hide F14
  have F15 := hide F15
  have T16 := hide T16
  have T17 := hide T17
  have O18 := hide O18
  have O19 := hide O19
  have P20 := hide P20
  have P21 := hide P21
  have hD : Below W3.heap.size W3 W3.drew := below_drewN _ W3 1
  have D0 := T3.next hD
  obtain ⟨f0_0, f0_1, f0_2, f0_3, f0_4, f0_5, f0_6, f0_7, f0_8, f0_9, f0_10, f0_11, f0_12, f0_13, f0_14, f0_15, f0_16, f0_17, f0_18, f0_19, f0_20, f0_21, f0_22, f0_23, f0_24, f0_25, f0_26⟩ := D0.seen
  clear S0 S1 S2 S3 BW BP B2 B3 own2 o3 g3 k3 f1 grow2 own2' T3 EO bP
  try dsimp only
  go_region_held3 (fun w' => w'.cell? ⟨w.heap.size, 0, none⟩ = some (.string (ofL x.ep)) ∧ w'.cell? ⟨w.heap.size, 1, none⟩ = some (.slice r1 x.rel.length c1) ∧ w'.cell? ⟨w.heap.size, 2, none⟩ = some (.int .u8 x.c) ∧ w'.cell? ⟨w.heap.size, 3, none⟩ = some (.string (ofL x.n)) ∧ w'.cell? ⟨w.heap.size, 4, none⟩ = some (.bool x.b) ∧ w'.cell? ⟨w.heap.size, 5, none⟩ = some (.string (ofL x.m)) ∧ w'.cell? ⟨w.heap.size, 6, none⟩ = some (.bool x.d) ∧ w'.cell? ⟨w.heap.size, 7, none⟩ = some (.string (ofL x.k)) ∧ w'.cell? ⟨w.heap.size, 8, none⟩ = some (.slice q1 x.loc.length d1) ∧ w'.cell? ⟨w.heap.size + 1, 0, none⟩ = some (.string (ofL y.ep)) ∧ w'.cell? ⟨w.heap.size + 1, 1, none⟩ = some (.slice r2 y.rel.length c2) ∧ w'.cell? ⟨w.heap.size + 1, 2, none⟩ = some (.int .u8 y.c) ∧ w'.cell? ⟨w.heap.size + 1, 3, none⟩ = some (.string (ofL y.n)) ∧ w'.cell? ⟨w.heap.size + 1, 4, none⟩ = some (.bool y.b) ∧ w'.cell? ⟨w.heap.size + 1, 5, none⟩ = some (.string (ofL y.m)) ∧ w'.cell? ⟨w.heap.size + 1, 6, none⟩ = some (.bool y.d) ∧ w'.cell? ⟨w.heap.size + 1, 7, none⟩ = some (.string (ofL y.k)) ∧ w'.cell? ⟨w.heap.size + 1, 8, none⟩ = some (.slice q2 y.loc.length d2) ∧ w'.cell? ⟨w1.heap.size, 0, none⟩ = some (.string (ofL x.ep)) ∧ w'.cell? ⟨w1.heap.size, 1, none⟩ = some (.slice r3 x.rel.length c3) ∧ w'.cell? ⟨w1.heap.size, 2, none⟩ = some (.int .u8 x.c) ∧ w'.cell? ⟨w1.heap.size, 3, none⟩ = some (.string (ofL x.n)) ∧ w'.cell? ⟨w1.heap.size, 4, none⟩ = some (.bool x.b) ∧ w'.cell? ⟨w1.heap.size, 5, none⟩ = some (.string (ofL x.m)) ∧ w'.cell? ⟨w1.heap.size, 6, none⟩ = some (.bool x.d) ∧ w'.cell? ⟨w1.heap.size, 7, none⟩ = some (.string (ofL x.k)) ∧ w'.cell? ⟨w1.heap.size, 8, none⟩ = some (.slice q3 x.loc.length d3))
    (go_keep)
    ((first
      | (have hq := Q7; go_at_call 21; refine (P21.out _ Q7.ra Q7.la).mono ?_; rintro e u8 ⟨rfl, b8⟩; have Q8 := Q7.next b8; obtain ⟨f8_0, f8_1, f8_2, f8_3, f8_4, f8_5, f8_6, f8_7, f8_8, f8_9, f8_10, f8_11, f8_12, f8_13, f8_14, f8_15, f8_16, f8_17, f8_18, f8_19, f8_20, f8_21, f8_22, f8_23, f8_24, f8_25, f8_26⟩ := Q8.seen)
      | (have hq := Q6; go_at_call 20; refine (P20.out _ Q6.ro Q6.lo).mono ?_; rintro e u7 ⟨rfl, b7⟩; have Q7 := Q6.next b7; obtain ⟨f7_0, f7_1, f7_2, f7_3, f7_4, f7_5, f7_6, f7_7, f7_8, f7_9, f7_10, f7_11, f7_12, f7_13, f7_14, f7_15, f7_16, f7_17, f7_18, f7_19, f7_20, f7_21, f7_22, f7_23, f7_24, f7_25, f7_26⟩ := Q7.seen)
      | (have hq := Q5; go_at_call 19; refine (O19.out _ Q5.ra Q5.rb Q5.la Q5.lb).mono ?_; rintro e u6 ⟨rfl, b6⟩; have Q6 := Q5.next b6; obtain ⟨f6_0, f6_1, f6_2, f6_3, f6_4, f6_5, f6_6, f6_7, f6_8, f6_9, f6_10, f6_11, f6_12, f6_13, f6_14, f6_15, f6_16, f6_17, f6_18, f6_19, f6_20, f6_21, f6_22, f6_23, f6_24, f6_25, f6_26⟩ := Q6.seen)
      | (have hq := Q4; go_at_call 18; refine (O18.out _ Q4.ro Q4.rb Q4.lo Q4.lb).mono ?_; rintro e u5 ⟨rfl, b5⟩; have Q5 := Q4.next b5; obtain ⟨f5_0, f5_1, f5_2, f5_3, f5_4, f5_5, f5_6, f5_7, f5_8, f5_9, f5_10, f5_11, f5_12, f5_13, f5_14, f5_15, f5_16, f5_17, f5_18, f5_19, f5_20, f5_21, f5_22, f5_23, f5_24, f5_25, f5_26⟩ := Q5.seen)
      | (have hq := Q3; go_at_call 17; refine (T17.out _ Q3.ra Q3.la).mono ?_; rintro e u4 ⟨rfl, b4⟩; have Q4 := Q3.next b4; obtain ⟨f4_0, f4_1, f4_2, f4_3, f4_4, f4_5, f4_6, f4_7, f4_8, f4_9, f4_10, f4_11, f4_12, f4_13, f4_14, f4_15, f4_16, f4_17, f4_18, f4_19, f4_20, f4_21, f4_22, f4_23, f4_24, f4_25, f4_26⟩ := Q4.seen)
      | (have hq := Q2; go_at_call 16; refine (T16.out _ Q2.ro Q2.lo).mono ?_; rintro e u3 ⟨rfl, b3⟩; have Q3 := Q2.next b3; obtain ⟨f3_0, f3_1, f3_2, f3_3, f3_4, f3_5, f3_6, f3_7, f3_8, f3_9, f3_10, f3_11, f3_12, f3_13, f3_14, f3_15, f3_16, f3_17, f3_18, f3_19, f3_20, f3_21, f3_22, f3_23, f3_24, f3_25, f3_26⟩ := Q3.seen)
      | (have hq := Q1; go_at_call 15; refine (F15.out _ Q1.ra Q1.la).mono ?_; rintro e u2 ⟨rfl, b2⟩; have Q2 := Q1.next b2; obtain ⟨f2_0, f2_1, f2_2, f2_3, f2_4, f2_5, f2_6, f2_7, f2_8, f2_9, f2_10, f2_11, f2_12, f2_13, f2_14, f2_15, f2_16, f2_17, f2_18, f2_19, f2_20, f2_21, f2_22, f2_23, f2_24, f2_25, f2_26⟩ := Q2.seen)
      | (have hq := D0; go_at_call 14; refine (F14.out _ D0.ro D0.lo).mono ?_; rintro e u1 ⟨rfl, b1⟩; have Q1 := D0.next b1; obtain ⟨f1_0, f1_1, f1_2, f1_3, f1_4, f1_5, f1_6, f1_7, f1_8, f1_9, f1_10, f1_11, f1_12, f1_13, f1_14, f1_15, f1_16, f1_17, f1_18, f1_19, f1_20, f1_21, f1_22, f1_23, f1_24, f1_25, f1_26⟩ := Q1.seen)
      | fail))
  try dsimp only
  go_wp2_with fail
  have hd3 := own_nil0 K3.out
  refine (Public_any x r3 q3 c3 d3 u8 Q8.ro Q8.lo mx.r.1 hd3).mono ?_
  rintro e w5 ⟨v5, rfl, own5, b5⟩
  obtain ⟨r5, c5, rfl, _⟩ := id (own_txt own5)
  have b6 : Below w5.heap.size w5 (w5.alloc (.cells #[.string (ofL x.ep), .slice r5 x.rel.length c5, .int .u8 x.c, .string (ofL x.n), .bool x.b, .string (ofL x.m), .bool x.d, .string (ofL x.k), .slice none 0 0] 24)) := (Below.refl _ _).alloc (Nat.le_refl _) _
  have Q9 := (Q8.next b5).next b6
  have EP := World.alloc_heap_new w5 (.cells #[.string (ofL x.ep), .slice r5 x.rel.length c5, .int .u8 x.c, .string (ofL x.n), .bool x.b, .string (ofL x.m), .bool x.d, .string (ofL x.k), .slice none 0 0] 24)
  have h0 : 0 < u8.heap.size := Nat.lt_of_le_of_lt (Nat.zero_le _) (Array.getElem?_eq_some_iff.1 Q8.ea).1
  have own6 := own_next own5 b6 h0
  have SM := hide (fun r6 c6 W h1 h2 h3 h4 => Same_true ⟨x.ep, x.rel, x.c, x.n, x.b, x.m, x.d, x.k, []⟩ r5 r6 none none c5 c6 0 0 W h1 h2 h3 h4 ⟨(small_mid x hx).short.1, (small_mid x hx).short.2.1, (small_mid x hx).short.2.2.1, (small_mid x hx).short.2.2.2.1, (small_mid x hx).short.2.2.2.2.1, by simp [Short]⟩)
  clear Q1 Q2 Q3 Q4 Q5 Q6 Q7 b1 b2 b3 b4 D0 hq
  try dsimp only
  go_wp2_with fail
  generalize w5.alloc (.cells #[.string (ofL x.ep), .slice r5 x.rel.length c5, .int .u8 x.c, .string (ofL x.n), .bool x.b, .string (ofL x.m), .bool x.d, .string (ofL x.k), .slice none 0 0] 24) = W6 at *
  have hD6 : Below W6.heap.size W6 W6.drew := below_drewN _ W6 1
  have D6 := Q9.next hD6
  have EP6 := (hD6.block _ (Array.getElem?_eq_some_iff.1 EP).1).trans EP
  have o6 := own_next own6 hD6 h0
  obtain ⟨f20_0, f20_1, f20_2, f20_3, f20_4, f20_5, f20_6, f20_7, f20_8, f20_9, f20_10, f20_11, f20_12, f20_13, f20_14, f20_15, f20_16, f20_17, f20_18, f20_19, f20_20, f20_21, f20_22, f20_23, f20_24, f20_25, f20_26⟩ := D6.seen
  have g20_0 := cell_at 0 EP6 rfl; have g20_1 := cell_at 1 EP6 rfl; have g20_2 := cell_at 2 EP6 rfl; have g20_3 := cell_at 3 EP6 rfl; have g20_4 := cell_at 4 EP6 rfl; have g20_5 := cell_at 5 EP6 rfl; have g20_6 := cell_at 6 EP6 rfl; have g20_7 := cell_at 7 EP6 rfl; have g20_8 := cell_at 8 EP6 rfl
  have BU := hide (b5.trans (b6.mono b5.size))
  have BUs : u8.heap.size ≤ W6.heap.size := Nat.le_trans b5.size b6.size
  clear b6 b5
  try dsimp only
  go_region_held3 (fun w' => w'.cell? ⟨w.heap.size, 0, none⟩ = some (.string (ofL x.ep)) ∧ w'.cell? ⟨w.heap.size, 1, none⟩ = some (.slice r1 x.rel.length c1) ∧ w'.cell? ⟨w.heap.size, 2, none⟩ = some (.int .u8 x.c) ∧ w'.cell? ⟨w.heap.size, 3, none⟩ = some (.string (ofL x.n)) ∧ w'.cell? ⟨w.heap.size, 4, none⟩ = some (.bool x.b) ∧ w'.cell? ⟨w.heap.size, 5, none⟩ = some (.string (ofL x.m)) ∧ w'.cell? ⟨w.heap.size, 6, none⟩ = some (.bool x.d) ∧ w'.cell? ⟨w.heap.size, 7, none⟩ = some (.string (ofL x.k)) ∧ w'.cell? ⟨w.heap.size, 8, none⟩ = some (.slice q1 x.loc.length d1) ∧ w'.cell? ⟨w5.heap.size, 0, none⟩ = some (.string (ofL x.ep)) ∧ w'.cell? ⟨w5.heap.size, 1, none⟩ = some (.slice r5 x.rel.length c5) ∧ w'.cell? ⟨w5.heap.size, 2, none⟩ = some (.int .u8 x.c) ∧ w'.cell? ⟨w5.heap.size, 3, none⟩ = some (.string (ofL x.n)) ∧ w'.cell? ⟨w5.heap.size, 4, none⟩ = some (.bool x.b) ∧ w'.cell? ⟨w5.heap.size, 5, none⟩ = some (.string (ofL x.m)) ∧ w'.cell? ⟨w5.heap.size, 6, none⟩ = some (.bool x.d) ∧ w'.cell? ⟨w5.heap.size, 7, none⟩ = some (.string (ofL x.k)) ∧ w'.cell? ⟨w5.heap.size, 8, none⟩ = some (.slice none 0 0))
    (go_keep)
    ((first
      | (have hq := M1; go_at_call 7; refine (SM.out r6 c6 _ (own_txt o7) (own_txt oR) (txt_nil _) (txt_nil _)).mono ?_; rintro e m2 ⟨rfl, k2⟩; have M2 := M1.next k2; have EP8 := (k2.block _ (Array.getElem?_eq_some_iff.1 EP7).1).trans EP7; have o8 := own_next o7 k2 h0; obtain ⟨f22_0, f22_1, f22_2, f22_3, f22_4, f22_5, f22_6, f22_7, f22_8, f22_9, f22_10, f22_11, f22_12, f22_13, f22_14, f22_15, f22_16, f22_17, f22_18, f22_19, f22_20, f22_21, f22_22, f22_23, f22_24, f22_25, f22_26⟩ := M2.seen; have g22_0 := cell_at 0 EP8 rfl; have g22_1 := cell_at 1 EP8 rfl; have g22_2 := cell_at 2 EP8 rfl; have g22_3 := cell_at 3 EP8 rfl; have g22_4 := cell_at 4 EP8 rfl; have g22_5 := cell_at 5 EP8 rfl; have g22_6 := cell_at 6 EP8 rfl; have g22_7 := cell_at 7 EP8 rfl; have g22_8 := cell_at 8 EP8 rfl)
      | (go_at_call 13; refine (RP.out _ D6.ra D6.la).mono ?_; rintro e m1 ⟨vR, rfl, oR, k1⟩; obtain ⟨r6, c6, rfl, _⟩ := id (own_txt oR); have M1 := D6.next k1; have EP7 := (k1.block _ (Array.getElem?_eq_some_iff.1 EP6).1).trans EP6; have o7 := own_next o6 k1 h0; obtain ⟨f21_0, f21_1, f21_2, f21_3, f21_4, f21_5, f21_6, f21_7, f21_8, f21_9, f21_10, f21_11, f21_12, f21_13, f21_14, f21_15, f21_16, f21_17, f21_18, f21_19, f21_20, f21_21, f21_22, f21_23, f21_24, f21_25, f21_26⟩ := M1.seen; have g21_0 := cell_at 0 EP7 rfl; have g21_1 := cell_at 1 EP7 rfl; have g21_2 := cell_at 2 EP7 rfl; have g21_3 := cell_at 3 EP7 rfl; have g21_4 := cell_at 4 EP7 rfl; have g21_5 := cell_at 5 EP7 rfl; have g21_6 := cell_at 6 EP7 rfl; have g21_7 := cell_at 7 EP7 rfl; have g21_8 := cell_at 8 EP7 rfl)
      | fail))
  try dsimp only
  go_wp2_with fail
  have M2u : Below u8.heap.size u8 m2 := BU.out.trans ((((hD6.trans (k1.mono hD6.size)).trans (k2.mono (Nat.le_trans hD6.size k1.size)))).mono BUs)
  have lr : x.rel.length ≤ 1048576 := mx.r.1
  have HQ := hide Q8
  have HO5 := hide own5
  go_loopw [53] (fun i wr => ∃ k : Nat, k ≤ x.rel.length ∧ i = .int .i64 k ∧ Below u8.heap.size u8 wr ∧ wr.heap[w5.heap.size]? = some (.cells #[.string (ofL x.ep), .slice r5 x.rel.length c5, .int .u8 x.c, .string (ofL x.n), .bool x.b, .string (ofL x.m), .bool x.d, .string (ofL x.k), .slice none 0 0] 24 (0, 0)) ∧ ∃ xs, wr.ownsRow u8.heap.size 9 1 (.slice r5 x.rel.length c5) x.rel.length xs) (fun i _ => x.rel.length - (intOf i).toNat)
  case atStart => exact ⟨0, by omega, rfl, M2u, EP8, _, o8⟩
  case round =>
    obtain ⟨k, hk, rfl, bW, eW, xs, oW⟩ := hrel
    have pc1 := cell_at 1 eW rfl
    by_cases h1 : k < x.rel.length
    · have hlt' : (k : Int) < (x.rel.length : Int) := by omega
      obtain ⟨g, cap, hv, hg1, hg2⟩ := HO5.out.form (by omega)
      cases hv
      have hxl := oW.1
      obtain ⟨u, hu⟩ : ∃ u, xs[k]? = some u := ⟨_, List.getElem?_eq_getElem (by omega)⟩
      obtain ⟨cu, fu⟩ := own_cell oW hu
      have eP := hide (((grownBy_set wr g k (.string ⟨#[55, 55]⟩)).block _ (Array.getElem?_eq_some_iff.1 eW).1 (fun e => by injection e with e; omega)).trans eW)
      have oP := hide (own_put (j := k) oW (by omega) (.string ⟨#[55, 55]⟩))
      have bP := hide (bW.setCell (p := ⟨g, k, none⟩) hg1 (.string ⟨#[55, 55]⟩))
      go_wp2_with fail
      go_roundw
      case rel => exact ⟨k + 1, by omega, by go_num, bP.out, eP.out, _, oP.out⟩
      case measure => simp [intOf]; omega
    · have hlt' : ¬ (k : Int) < (x.rel.length : Int) := by omega
      have R9 := HQ.out.next bW
      obtain ⟨f30_0, f30_1, f30_2, f30_3, f30_4, f30_5, f30_6, f30_7, f30_8, f30_9, f30_10, f30_11, f30_12, f30_13, f30_14, f30_15, f30_16, f30_17, f30_18, f30_19, f30_20, f30_21, f30_22, f30_23, f30_24, f30_25, f30_26⟩ := R9.seen
      have SA := hide (Same_true x r3 r1 q3 q1 c3 c1 d3 d1 _ R9.ro R9.ra R9.lo R9.la (small_mid x hx).short)
      have AW := hide awake_any
      go_wp2_with fail
      refine SA.out.mono ?_
      rintro e z1 ⟨rfl, y1⟩
      try dsimp only
      go_wp2_with fail
      refine (AW.out _).mono ?_
      rintro e z2 ⟨rfl, y2⟩
      try dsimp only
      go_wp2_with fail
      go_ret
      exact ⟨rfl, (R9.next y1).bel.trans (y2.mono (R9.next y1).bel.size)⟩


end Go.Proofs.YtagnikhkmaplpaaGreat
