/-
  Walks: a version without its local part. · Walks: what is asked by the order alone; the base of a version. · Walks: whether a version begins so.
-/
import Derived.Test.YtabmfdedbpmfmaaGreatBHq
import Derived.Test.YtabmfdedbpmfmaaGreatBGr
import Derived.Deep.Cut
import Derived.Deep.RegionHeld3
namespace Go.Proofs.YtabmfdedbpmfmaaGreat
open Go.RowKit Go.Shelf
set_option linter.unusedVariables false

theorem size24 : (Tryz.prog.info? 44).map (·.size) = some 9 := by kernel_rfl
def PubPost (x : PepL) (w : World) (e : Ending) (w' : World) : Prop :=
  ∃ v', e = .returned (.agg #[.string (ofL x.ep), v', .int .u8 x.c, .string (ofL x.n), .bool x.b, .string (ofL x.m), .bool x.d, .string (ofL x.k), .slice none 0 0]) ∧ w'.ownsRow w.heap.size 9 1 v' x.rel.length (valT x.rel) ∧ Below w.heap.size w w'
theorem put_in {w W : World} {K o base n k : Nat} {cs : Array Value} {t : TypeId} {v0 : Value} {xs : List Value} (v : Value) (h : W.heap[K]? = some (.cells cs t (0, 0))) (hn : n ≤ K) (hb : Below n w W) (ho : W.ownsRow base 9 1 v0 k xs) (hK : K < base) :
    ∃ W', W.setCell ⟨K, o, none⟩ v = W' ∧ W'.heap[K]? = some (.cells (cs.setIfInBounds o v) t (0, 0)) ∧ (∀ j, j ≠ K → j < W.heap.size → W'.heap[j]? = W.heap[j]?) ∧ Below n w W' ∧ W'.ownsRow base 9 1 v0 k xs ∧ W.frozen? ⟨K, o, none⟩ = false ∧ W'.heap.size = W.heap.size :=
  ⟨_, rfl, set_lies o v h, fun j hj hl => (grownBy_set W K o v).block j hl (fun e => hj (by simpa using e)), hb.setCell (p := ⟨K, o, none⟩) hn v, ownsRow_setCell_below ho (a := ⟨K, o, none⟩) hK v, one_free o h, by simp⟩
theorem own_slice {W : World} {base : Nat} {e : TypeId} {size : Nat} {v : Value} {n : Nat} {xs : List Value} (h : W.ownsRow base e size v n xs) : ∃ a k c, v = .slice a k c := by
  rcases h.2 with ⟨h, _⟩ | ⟨g, cap, cur, h, _⟩
  · exact ⟨_, _, _, h⟩
  · exact ⟨_, _, _, h⟩

set_option maxRecDepth 100000 in
set_option maxHeartbeats 4000000 in
theorem Public_any (x : PepL) (r1 q1 : Option Addr) (c1 d1 : Nat) (w : World) (rr : Txt w (.slice r1 x.rel.length c1) x.rel) (ll : Txt w (.slice q1 x.loc.length d1) x.loc) (hl : x.rel.length ≤ 1048576) (hnil : r1 = none → c1 = 0) :
    Calls Tryz.prog 185 #[.agg #[.string (ofL x.ep), .slice r1 x.rel.length c1, .int .u8 x.c, .string (ofL x.n), .bool x.b, .string (ofL x.m), .bool x.d, .string (ofL x.k), .slice q1 x.loc.length d1]] w (PubPost x w) := by
  have CL := hide (fun w h => Clone_any (.slice r1 x.rel.length c1) x.rel w h hl (by rintro n c h; cases h; exact hnil rfl))
  have S0 := TB.start rr ll
  have b1 : Below (w.alloc (.cells #[.string (ofL x.ep), .slice r1 x.rel.length c1, .int .u8 x.c, .string (ofL x.n), .bool x.b, .string (ofL x.m), .bool x.d, .string (ofL x.k), .slice q1 x.loc.length d1] 44)).heap.size (w.alloc (.cells #[.string (ofL x.ep), .slice r1 x.rel.length c1, .int .u8 x.c, .string (ofL x.n), .bool x.b, .string (ofL x.m), .bool x.d, .string (ofL x.k), .slice q1 x.loc.length d1] 44)) ((w.alloc (.cells #[.string (ofL x.ep), .slice r1 x.rel.length c1, .int .u8 x.c, .string (ofL x.n), .bool x.b, .string (ofL x.m), .bool x.d, .string (ofL x.k), .slice q1 x.loc.length d1] 44)).alloc (.cells #[.string ⟨#[]⟩, .slice none 0 0, .int .u8 0, .string ⟨#[]⟩, .bool false, .string ⟨#[]⟩, .bool false, .string ⟨#[]⟩, .slice none 0 0] 44)) := (Below.refl _ _).alloc (Nat.le_refl _) _
  have e1 := World.alloc_heap_new (w.alloc (.cells #[.string (ofL x.ep), .slice r1 x.rel.length c1, .int .u8 x.c, .string (ofL x.n), .bool x.b, .string (ofL x.m), .bool x.d, .string (ofL x.k), .slice q1 x.loc.length d1] 44)) (.cells #[.string ⟨#[]⟩, .slice none 0 0, .int .u8 0, .string ⟨#[]⟩, .bool false, .string ⟨#[]⟩, .bool false, .string ⟨#[]⟩, .slice none 0 0] 44)
  have S1 := S0.next b1
  clear rr ll
  obtain ⟨s0, s1, s2, s3, s4, s5, s6, s7, s8⟩ := S1.seen
  go_enter Tryz.func185, Tryz.ntmps185
  go_wp2_with fail
  generalize (w.alloc (.cells #[.string (ofL x.ep), .slice r1 x.rel.length c1, .int .u8 x.c, .string (ofL x.n), .bool x.b, .string (ofL x.m), .bool x.d, .string (ofL x.k), .slice q1 x.loc.length d1] 44)).alloc (.cells #[.string ⟨#[]⟩, .slice none 0 0, .int .u8 0, .string ⟨#[]⟩, .bool false, .string ⟨#[]⟩, .bool false, .string ⟨#[]⟩, .slice none 0 0] 44) = W0 at *
  refine (CL.out _ S1.rr).mono ?_
  rintro e w2 ⟨v', rfl, own2, b2⟩
  obtain ⟨va, vn, vc, rfl⟩ := own_slice own2
  have hs1 := (Array.getElem?_eq_some_iff.1 S1.ea).1
  have hs2 := (Array.getElem?_eq_some_iff.1 e1).1
  simp only [World.size_alloc] at e1 hs2
  have f1 := (b2.block _ hs1).trans S1.ea
  have f2 := (b2.block _ hs2).trans e1
  have B2 := S1.bel.trans (b2.mono S1.bel.size)
  have lt2 := (Array.getElem?_eq_some_iff.1 f2).1
  have y1 := cell_at 1 f1 rfl
  obtain ⟨P1, p1, g1, k1, B3, o3, z1, n1⟩ := put_in (o := 1) (.slice va vn vc) f1 (Nat.le_refl _) B2 own2 hs1
  change P1.heap[w.heap.size]? = some (.cells #[.string (ofL x.ep), .slice va vn vc, .int .u8 x.c, .string (ofL x.n), .bool x.b, .string (ofL x.m), .bool x.d, .string (ofL x.k), .slice q1 x.loc.length d1] 44 (0, 0)) at g1
  have y8 := cell_at 8 g1 rfl
  obtain ⟨P2, p2, g2, k2, B4, o4, z8, n2⟩ := put_in (o := 8) (.slice none 0 0) g1 (Nat.le_refl _) B3 o3 hs1
  change P2.heap[w.heap.size]? = some (.cells #[.string (ofL x.ep), .slice va vn vc, .int .u8 x.c, .string (ofL x.n), .bool x.b, .string (ofL x.m), .bool x.d, .string (ofL x.k), .slice none 0 0] 44 (0, 0)) at g2
  have h0 : P2.heap[w.heap.size + 1]? = _ := ((k2 _ (by omega) (by rw [n1]; exact lt2)).trans (k1 _ (by omega) lt2)).trans f2
  have x0 := cell_at 0 g2 rfl
  have x1 := cell_at 1 g2 rfl
  have x2 := cell_at 2 g2 rfl
  have x3 := cell_at 3 g2 rfl
  have x4 := cell_at 4 g2 rfl
  have x5 := cell_at 5 g2 rfl
  have x6 := cell_at 6 g2 rfl
  have x7 := cell_at 7 g2 rfl
  have x8 := cell_at 8 g2 rfl
  have t0 := cell_at 0 h0 rfl
  obtain ⟨Q1, q1q, h1, _, C1, u1, m1, _⟩ := put_in (o := 0) (.string (ofL x.ep)) h0 (by omega) B4 o4 hs2
  change Q1.heap[w.heap.size + 1]? = some (.cells #[.string (ofL x.ep), .slice none 0 0, .int .u8 0, .string ⟨#[]⟩, .bool false, .string ⟨#[]⟩, .bool false, .string ⟨#[]⟩, .slice none 0 0] 44 (0, 0)) at h1
  have t1 := cell_at 1 h1 rfl
  obtain ⟨Q2, q2q, h2, _, C2, u2, m2, _⟩ := put_in (o := 1) (.slice va vn vc) h1 (by omega) C1 u1 hs2
  change Q2.heap[w.heap.size + 1]? = some (.cells #[.string (ofL x.ep), .slice va vn vc, .int .u8 0, .string ⟨#[]⟩, .bool false, .string ⟨#[]⟩, .bool false, .string ⟨#[]⟩, .slice none 0 0] 44 (0, 0)) at h2
  have t2 := cell_at 2 h2 rfl
  obtain ⟨Q3, q3q, h3, _, C3, u3, m3, _⟩ := put_in (o := 2) (.int .u8 x.c) h2 (by omega) C2 u2 hs2
  change Q3.heap[w.heap.size + 1]? = some (.cells #[.string (ofL x.ep), .slice va vn vc, .int .u8 x.c, .string ⟨#[]⟩, .bool false, .string ⟨#[]⟩, .bool false, .string ⟨#[]⟩, .slice none 0 0] 44 (0, 0)) at h3
  have t3 := cell_at 3 h3 rfl
  obtain ⟨Q4, q4q, h4, _, C4, u4, m4, _⟩ := put_in (o := 3) (.string (ofL x.n)) h3 (by omega) C3 u3 hs2
  change Q4.heap[w.heap.size + 1]? = some (.cells #[.string (ofL x.ep), .slice va vn vc, .int .u8 x.c, .string (ofL x.n), .bool false, .string ⟨#[]⟩, .bool false, .string ⟨#[]⟩, .slice none 0 0] 44 (0, 0)) at h4
  have t4 := cell_at 4 h4 rfl
  obtain ⟨Q5, q5q, h5, _, C5, u5, m5, _⟩ := put_in (o := 4) (.bool x.b) h4 (by omega) C4 u4 hs2
  change Q5.heap[w.heap.size + 1]? = some (.cells #[.string (ofL x.ep), .slice va vn vc, .int .u8 x.c, .string (ofL x.n), .bool x.b, .string ⟨#[]⟩, .bool false, .string ⟨#[]⟩, .slice none 0 0] 44 (0, 0)) at h5
  have t5 := cell_at 5 h5 rfl
  obtain ⟨Q6, q6q, h6, _, C6, u6, m6, _⟩ := put_in (o := 5) (.string (ofL x.m)) h5 (by omega) C5 u5 hs2
  change Q6.heap[w.heap.size + 1]? = some (.cells #[.string (ofL x.ep), .slice va vn vc, .int .u8 x.c, .string (ofL x.n), .bool x.b, .string (ofL x.m), .bool false, .string ⟨#[]⟩, .slice none 0 0] 44 (0, 0)) at h6
  have t6 := cell_at 6 h6 rfl
  obtain ⟨Q7, q7q, h7, _, C7, u7, m7, _⟩ := put_in (o := 6) (.bool x.d) h6 (by omega) C6 u6 hs2
  change Q7.heap[w.heap.size + 1]? = some (.cells #[.string (ofL x.ep), .slice va vn vc, .int .u8 x.c, .string (ofL x.n), .bool x.b, .string (ofL x.m), .bool x.d, .string ⟨#[]⟩, .slice none 0 0] 44 (0, 0)) at h7
  have t7 := cell_at 7 h7 rfl
  obtain ⟨Q8, q8q, h8, _, C8, u8, m8, _⟩ := put_in (o := 7) (.string (ofL x.k)) h7 (by omega) C7 u7 hs2
  change Q8.heap[w.heap.size + 1]? = some (.cells #[.string (ofL x.ep), .slice va vn vc, .int .u8 x.c, .string (ofL x.n), .bool x.b, .string (ofL x.m), .bool x.d, .string (ofL x.k), .slice none 0 0] 44 (0, 0)) at h8
  have t8 := cell_at 8 h8 rfl
  obtain ⟨Q9, q9q, h9, _, C9, u9, m9, _⟩ := put_in (o := 8) (.slice none 0 0) h8 (by omega) C8 u8 hs2
  change Q9.heap[w.heap.size + 1]? = some (.cells #[.string (ofL x.ep), .slice va vn vc, .int .u8 x.c, .string (ofL x.n), .bool x.b, .string (ofL x.m), .bool x.d, .string (ofL x.k), .slice none 0 0] 44 (0, 0)) at h9
  have H9 := hide h9
  clear s0 s1 s2 s3 s4 s5 s6 s7 s8 k1 k2 g1 g2 h0 h1 h2 h3 h4 h5 h6 h7 h8 h9 f1 f2 e1
  have O9 := hide (own_weak u9 (Nat.le_of_lt hs1))
  have C9 := hide C9
  clear own2 o3 o4 u1 u2 u3 u4 u5 u6 u7 u8 u9 B2 B3 B4 C1 C2 C3 C4 C5 C6 C7 C8 S0 S1 b1 b2 CL
  go_wp2_with fail
  (try simp only [Exit.inBlock, Exit.then])
  refine bodyPost_ret (results_cell_row rfl _ _ (w.heap.size + 1) 44 _ (0, 0) _ rfl H9.out Tryz.underlying44 rfl size24) rfl ?_
  exact ⟨_, rfl, O9.out, C9.out⟩

end Go.Proofs.YtabmfdedbpmfmaaGreat

namespace Go.Proofs.YtabmfdedbpmfmaaGreat
open Go.RowKit Go.Shelf
set_option linter.unusedVariables false

set_option maxRecDepth 100000 in
set_option maxHeartbeats 4000000 in
theorem upTo_any (x y : PepL) (r1 r2 q1 q2 : Option Addr) (c1 c2 d1 d2 : Nat) (t u : ByteArray) (st su : Bool) (w : World) (ra : Txt w (.slice r1 x.rel.length c1) x.rel) (rb : Txt w (.slice r2 y.rel.length c2) y.rel) (la : Txt w (.slice q1 x.loc.length d1) x.loc) (lb : Txt w (.slice q2 y.loc.length d2) y.loc) (O : Int)
    (OP : ∀ W, Txt W (.slice r1 x.rel.length c1) x.rel → Txt W (.slice r2 y.rel.length c2) y.rel → Txt W (.slice q1 x.loc.length d1) x.loc → Txt W (.slice q2 y.loc.length d2) y.loc → Calls Tryz.prog 175 #[.agg #[.string (ofL x.ep), .slice r1 x.rel.length c1, .int .u8 x.c, .string (ofL x.n), .bool x.b, .string (ofL x.m), .bool x.d, .string (ofL x.k), .slice q1 x.loc.length d1, .string t, .bool st], .agg #[.string (ofL y.ep), .slice r2 y.rel.length c2, .int .u8 y.c, .string (ofL y.n), .bool y.b, .string (ofL y.m), .bool y.d, .string (ofL y.k), .slice q2 y.loc.length d2, .string u, .bool su]] W fun e W' => e = .returned (.int .i64 O) ∧ Below W.heap.size W W') :
    Calls Tryz.prog 155 #[.agg #[.string (ofL x.ep), .slice r1 x.rel.length c1, .int .u8 x.c, .string (ofL x.n), .bool x.b, .string (ofL x.m), .bool x.d, .string (ofL x.k), .slice q1 x.loc.length d1, .string t, .bool st], .agg #[.string (ofL y.ep), .slice r2 y.rel.length c2, .int .u8 y.c, .string (ofL y.n), .bool y.b, .string (ofL y.m), .bool y.d, .string (ofL y.k), .slice q2 y.loc.length d2, .string u, .bool su]] w fun e w' => e = .returned (.bool (decide (O ≤ 0))) ∧ Below w.heap.size w w' := by
  have S0 := VB.start ra rb la lb t u st su
  have OP := hide OP
  clear ra rb la lb
  go_enter Tryz.func155, Tryz.ntmps155
  go_wp2_with fail
  generalize (w.alloc _).alloc _ = W0 at *
  obtain ⟨s0, s1, s2, s3, s4, s5, s6, s7, s8, s9, s10, _⟩ := seen11v S0.ea
  obtain ⟨v0, v1, v2, v3, v4, v5, v6, v7, v8, v9, v10, _⟩ := seen11v S0.eb
  go_wp2_with fail
  refine (OP.out _ S0.ra S0.rb S0.la S0.lb).mono ?_
  rintro e w6 ⟨rfl, b6⟩
  have Q2 := S0.next b6
  go_wp2_with fail
  go_ret
  exact ⟨rfl, Q2.bel⟩

set_option maxRecDepth 100000 in
set_option maxHeartbeats 4000000 in
theorem from_any (x y : PepL) (r1 r2 q1 q2 : Option Addr) (c1 c2 d1 d2 : Nat) (t u : ByteArray) (st su : Bool) (w : World) (ra : Txt w (.slice r1 x.rel.length c1) x.rel) (rb : Txt w (.slice r2 y.rel.length c2) y.rel) (la : Txt w (.slice q1 x.loc.length d1) x.loc) (lb : Txt w (.slice q2 y.loc.length d2) y.loc) (O : Int)
    (OP : ∀ W, Txt W (.slice r1 x.rel.length c1) x.rel → Txt W (.slice r2 y.rel.length c2) y.rel → Txt W (.slice q1 x.loc.length d1) x.loc → Txt W (.slice q2 y.loc.length d2) y.loc → Calls Tryz.prog 175 #[.agg #[.string (ofL x.ep), .slice r1 x.rel.length c1, .int .u8 x.c, .string (ofL x.n), .bool x.b, .string (ofL x.m), .bool x.d, .string (ofL x.k), .slice q1 x.loc.length d1, .string t, .bool st], .agg #[.string (ofL y.ep), .slice r2 y.rel.length c2, .int .u8 y.c, .string (ofL y.n), .bool y.b, .string (ofL y.m), .bool y.d, .string (ofL y.k), .slice q2 y.loc.length d2, .string u, .bool su]] W fun e W' => e = .returned (.int .i64 O) ∧ Below W.heap.size W W') :
    Calls Tryz.prog 156 #[.agg #[.string (ofL x.ep), .slice r1 x.rel.length c1, .int .u8 x.c, .string (ofL x.n), .bool x.b, .string (ofL x.m), .bool x.d, .string (ofL x.k), .slice q1 x.loc.length d1, .string t, .bool st], .agg #[.string (ofL y.ep), .slice r2 y.rel.length c2, .int .u8 y.c, .string (ofL y.n), .bool y.b, .string (ofL y.m), .bool y.d, .string (ofL y.k), .slice q2 y.loc.length d2, .string u, .bool su]] w fun e w' => e = .returned (.bool (decide (0 ≤ O))) ∧ Below w.heap.size w w' := by
  have S0 := VB.start ra rb la lb t u st su
  have OP := hide OP
  clear ra rb la lb
  go_enter Tryz.func156, Tryz.ntmps156
  go_wp2_with fail
  generalize (w.alloc _).alloc _ = W0 at *
  obtain ⟨s0, s1, s2, s3, s4, s5, s6, s7, s8, s9, s10, _⟩ := seen11v S0.ea
  obtain ⟨v0, v1, v2, v3, v4, v5, v6, v7, v8, v9, v10, _⟩ := seen11v S0.eb
  go_wp2_with fail
  refine (OP.out _ S0.ra S0.rb S0.la S0.lb).mono ?_
  rintro e w6 ⟨rfl, b6⟩
  have Q2 := S0.next b6
  go_wp2_with fail
  go_ret
  exact ⟨rfl, Q2.bel⟩

theorem nine_put {W : World} {B : Nat} {z0 z1 z2 z3 z4 z5 z6 z7 z8 : Value} (h : W.heap[B]? = some (.cells #[z0, z1, z2, z3, z4, z5, z6, z7, z8] 44 (0, 0))) (a0 a1 a2 a3 a4 a5 a6 a7 a8 : Value) :
    ∃ W', W' = ((((((((W.setCell ⟨B, 0, none⟩ a0).setCell ⟨B, 1, none⟩ a1).setCell ⟨B, 2, none⟩ a2).setCell ⟨B, 3, none⟩ a3).setCell ⟨B, 4, none⟩ a4).setCell ⟨B, 5, none⟩ a5).setCell ⟨B, 6, none⟩ a6).setCell ⟨B, 7, none⟩ a7).setCell ⟨B, 8, none⟩ a8 ∧ W'.heap[B]? = some (.cells #[a0, a1, a2, a3, a4, a5, a6, a7, a8] 44 (0, 0)) ∧ Turn B W W' := by
  refine ⟨putL W B 0 [a0, a1, a2, a3, a4, a5, a6, a7, a8], rfl, ?_, putL_turn _ W B 0⟩
  have k := putL_heap [a0, a1, a2, a3, a4, a5, a6, a7, a8] W B 0 _ _ h
  have hc : fillA #[z0, z1, z2, z3, z4, z5, z6, z7, z8] 0 [a0, a1, a2, a3, a4, a5, a6, a7, a8] = #[a0, a1, a2, a3, a4, a5, a6, a7, a8] := by simp [fillA]
  rw [← hc]
  exact k
set_option maxRecDepth 100000 in
set_option maxHeartbeats 4000000 in
theorem base_any (x : PepL) (r1 q1 : Option Addr) (c1 d1 : Nat) (w : World) :
    Calls Tryz.prog 171 #[.agg #[.string (ofL x.ep), .slice r1 x.rel.length c1, .int .u8 x.c, .string (ofL x.n), .bool x.b, .string (ofL x.m), .bool x.d, .string (ofL x.k), .slice q1 x.loc.length d1]] w fun e w' => e = .returned (.agg #[.string (ofL x.ep), .slice r1 x.rel.length c1, .int .u8 0, .string ⟨#[]⟩, .bool false, .string ⟨#[]⟩, .bool false, .string ⟨#[]⟩, .slice none 0 0]) ∧ Below w.heap.size w w' := by
  obtain ⟨V, hV, n1, n2, bV, sV⟩ := two_new w #[.string (ofL x.ep), .slice r1 x.rel.length c1, .int .u8 x.c, .string (ofL x.n), .bool x.b, .string (ofL x.m), .bool x.d, .string (ofL x.k), .slice q1 x.loc.length d1] #[.string ⟨#[]⟩, .slice none 0 0, .int .u8 0, .string ⟨#[]⟩, .bool false, .string ⟨#[]⟩, .bool false, .string ⟨#[]⟩, .slice none 0 0] 44 44
  obtain ⟨s0, s1, s2, s3, s4, s5, s6, s7, s8, _⟩ := seen9v n1
  obtain ⟨x0, x1, x2, x3, x4, x5, x6, x7, x8, y0, y1, y2, y3, y4, y5, y6, y7, y8⟩ := seen9v n2
  obtain ⟨W9, hW9, h9, T9⟩ := nine_put n2 (.string (ofL x.ep)) (.slice r1 x.rel.length c1) (.int .u8 0) (.string ⟨#[]⟩) (.bool false) (.string ⟨#[]⟩) (.bool false) (.string ⟨#[]⟩) (.slice none 0 0)
  have HW9 := hide hW9
  have H9 := hide h9
  have HB := hide (bV.trans (T9.below (by omega) bV.size))
  clear n1 n2 bV hW9 h9 T9
  go_enter Tryz.func171, Tryz.ntmps171
  go_wp2_with fail
  rw [← HW9.out]
  refine bodyPost_ret (results_cell_row rfl _ _ (w.heap.size + 1) 44 _ (0, 0) _ rfl H9.out Tryz.underlying44 rfl size24) rfl ?_
  exact ⟨rfl, HB.out⟩
set_option maxRecDepth 100000 in
set_option maxHeartbeats 4000000 in
theorem sameBase_any (x y : PepL) (r1 r2 q1 q2 : Option Addr) (c1 c2 d1 d2 : Nat) (t u : ByteArray) (st su : Bool) (w : World) (ra : Txt w (.slice r1 x.rel.length c1) x.rel) (rb : Txt w (.slice r2 y.rel.length c2) y.rel) (la : Txt w (.slice q1 x.loc.length d1) x.loc) (lb : Txt w (.slice q2 y.loc.length d2) y.loc) (O : Int)
    (OD : ∀ W, Txt W (.slice r1 x.rel.length c1) x.rel → Txt W (.slice r2 y.rel.length c2) y.rel → Calls Tryz.prog 176 #[.agg #[.string (ofL x.ep), .slice r1 x.rel.length c1, .int .u8 0, .string ⟨#[]⟩, .bool false, .string ⟨#[]⟩, .bool false, .string ⟨#[]⟩, .slice none 0 0], .agg #[.string (ofL y.ep), .slice r2 y.rel.length c2, .int .u8 0, .string ⟨#[]⟩, .bool false, .string ⟨#[]⟩, .bool false, .string ⟨#[]⟩, .slice none 0 0]] W fun e W' => e = .returned (.int .i64 O) ∧ Below W.heap.size W W') :
    Calls Tryz.prog 177 #[.agg #[.string (ofL x.ep), .slice r1 x.rel.length c1, .int .u8 x.c, .string (ofL x.n), .bool x.b, .string (ofL x.m), .bool x.d, .string (ofL x.k), .slice q1 x.loc.length d1, .string t, .bool st], .agg #[.string (ofL y.ep), .slice r2 y.rel.length c2, .int .u8 y.c, .string (ofL y.n), .bool y.b, .string (ofL y.m), .bool y.d, .string (ofL y.k), .slice q2 y.loc.length d2, .string u, .bool su]] w fun e w' => e = .returned (.bool (O == 0)) ∧ Below w.heap.size w w' := by
  have S0 := VB.start ra rb la lb t u st su
  have B1 := hide (fun W => base_any x r1 q1 c1 d1 W)
  have B2 := hide (fun W => base_any y r2 q2 c2 d2 W)
  have OD := hide OD
  clear ra rb la lb
  go_enter Tryz.func177, Tryz.ntmps177
  go_wp2_with fail
  generalize (w.alloc _).alloc _ = W0 at *
  obtain ⟨s0, s1, s2, s3, s4, s5, s6, s7, s8, s9, s10, _⟩ := seen11v S0.ea
  obtain ⟨v0, v1, v2, v3, v4, v5, v6, v7, v8, v9, v10, _⟩ := seen11v S0.eb
  have D0 := S0.next (Below.refl _ _).drew
  go_region_held3 (fun w' => w'.cell? ⟨w.heap.size, 0, none⟩ = some (.string (ofL x.ep)) ∧ w'.cell? ⟨w.heap.size, 1, none⟩ = some (.slice r1 x.rel.length c1) ∧ w'.cell? ⟨w.heap.size, 2, none⟩ = some (.int .u8 x.c) ∧ w'.cell? ⟨w.heap.size, 3, none⟩ = some (.string (ofL x.n)) ∧ w'.cell? ⟨w.heap.size, 4, none⟩ = some (.bool x.b) ∧ w'.cell? ⟨w.heap.size, 5, none⟩ = some (.string (ofL x.m)) ∧ w'.cell? ⟨w.heap.size, 6, none⟩ = some (.bool x.d) ∧ w'.cell? ⟨w.heap.size, 7, none⟩ = some (.string (ofL x.k)) ∧ w'.cell? ⟨w.heap.size, 8, none⟩ = some (.slice q1 x.loc.length d1) ∧ w'.cell? ⟨w.heap.size + 1, 0, none⟩ = some (.string (ofL y.ep)) ∧ w'.cell? ⟨w.heap.size + 1, 1, none⟩ = some (.slice r2 y.rel.length c2) ∧ w'.cell? ⟨w.heap.size + 1, 2, none⟩ = some (.int .u8 y.c) ∧ w'.cell? ⟨w.heap.size + 1, 3, none⟩ = some (.string (ofL y.n)) ∧ w'.cell? ⟨w.heap.size + 1, 4, none⟩ = some (.bool y.b) ∧ w'.cell? ⟨w.heap.size + 1, 5, none⟩ = some (.string (ofL y.m)) ∧ w'.cell? ⟨w.heap.size + 1, 6, none⟩ = some (.bool y.d) ∧ w'.cell? ⟨w.heap.size + 1, 7, none⟩ = some (.string (ofL y.k)) ∧ w'.cell? ⟨w.heap.size + 1, 8, none⟩ = some (.slice q2 y.loc.length d2))
    (go_keep)
    ((first
      | (have hq := Q3; go_at_call 176; refine (OD.out _ Q3.ra Q3.rb).mono ?_; rintro e w7 ⟨rfl, b7⟩; have Q4 := Q3.next b7; obtain ⟨k0, k1, k2, k3, k4, k5, k6, k7, k8, k9, k10, _⟩ := seen11v Q4.ea; obtain ⟨l0, l1, l2, l3, l4, l5, l6, l7, l8, l9, l10, _⟩ := seen11v Q4.eb)
      | (have hq := Q1; go_at_call 171; refine (B2.out _).mono ?_; rintro e w6 ⟨rfl, b6⟩; have Q3 := Q1.next b6; obtain ⟨g0, g1, g2, g3, g4, g5, g6, g7, g8, g9, g10, _⟩ := seen11v Q3.ea; obtain ⟨h0, h1, h2, h3, h4, h5, h6, h7, h8, h9, h10, _⟩ := seen11v Q3.eb)
      | (go_at_call 171; refine (B1.out _).mono ?_; rintro e w5 ⟨rfl, b5⟩; have Q1 := D0.next b5; obtain ⟨e0, e1, e2, e3, e4, e5, e6, e7, e8, e9, e10, _⟩ := seen11v Q1.ea; obtain ⟨f0, f1, f2, f3, f4, f5, f6, f7, f8, f9, f10, _⟩ := seen11v Q1.eb)
      | fail))
  go_wp2_with fail
  go_ret
  exact ⟨rfl, Q4.bel⟩

end Go.Proofs.YtabmfdedbpmfmaaGreat

namespace Go.Proofs.YtabmfdedbpmfmaaGreat
open Go.RowKit Go.Shelf
set_option linter.unusedVariables false

def begB (e1 : List UInt8) (r1 : List (List UInt8)) (e2 : List UInt8) (r2 : List (List UInt8)) : Bool := (e1 == e2) && ((r1 ++ List.replicate (r2.length - r1.length) [48]).take r2.length == r2)
theorem txtP_of {W : World} {g o n c : Nat} {ts : List (List UInt8)} (h : Txt W (.slice (some ⟨g, o, none⟩) n c) ts) (hne : ts ≠ []) : TxtP W ⟨g, o, none⟩ ts ∧ g < W.heap.size := by
  obtain ⟨a, cap, e, h0 | ⟨b, off, rfl, hlt, hc⟩⟩ := h
  · exact absurd h0 hne
  · cases e
    exact ⟨txt_news hc, hlt⟩
theorem own_take {W : World} {base : Nat} {v : Value} {ts : List (List UInt8)} (h : W.ownsRow base 9 1 v ts.length (valT ts)) : ∃ a c, v = .slice a ts.length c ∧ ts.length ≤ c ∧ ∀ k, k ≤ ts.length → Txt W (.slice a k c) (ts.take k) := by
  rcases h.2 with ⟨rfl, h0⟩ | ⟨g, cap, cur, rfl, hg, hh, hcap, _, hsz, ht⟩
  · exact ⟨none, 0, by rw [h0], by omega, fun k hk => ⟨none, 0, by rw [List.length_take, show k = 0 by omega]; simp, .inl (by rw [List.length_eq_zero_iff.1 h0]; simp)⟩⟩
  · refine ⟨_, cap, rfl, hcap, fun k hk => ?_⟩
    have ho : W.ownsRow base 9 1 (.slice (some ⟨g, 0, none⟩) (ts.take k).length cap) (ts.take k).length (valT (ts.take k)) := by
      refine ⟨by simp [valT], .inr ⟨g, cap, cur, rfl, hg, hh, by rw [List.length_take]; omega, by assumption, hsz, ?_⟩⟩
      rw [List.length_take, Nat.min_eq_left hk, Nat.mul_one]
      have e : (valT ts).take k = valT (ts.take k) := by simp [valT]
      rw [← e, ← ht, List.take_take, Nat.mul_one, Nat.min_eq_left hk]
    have := own_txt ho
    rwa [List.length_take, Nat.min_eq_left hk] at this

set_option maxRecDepth 100000 in
set_option maxHeartbeats 4000000 in
theorem begins_any (x : PepL) (ep : List UInt8) (rs : List (List UInt8)) (g1 o1 c1 d1 c2 : Nat) (q1 r2 : Option Addr) (v2 v3 v4 v5 v6 v7 v8 : Value) (w : World) (ra : Txt w (.slice (some ⟨g1, o1, none⟩) x.rel.length c1) x.rel) (hx : x.rel ≠ []) (rb : Txt w (.slice r2 rs.length c2) rs) (la : x.rel.length ≤ 100) (lb : rs.length ≤ 100) :
    Calls Tryz.prog 172 #[.agg #[.string (ofL x.ep), .slice (some ⟨g1, o1, none⟩) x.rel.length c1, .int .u8 x.c, .string (ofL x.n), .bool x.b, .string (ofL x.m), .bool x.d, .string (ofL x.k), .slice q1 x.loc.length d1], .agg #[.string (ofL ep), .slice r2 rs.length c2, v2, v3, v4, v5, v6, v7, v8]] w fun e w' => e = .returned (.bool (begB x.ep x.rel ep rs)) ∧ Below w.heap.size w w' := by
  obtain ⟨ta, hga⟩ := txtP_of ra hx
  obtain ⟨V, hV, n1, n2, bV, sV⟩ := two_new w #[.string (ofL x.ep), .slice (some ⟨g1, o1, none⟩) x.rel.length c1, .int .u8 x.c, .string (ofL x.n), .bool x.b, .string (ofL x.m), .bool x.d, .string (ofL x.k), .slice q1 x.loc.length d1] #[.string (ofL ep), .slice r2 rs.length c2, v2, v3, v4, v5, v6, v7, v8] 44 44
  obtain ⟨s0, s1, s2, s3, s4, s5, s6, s7, s8, _⟩ := seen9v n1
  obtain ⟨t0, t1, t2, t3, t4, t5, t6, t7, t8, _⟩ := seen9v n2
  have HTA := hide (txtP_below ta bV hga)
  have HRB := hide (rb.below bV)
  have HBV := hide bV
  have hgV : g1 < V.heap.size := by omega
  have hwV : w.heap.size < V.heap.size := by omega
  have hwV1 : w.heap.size + 1 < V.heap.size := by omega
  obtain ⟨N, hN⟩ : ∃ N, rs.length - x.rel.length = N := ⟨_, rfl⟩
  have hmax : max 0 ((rs.length : Int) - (x.rel.length : Int)) = (N : Int) := by omega
  have hNl : N ≤ 524288 := by omega
  clear ta hga ra rb bV sV
  go_enter Tryz.func172, Tryz.ntmps172
  go_upto_region 2 with fail
  try rw [hV]
  go_cut [6] from 7 (fun v W' => Hid (Below V.heap.size V W') ∧ Hid (W'.ownsRow V.heap.size 9 1 v (x.rel ++ List.replicate N [48]).length (valT (x.rel ++ List.replicate N [48]))))
  case first =>
    have K1 := hide (World.alloc_heap_new V.drew (.cells #[zeroS] 9))
    go_region_held3 (fun w' => w'.cell? ⟨w.heap.size, 1, none⟩ = some (.slice (some ⟨g1, o1, none⟩) x.rel.length c1)) (go_keep)
      ((first
        | (go_at_call 182; refine (Repeat_any V.heap.size N _ hNl (cell_at 0 K1.out rfl) (by simp)).mono ?_; rintro e w3 ⟨g2, rfl, hg2, hp2, b3⟩
           have b30 : Below V.heap.size V w3 := ((Below.refl V.heap.size V).drew.alloc (Nat.le_refl _) _).trans (b3.mono (by simp))
           have d3 : w3.cell? ⟨w.heap.size, 1, none⟩ = some (.slice (some ⟨g1, o1, none⟩) x.rel.length c1) := (b30.cell hwV).trans s1)
        | (go_at_call 181
           have b4 : Below V.heap.size V (w3.alloc (.cells #[.slice (some ⟨g1, o1, none⟩) x.rel.length c1, .slice (some ⟨g2, 0, none⟩) N N] 37)) := b30.alloc b30.size _
           have n4 := World.alloc_heap_new w3 (.cells #[.slice (some ⟨g1, o1, none⟩) x.rel.length c1, .slice (some ⟨g2, 0, none⟩) N N] 37)
           refine (Concat_any x.rel (List.replicate N [48]) g1 o1 c1 g2 0 N w3.heap.size _ (txtP_below HTA.out b4 hgV) (txtP_below hp2 ((Below.refl _ w3).alloc (Nat.le_refl _) _) hg2) (Nat.lt_of_lt_of_le hgV b4.size) (Nat.lt_of_lt_of_le hg2 (by simp)) (cell_at 0 n4 rfl) (by rw [List.length_replicate]; exact cell_at 1 n4 rfl) (by simp) (by omega) (by rw [List.length_replicate]; exact hNl)).mono ?_
           rintro e w5 ⟨v, rfl, ho5, b5⟩
           have b50 : Below V.heap.size V w5 := b4.trans (b5.mono b4.size)
           have d5 : w5.cell? ⟨w.heap.size, 1, none⟩ = some (.slice (some ⟨g1, o1, none⟩) x.rel.length c1) := (b50.cell hwV).trans s1)
        | fail))
    all_goals
      go_wp2_with fail
      go_meet
      case rel => exact ⟨hide b50, hide (own_weak ho5 b4.size)⟩
  case rest =>
    obtain ⟨HB5, HO5⟩ := hcut
    obtain ⟨av, cv, rfl, hcap, htk⟩ := own_take HO5.out
    have hlen : (x.rel ++ List.replicate N [48]).length = x.rel.length + N := by simp
    have hle : rs.length ≤ (x.rel ++ List.replicate N [48]).length := by omega
    have htl : ((x.rel ++ List.replicate N [48]).take rs.length).length = rs.length := by rw [List.length_take]; omega
    have hT := htk rs.length hle
    have EQ : Hid (∀ W, Below wc.heap.size wc W → Calls Tryz.prog 183 #[.slice av rs.length cv, .slice r2 rs.length c2] W fun e w' => e = .returned (.bool ((x.rel ++ List.replicate N [48]).take rs.length == rs)) ∧ Below W.heap.size W w') := hide fun W hb => by
      have := EqualS_any av r2 cv c2 ((x.rel ++ List.replicate N [48]).take rs.length) rs W (by rw [htl]; exact hT.below hb) ((HRB.out.below HB5.out).below hb) (by omega) (by omega)
      rw [htl] at this
      exact this
    have n1' := (HB5.out.block _ hwV).trans n1
    have n2' := (HB5.out.block _ hwV1).trans n2
    clear s0 s1 s2 s3 s4 s5 s6 s7 s8 t0 t1 t2 t3 t4 t5 t6 t7 t8 n1 n2
    have s0 := cell_at 0 n1' rfl
    have t0 := cell_at 0 n2' rfl
    have t1 := cell_at 1 n2' rfl
    have HRES : Hid (begB x.ep x.rel ep rs = ((x.ep == ep) && ((x.rel ++ List.replicate N [48]).take rs.length == rs))) := hide (by unfold begB; rw [hN])
    have heq := ofL_nq x.ep ep
    have hci : (rs.length : Int) ≤ (cv : Int) := by omega
    generalize ((x.rel ++ List.replicate N [48]).take rs.length == rs) = RB at *
    generalize (x.ep == ep) = EB at *
    have HFIN : Hid (∀ W, Below wc.heap.size wc W → Below w.heap.size w W) := hide fun W hb => (HBV.out.trans (HB5.out.mono (Nat.le_of_lt hwV))).trans (hb.mono (Nat.le_trans (Nat.le_of_lt hwV) HB5.out.size))
    have hww : w.heap.size + 1 < wc.heap.size := by have := HB5.out.size; omega
    clear hT htk hcap hlen htl hle HO5 HTA HRB n1' n2'
    cases EB
    · go_wp2_with fail
      go_quiet (fail)
      go_wp2_with fail
      go_ret
      exact ⟨by rw [HRES.out]; rfl, HFIN.out _ (below_drewN _ _ _)⟩
    · go_wp2_with fail
      have hw0 : w.heap.size < wc.heap.size := by omega
      go_region_held3 (fun w' => w'.cell? ⟨w.heap.size, 0, none⟩ = some (.string (ofL x.ep)) ∧ w'.cell? ⟨w.heap.size + 1, 0, none⟩ = some (.string (ofL ep)) ∧ w'.cell? ⟨w.heap.size + 1, 1, none⟩ = some (.slice r2 rs.length c2)) (go_keep)
        ((first
          | (go_at_call 183; refine (EQ.out _ ((Below.refl _ wc).drew)).mono ?_; rintro e w6 ⟨rfl, b6⟩
             have d0 : w6.cell? ⟨w.heap.size, 0, none⟩ = some (.string (ofL x.ep)) := (b6.cell (p := ⟨w.heap.size, 0, none⟩) hw0).trans s0
             have d1 : w6.cell? ⟨w.heap.size + 1, 0, none⟩ = some (.string (ofL ep)) := (b6.cell (p := ⟨w.heap.size + 1, 0, none⟩) hww).trans t0
             have d2 : w6.cell? ⟨w.heap.size + 1, 1, none⟩ = some (.slice r2 rs.length c2) := (b6.cell (p := ⟨w.heap.size + 1, 1, none⟩) hww).trans t1
             have B6 := hide (((Below.refl _ wc).drew).trans b6))
          | fail))
      all_goals
        go_wp2_with fail
        go_ret
        exact ⟨by rw [HRES.out]; simp, HFIN.out _ B6.out⟩

end Go.Proofs.YtabmfdedbpmfmaaGreat
