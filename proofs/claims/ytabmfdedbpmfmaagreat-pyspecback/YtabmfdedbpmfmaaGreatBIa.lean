/-
  Walks: compatible. · Walks: what clauses mean.
-/
import Derived.Deep.Cut
import Derived.Test.YtabmfdedbpmfmaaGreatBHz
import Derived.Test.YtabmfdedbpmfmaaGreatBHq
import Derived.Test.YtabmfdedbpmfmaaGreatBGn
import Derived.Test.YtabmfdedbpmfmaaGreatBGr
import Derived.Test.YtabmfdedbpmfmaaGreatBGw
namespace Go.Proofs.YtabmfdedbpmfmaaGreat
open Go.RowKit Go.Shelf
set_option linter.unusedVariables false

set_option maxRecDepth 100000 in
set_option maxHeartbeats 4000000 in
theorem compatible_any (x y : PepL) (r1 q1 q2 : Option Addr) (b2 o2 c1 c2 d1 d2 : Nat) (t u : ByteArray) (st su : Bool) (w : World) (ra : Txt w (.slice r1 x.rel.length c1) x.rel) (rb : Txt w (.slice (some ⟨b2, o2, none⟩) y.rel.length c2) y.rel) (la : Txt w (.slice q1 x.loc.length d1) x.loc) (lb : Txt w (.slice q2 y.loc.length d2) y.loc) (n : Nat) (hn : y.rel.length = n + 1) (hc : n + 1 ≤ c2) (hl : n ≤ 1048576) (F B : Bool)
    (FR : ∀ W, Txt W (.slice r1 x.rel.length c1) x.rel → Txt W (.slice (some ⟨b2, o2, none⟩) y.rel.length c2) y.rel → Txt W (.slice q1 x.loc.length d1) x.loc → Txt W (.slice q2 y.loc.length d2) y.loc → Calls Tryz.prog 156 #[.agg #[.string (ofL x.ep), .slice r1 x.rel.length c1, .int .u8 x.c, .string (ofL x.n), .bool x.b, .string (ofL x.m), .bool x.d, .string (ofL x.k), .slice q1 x.loc.length d1, .string t, .bool st], .agg #[.string (ofL y.ep), .slice (some ⟨b2, o2, none⟩) y.rel.length c2, .int .u8 y.c, .string (ofL y.n), .bool y.b, .string (ofL y.m), .bool y.d, .string (ofL y.k), .slice q2 y.loc.length d2, .string u, .bool su]] W fun e W' => e = .returned (.bool F) ∧ Below W.heap.size W W')
    (BG : ∀ W, Txt W (.slice r1 x.rel.length c1) x.rel → Txt W (.slice (some ⟨b2, o2, none⟩) y.rel.length c2) y.rel → Txt W (.slice q1 x.loc.length d1) x.loc → Txt W (.slice q2 y.loc.length d2) y.loc → Calls Tryz.prog 172 #[.agg #[.string (ofL x.ep), .slice r1 x.rel.length c1, .int .u8 x.c, .string (ofL x.n), .bool x.b, .string (ofL x.m), .bool x.d, .string (ofL x.k), .slice q1 x.loc.length d1], .agg #[.string (ofL y.ep), .slice (some ⟨b2, o2, none⟩) n c2, .int .u8 0, .string ⟨#[]⟩, .bool false, .string ⟨#[]⟩, .bool false, .string ⟨#[]⟩, .slice none 0 0]] W fun e W' => e = .returned (.bool B) ∧ Below W.heap.size W W') :
    Calls Tryz.prog 150 #[.agg #[.string (ofL x.ep), .slice r1 x.rel.length c1, .int .u8 x.c, .string (ofL x.n), .bool x.b, .string (ofL x.m), .bool x.d, .string (ofL x.k), .slice q1 x.loc.length d1, .string t, .bool st], .agg #[.string (ofL y.ep), .slice (some ⟨b2, o2, none⟩) y.rel.length c2, .int .u8 y.c, .string (ofL y.n), .bool y.b, .string (ofL y.m), .bool y.d, .string (ofL y.k), .slice q2 y.loc.length d2, .string u, .bool su]] w fun e w' => e = .returned (.bool (F && B)) ∧ Below w.heap.size w w' := by
  have hnn : ((y.rel.length : Int) - 1) = (n : Int) := by omega
  have HN := hide hn
  clear hn
  have S0 := VB.start ra rb la lb t u st su
  have B1 := hide (fun W => base_any y (some ⟨b2, o2, none⟩) q2 c2 d2 W)
  have FR := hide FR
  have BG := hide BG
  clear ra rb la lb
  go_enter Tryz.func150, Tryz.ntmps150
  go_wp2_with fail
  generalize (w.alloc _).alloc _ = W0 at *
  obtain ⟨s0, s1, s2, s3, s4, s5, s6, s7, s8, s9, s10, _⟩ := seen11v S0.ea
  obtain ⟨v0, v1, v2, v3, v4, v5, v6, v7, v8, v9, v10, _⟩ := seen11v S0.eb
  go_wp2_with fail
  refine (B1.out _).mono ?_
  rintro e w1 ⟨rfl, b1⟩
  have S1 := S0.next b1
  have hb2 : Below w1.heap.size w1 (w1.alloc (.cells #[.string (ofL y.ep), .slice (some ⟨b2, o2, none⟩) n c2, .int .u8 0, .string ⟨#[]⟩, .bool false, .string ⟨#[]⟩, .bool false, .string ⟨#[]⟩, .slice none 0 0] 44)) := (Below.refl _ _).alloc (Nat.le_refl _) _
  have n2 := World.alloc_heap_new w1 (.cells #[.string (ofL y.ep), .slice (some ⟨b2, o2, none⟩) n c2, .int .u8 0, .string ⟨#[]⟩, .bool false, .string ⟨#[]⟩, .bool false, .string ⟨#[]⟩, .slice none 0 0] 44)
  have S2 := S1.next hb2
  have hsz2 : w1.heap.size < (w1.alloc (.cells #[.string (ofL y.ep), .slice (some ⟨b2, o2, none⟩) n c2, .int .u8 0, .string ⟨#[]⟩, .bool false, .string ⟨#[]⟩, .bool false, .string ⟨#[]⟩, .slice none 0 0] 44)).heap.size := by simp
  have hcc : (n : Int) ≤ (c2 : Int) := by omega
  clear b1 S0 s0 v0 s1 v1 s2 v2 s3 v3 s4 v4 s5 v5 s6 v6 s7 v7 s8 v8 s9 v9 s10 v10
  go_upto_region 3 with fail
  generalize w1.alloc _ = W2 at *
  obtain ⟨s0, s1, s2, s3, s4, s5, s6, s7, s8, s9, s10, _⟩ := seen11v S2.ea
  obtain ⟨v0, v1, v2, v3, v4, v5, v6, v7, v8, v9, v10, _⟩ := seen11v S2.eb
  have N2 := hide n2
  clear n2 S1 hb2
  cases F
  · go_wp2_with fail
    refine (FR.out _ S2.ra S2.rb S2.la S2.lb).mono ?_
    rintro e w3 ⟨rfl, b3⟩
    have S3 := S2.next b3
    go_wp2_with fail
    go_ret
    exact ⟨rfl, S3.bel⟩
  · go_wp2_with fail
    refine (FR.out _ S2.ra S2.rb S2.la S2.lb).mono ?_
    rintro e w3 ⟨rfl, b3⟩
    have S3 := S2.next b3
    have n3 := (b3.block _ hsz2).trans N2.out
    clear s0 v0 s1 v1 s2 v2 s3 v3 s4 v4 s5 v5 s6 v6 s7 v7 s8 v8 s9 v9 s10 v10 b3
    obtain ⟨s0, s1, s2, s3, s4, s5, s6, s7, s8, s9, s10, _⟩ := seen11v S3.ea
    obtain ⟨x0, x1, x2, x3, x4, x5, x6, x7, x8, _⟩ := seen9v n3
    go_wp2_with fail
    refine (BG.out _ S3.ra S3.rb S3.la S3.lb).mono ?_
    rintro e w4 ⟨rfl, b4⟩
    have S4 := S3.next b4
    go_wp2_with fail
    go_ret
    exact ⟨by simp, S4.bel⟩

end Go.Proofs.YtabmfdedbpmfmaaGreat

namespace Go.Proofs.YtabmfdedbpmfmaaGreat
open Go.RowKit Go.Shelf
set_option linter.unusedVariables false

def hpub (x : PepL) : PepL := ⟨x.ep, x.rel, x.c, x.n, x.b, x.m, x.d, x.k, []⟩
def hbase (x : PepL) : PepL := ⟨x.ep, x.rel, 0, [], false, [], false, [], []⟩
structure VerOK (x : PepL) : Prop where
  small : SmallP x
  fit : FitT x
  len : x.rel.length ≤ 65
theorem ver_ok {l : List UInt8} (h : okP l = true) : VerOK (pepOf (lowL l)) := by
  have h1 : (lowL l).length ≤ 64 := by rw [lowL_len]; exact (low_ok h).2
  exact ⟨pep_small _ h1, ok_fit h, (pep_smallQ _ h1).r.1⟩
theorem VerOK.pub {x : PepL} (h : VerOK x) : SmallP (hpub x) ∧ FitT (hpub x) :=
  ⟨⟨h.small.e, h.small.n, h.small.m, h.small.k, h.small.r, ⟨Nat.zero_le _, fun t ht => by cases ht⟩, h.small.rI, Nat.zero_le _⟩, ⟨h.fit.f1, h.fit.f2, h.fit.f3, h.fit.f4, h.fit.f5, h.fit.f6, h.fit.f7, rfl⟩⟩
theorem VerOK.base {x : PepL} (h : VerOK x) : SmallP (hbase x) ∧ FitT (hbase x) :=
  ⟨⟨h.small.e, Nat.zero_le _, Nat.zero_le _, Nat.zero_le _, h.small.r, ⟨Nat.zero_le _, fun t ht => by cases ht⟩, h.small.rI, Nat.zero_le _⟩, ⟨h.fit.f1, h.fit.f2, h.fit.f3, .inl rfl, rfl, rfl, rfl, rfl⟩⟩
def preP (x : PepL) : Bool := x.c != 0 || x.d
def sameB (x y : PepL) : Bool := ordP (hbase x) (hbase y) == 0
def eqP (x y : PepL) (su : Bool) : Bool := if su = true then begB x.ep x.rel y.ep y.rel else if pubB y = true then ordP (hpub x) y == 0 else ordP x y == 0
def holdP (k : Nat) (x : PepL) (t : List UInt8) (y : PepL) (u : List UInt8) (su : Bool) : Bool :=
  match k with
  | 0 => decide (0 ≤ ordP (hpub x) y) && begB x.ep x.rel y.ep y.rel.dropLast
  | 1 => eqP x y su
  | 2 => !eqP x y su
  | 3 => decide (ordP (hpub x) y ≤ 0)
  | 4 => decide (0 ≤ ordP (hpub x) y)
  | 5 => !(sameB x y && preP x && !preP y) && decide (ordP x y < 0)
  | 6 => !(sameB x y && (!pubB x || x.b && !y.b)) && decide (0 < ordP x y)
  | _ => t.map lowC == u.map lowC
theorem OP_any (x y : PepL) (r1 r2 q1 q2 : Option Addr) (c1 c2 d1 d2 : Nat) (t u : ByteArray) (st su : Bool) (w : World) (ra : Txt w (.slice r1 x.rel.length c1) x.rel) (rb : Txt w (.slice r2 y.rel.length c2) y.rel) (la : Txt w (.slice q1 x.loc.length d1) x.loc) (lb : Txt w (.slice q2 y.loc.length d2) y.loc) (hx : VerOK x) (hy : VerOK y) (hn : r1 = none → c1 = 0) :
    Calls Tryz.prog 175 #[.agg #[.string (ofL x.ep), .slice r1 x.rel.length c1, .int .u8 x.c, .string (ofL x.n), .bool x.b, .string (ofL x.m), .bool x.d, .string (ofL x.k), .slice q1 x.loc.length d1, .string t, .bool st], .agg #[.string (ofL y.ep), .slice r2 y.rel.length c2, .int .u8 y.c, .string (ofL y.n), .bool y.b, .string (ofL y.m), .bool y.d, .string (ofL y.k), .slice q2 y.loc.length d2, .string u, .bool su]] w fun e W' => e = .returned (.int .i64 (ordP (hpub x) y)) ∧ Below w.heap.size w W' :=
  orderPublic_any x y r1 r2 q1 q2 c1 c2 d1 d2 t u st su w ra rb la lb (ordP (hpub x) y)
    (fun W h1 h2 => (Public_any x r1 q1 c1 d1 W h1 h2 (by have := hx.len; omega) hn).mono fun e w' h => by
      obtain ⟨v', rfl, ho, hb⟩ := h
      obtain ⟨a, k, rfl, _⟩ := own_take ho
      exact ⟨a, k, rfl, own_txt ho, hb⟩)
    (fun a k W h1 h2 h3 => Order_fit (hpub x) y a r2 none q2 k c2 0 d2 W h1 h2 ⟨none, 0, rfl, .inl rfl⟩ h3 hx.pub.1 hy.small hx.pub.2 hy.fit)
theorem SB_any (x y : PepL) (r1 r2 q1 q2 : Option Addr) (c1 c2 d1 d2 : Nat) (t u : ByteArray) (st su : Bool) (w : World) (ra : Txt w (.slice r1 x.rel.length c1) x.rel) (rb : Txt w (.slice r2 y.rel.length c2) y.rel) (la : Txt w (.slice q1 x.loc.length d1) x.loc) (lb : Txt w (.slice q2 y.loc.length d2) y.loc) (hx : VerOK x) (hy : VerOK y) :
    Calls Tryz.prog 177 #[.agg #[.string (ofL x.ep), .slice r1 x.rel.length c1, .int .u8 x.c, .string (ofL x.n), .bool x.b, .string (ofL x.m), .bool x.d, .string (ofL x.k), .slice q1 x.loc.length d1, .string t, .bool st], .agg #[.string (ofL y.ep), .slice r2 y.rel.length c2, .int .u8 y.c, .string (ofL y.n), .bool y.b, .string (ofL y.m), .bool y.d, .string (ofL y.k), .slice q2 y.loc.length d2, .string u, .bool su]] w fun e W' => e = .returned (.bool (sameB x y)) ∧ Below w.heap.size w W' :=
  sameBase_any x y r1 r2 q1 q2 c1 c2 d1 d2 t u st su w ra rb la lb (ordP (hbase x) (hbase y))
    (fun W h1 h2 => Order_fit (hbase x) (hbase y) r1 r2 none none c1 c2 0 0 W h1 h2 ⟨none, 0, rfl, .inl rfl⟩ ⟨none, 0, rfl, .inl rfl⟩ hx.base.1 hy.base.1 hx.base.2 hy.base.2)
theorem OD_any (x y : PepL) (r1 r2 q1 q2 : Option Addr) (c1 c2 d1 d2 : Nat) (w : World) (ra : Txt w (.slice r1 x.rel.length c1) x.rel) (rb : Txt w (.slice r2 y.rel.length c2) y.rel) (la : Txt w (.slice q1 x.loc.length d1) x.loc) (lb : Txt w (.slice q2 y.loc.length d2) y.loc) (hx : VerOK x) (hy : VerOK y) :
    Calls Tryz.prog 176 #[.agg #[.string (ofL x.ep), .slice r1 x.rel.length c1, .int .u8 x.c, .string (ofL x.n), .bool x.b, .string (ofL x.m), .bool x.d, .string (ofL x.k), .slice q1 x.loc.length d1], .agg #[.string (ofL y.ep), .slice r2 y.rel.length c2, .int .u8 y.c, .string (ofL y.n), .bool y.b, .string (ofL y.m), .bool y.d, .string (ofL y.k), .slice q2 y.loc.length d2]] w fun e W' => e = .returned (.int .i64 (ordP x y)) ∧ Below w.heap.size w W' :=
  Order_fit x y r1 r2 q1 q2 c1 c2 d1 d2 w ra rb la lb hx.small hy.small hx.fit hy.fit
theorem BG_any (x : PepL) (ep : List UInt8) (rs : List (List UInt8)) (r1 q1 r2 : Option Addr) (c1 d1 c2 : Nat) (v2 v3 v4 v5 v6 v7 v8 : Value) (w : World) (ra : Txt w (.slice r1 x.rel.length c1) x.rel) (rb : Txt w (.slice r2 rs.length c2) rs) (hx : VerOK x) (hl : rs.length ≤ 65) :
    Calls Tryz.prog 172 #[.agg #[.string (ofL x.ep), .slice r1 x.rel.length c1, .int .u8 x.c, .string (ofL x.n), .bool x.b, .string (ofL x.m), .bool x.d, .string (ofL x.k), .slice q1 x.loc.length d1], .agg #[.string (ofL ep), .slice r2 rs.length c2, v2, v3, v4, v5, v6, v7, v8]] w fun e w' => e = .returned (.bool (begB x.ep x.rel ep rs)) ∧ Below w.heap.size w w' := by
  obtain ⟨g, o, rfl, _⟩ := ra.some (List.length_pos_iff.2 hx.fit.f2)
  exact begins_any x ep rs g o c1 d1 c2 q1 r2 v2 v3 v4 v5 v6 v7 v8 w ra hx.fit.f2 rb (by have := hx.len; omega) (by omega)
theorem EQ_any (x y : PepL) (r1 r2 q1 q2 : Option Addr) (c1 c2 d1 d2 : Nat) (t u : ByteArray) (st su : Bool) (w : World) (ra : Txt w (.slice r1 x.rel.length c1) x.rel) (rb : Txt w (.slice r2 y.rel.length c2) y.rel) (la : Txt w (.slice q1 x.loc.length d1) x.loc) (lb : Txt w (.slice q2 y.loc.length d2) y.loc) (hx : VerOK x) (hy : VerOK y) (hn : r1 = none → c1 = 0) :
    Calls Tryz.prog 152 #[.agg #[.string (ofL x.ep), .slice r1 x.rel.length c1, .int .u8 x.c, .string (ofL x.n), .bool x.b, .string (ofL x.m), .bool x.d, .string (ofL x.k), .slice q1 x.loc.length d1, .string t, .bool st], .agg #[.string (ofL y.ep), .slice r2 y.rel.length c2, .int .u8 y.c, .string (ofL y.n), .bool y.b, .string (ofL y.m), .bool y.d, .string (ofL y.k), .slice q2 y.loc.length d2, .string u, .bool su]] w fun e W' => e = .returned (.bool (eqP x y su)) ∧ Below w.heap.size w W' :=
  equal_any x y r1 r2 q1 q2 c1 c2 d1 d2 t u st su w ra rb la lb (begB x.ep x.rel y.ep y.rel) (ordP (hpub x) y) (ordP x y)
    (fun W h1 h2 h3 h4 => BG_any x y.ep y.rel r1 q1 r2 c1 d1 c2 _ _ _ _ _ _ _ W h1 h2 hx hy.len)
    (fun W h1 h2 h3 h4 => OP_any x y r1 r2 q1 q2 c1 c2 d1 d2 t u st su W h1 h2 h3 h4 hx hy hn)
    (fun W h1 h2 h3 h4 => OD_any x y r1 r2 q1 q2 c1 c2 d1 d2 W h1 h2 h3 h4 hx hy)
theorem holds_any (k : Nat) (hk : k < 8) (x y : PepL) (r1 r2 q1 q2 : Option Addr) (c1 c2 d1 d2 : Nat) (t u : ByteArray) (st su : Bool) (w : World) (ra : Txt w (.slice r1 x.rel.length c1) x.rel) (rb : Txt w (.slice r2 y.rel.length c2) y.rel) (la : Txt w (.slice q1 x.loc.length d1) x.loc) (lb : Txt w (.slice q2 y.loc.length d2) y.loc) (hx : VerOK x) (hn : r1 = none → c1 = 0) (hy : k ≠ 7 → VerOK y) (hc2 : k = 0 → y.rel.length ≤ c2) (h2 : k = 0 → 2 ≤ y.rel.length) (ht : t.size ≤ maxLen) (hu : u.size ≤ maxLen) :
    Calls Tryz.prog (hoF k) #[.agg #[.string (ofL x.ep), .slice r1 x.rel.length c1, .int .u8 x.c, .string (ofL x.n), .bool x.b, .string (ofL x.m), .bool x.d, .string (ofL x.k), .slice q1 x.loc.length d1, .string t, .bool st], .agg #[.string (ofL y.ep), .slice r2 y.rel.length c2, .int .u8 y.c, .string (ofL y.n), .bool y.b, .string (ofL y.m), .bool y.d, .string (ofL y.k), .slice q2 y.loc.length d2, .string u, .bool su]] w fun e W' => e = .returned (.bool (holdP k x t.data.toList y u.data.toList su)) ∧ Below w.heap.size w W' := by
  match k, hk with
  | 0, _ =>
    have hy := hy (by decide)
    have hc2 := hc2 rfl
    have h2 := h2 rfl
    obtain ⟨b2, o2, rfl, _⟩ := rb.some (by omega)
    obtain ⟨n, hn1⟩ : ∃ n, y.rel.length = n + 1 := ⟨y.rel.length - 1, by omega⟩
    have hdl : y.rel.dropLast.length = n := by rw [List.length_dropLast]; omega
    refine compatible_any x y r1 q1 q2 b2 o2 c1 c2 d1 d2 t u st su w ra rb la lb n hn1 (by omega) (by have := hy.len; omega) (decide (0 ≤ ordP (hpub x) y)) (begB x.ep x.rel y.ep y.rel.dropLast) ?_ ?_
    · exact fun W h1 h2 h3 h4 => from_any x y r1 _ q1 q2 c1 c2 d1 d2 t u st su W h1 h2 h3 h4 (ordP (hpub x) y) (fun W h1 h2 h3 h4 => OP_any x y r1 _ q1 q2 c1 c2 d1 d2 t u st su W h1 h2 h3 h4 hx hy hn)
    · intro W h1 h2 h3 h4
      have hT : Txt W (.slice (some ⟨b2, o2, none⟩) n c2) y.rel.dropLast := by
        obtain ⟨a, cap, e, h0 | ⟨b, off, e2, hlt, hc⟩⟩ := h2
        · rw [h0] at hn1; cases hn1
        · cases e
          cases e2
          refine ⟨_, c2, by rw [hdl], .inr ⟨b2, o2, rfl, hlt, fun i hi => ?_⟩⟩
          rw [List.getElem_dropLast]
          exact hc i (by omega)
      rw [← hdl] at hT ⊢
      exact BG_any x y.ep y.rel.dropLast r1 q1 _ c1 d1 c2 _ _ _ _ _ _ _ W h1 hT hx (by have := hy.len; omega)
  | 1, _ => exact EQ_any x y r1 r2 q1 q2 c1 c2 d1 d2 t u st su w ra rb la lb hx (hy (by decide)) hn
  | 2, _ => exact unequal_any x y r1 r2 q1 q2 c1 c2 d1 d2 t u st su w ra rb la lb (eqP x y su) (fun W h1 h2 h3 h4 => EQ_any x y r1 r2 q1 q2 c1 c2 d1 d2 t u st su W h1 h2 h3 h4 hx (hy (by decide)) hn)
  | 3, _ => exact upTo_any x y r1 r2 q1 q2 c1 c2 d1 d2 t u st su w ra rb la lb (ordP (hpub x) y) (fun W h1 h2 h3 h4 => OP_any x y r1 r2 q1 q2 c1 c2 d1 d2 t u st su W h1 h2 h3 h4 hx (hy (by decide)) hn)
  | 4, _ => exact from_any x y r1 r2 q1 q2 c1 c2 d1 d2 t u st su w ra rb la lb (ordP (hpub x) y) (fun W h1 h2 h3 h4 => OP_any x y r1 r2 q1 q2 c1 c2 d1 d2 t u st su W h1 h2 h3 h4 hx (hy (by decide)) hn)
  | 5, _ => exact less_any x y r1 r2 q1 q2 c1 c2 d1 d2 t u st su w ra rb la lb (sameB x y) (ordP x y) (fun W h1 h2 h3 h4 => SB_any x y r1 r2 q1 q2 c1 c2 d1 d2 t u st su W h1 h2 h3 h4 hx (hy (by decide))) (fun W h1 h2 h3 h4 => OD_any x y r1 r2 q1 q2 c1 c2 d1 d2 W h1 h2 h3 h4 hx (hy (by decide)))
  | 6, _ => exact more_any x y r1 r2 q1 q2 c1 c2 d1 d2 t u st su w ra rb la lb (sameB x y) (ordP x y) (fun W h1 h2 h3 h4 => SB_any x y r1 r2 q1 q2 c1 c2 d1 d2 t u st su W h1 h2 h3 h4 hx (hy (by decide))) (fun W h1 h2 h3 h4 => OD_any x y r1 r2 q1 q2 c1 c2 d1 d2 W h1 h2 h3 h4 hx (hy (by decide)))
  | 7, _ => exact sameText_any x y r1 r2 q1 q2 c1 c2 d1 d2 t u st su w ra rb la lb ht hu

end Go.Proofs.YtabmfdedbpmfmaaGreat
