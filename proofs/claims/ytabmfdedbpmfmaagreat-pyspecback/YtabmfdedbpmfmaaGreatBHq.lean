/-
  Walks: fit versions, their texts. · Plain laws: what is read is fit; no program is named here. · Plain laws: the text of a fit version is read back; no program is named here. · Walks: the texts of fit versions, normal forms. · Walks: the document's Parse in two shapes, its Normal. · Walks: a row of texts, copied: slices.Clone. · Walks: the document's Parse; two rows of clauses held against each other.
-/
import Derived.Test.YtabmfdedbpmfmaaGreatBQb
import Derived.Deep.RegionWith
import Derived.BigQuiet
import Derived.Deep.QuietTactic
import Derived.Laws.AppendOwnNone
import Derived.ProofKit
import Derived.OpenShut
import Derived.ShutString
import Derived.ChangeOld
import Derived.Below
import Derived.SizedLaws
import Derived.SliceStrings
import Derived.Deep.Fields
import Derived.Test.YtabmfdedbpmfmaaGreatBGd
import Derived.Test.YtabmfdedbpmfmaaGreatBPb
import Derived.Test.YtabmfdedbpmfmaaGreatBPg
import Derived.Test.YtabmfdedbpmfmaaGreatBPi
import Derived.Test.YtabmfdedbpmfmaaGreatBPk
import Derived.Test.YtabmfdedbpmfmaaGreatBPp
import Derived.Deep.AppendLies
import Derived.Lib.SliceRun
import Derived.Deep.Cut
import Derived.Test.YtabmfdedbpmfmaaGreatBHf
import Derived.Test.YtabmfdedbpmfmaaGreatBGj
namespace Go.Proofs.YtabmfdedbpmfmaaGreat
open Go.RowKit Go.Shelf
set_option linter.unusedVariables false

structure TB (w : World) (x : PepL) (r1 q1 : Option Addr) (c1 d1 : Nat) (W : World) : Prop where
  bel : Below w.heap.size w W
  ea : W.heap[w.heap.size]? = some (.cells #[.string (ofL x.ep), .slice r1 x.rel.length c1, .int .u8 x.c, .string (ofL x.n), .bool x.b, .string (ofL x.m), .bool x.d, .string (ofL x.k), .slice q1 x.loc.length d1] 44 (0, 0))
  rr : Txt W (.slice r1 x.rel.length c1) x.rel
  ll : Txt W (.slice q1 x.loc.length d1) x.loc
theorem TB.next {w W W' : World} {x : PepL} {r1 q1 : Option Addr} {c1 d1 : Nat} (h : TB w x r1 q1 c1 d1 W) (hb : Below W.heap.size W W') : TB w x r1 q1 c1 d1 W' :=
  ⟨h.bel.trans (hb.mono h.bel.size), (hb.block _ (Array.getElem?_eq_some_iff.1 h.ea).1).trans h.ea, h.rr.below hb, h.ll.below hb⟩
theorem TB.seen {w W : World} {x : PepL} {r1 q1 : Option Addr} {c1 d1 : Nat} (h : TB w x r1 q1 c1 d1 W) : W.cell? ⟨w.heap.size, 0, none⟩ = some (.string (ofL x.ep)) ∧ W.cell? ⟨w.heap.size, 1, none⟩ = some (.slice r1 x.rel.length c1) ∧ W.cell? ⟨w.heap.size, 2, none⟩ = some (.int .u8 x.c) ∧ W.cell? ⟨w.heap.size, 3, none⟩ = some (.string (ofL x.n)) ∧ W.cell? ⟨w.heap.size, 4, none⟩ = some (.bool x.b) ∧ W.cell? ⟨w.heap.size, 5, none⟩ = some (.string (ofL x.m)) ∧ W.cell? ⟨w.heap.size, 6, none⟩ = some (.bool x.d) ∧ W.cell? ⟨w.heap.size, 7, none⟩ = some (.string (ofL x.k)) ∧ W.cell? ⟨w.heap.size, 8, none⟩ = some (.slice q1 x.loc.length d1) :=
  ⟨cell_at 0 h.ea rfl, cell_at 1 h.ea rfl, cell_at 2 h.ea rfl, cell_at 3 h.ea rfl, cell_at 4 h.ea rfl, cell_at 5 h.ea rfl, cell_at 6 h.ea rfl, cell_at 7 h.ea rfl, cell_at 8 h.ea rfl⟩
theorem TB.start {w : World} {x : PepL} {r1 q1 : Option Addr} {c1 d1 : Nat} (rr : Txt w (.slice r1 x.rel.length c1) x.rel) (ll : Txt w (.slice q1 x.loc.length d1) x.loc) : TB w x r1 q1 c1 d1 (w.alloc (.cells #[.string (ofL x.ep), .slice r1 x.rel.length c1, .int .u8 x.c, .string (ofL x.n), .bool x.b, .string (ofL x.m), .bool x.d, .string (ofL x.k), .slice q1 x.loc.length d1] 44)) := by
  have bb : Below w.heap.size w (w.alloc (.cells #[.string (ofL x.ep), .slice r1 x.rel.length c1, .int .u8 x.c, .string (ofL x.n), .bool x.b, .string (ofL x.m), .bool x.d, .string (ofL x.k), .slice q1 x.loc.length d1] 44)) := (Below.refl _ w).alloc (Nat.le_refl _) _
  exact ⟨bb, World.alloc_heap_new w _, rr.below bb, ll.below bb⟩

structure FitT (x : PepL) : Prop where
  f1 : trimB x.ep = true
  f2 : x.rel ≠ []
  f3 : x.rel.all trimB = true
  f4 : x.c = 0 ∨ x.c = 97 ∨ x.c = 98 ∨ x.c = 114
  f5 : numB x.n (x.c != 0) = true
  f6 : numB x.m x.b = true
  f7 : numB x.k x.d = true
  f8 : x.loc.all locB = true

set_option maxRecDepth 100000 in
set_option maxHeartbeats 2000000 in
theorem Fit_0 (x : PepL) (r1 q1 : Option Addr) (c1 d1 : Nat) (w : World) (rr : Txt w (.slice r1 x.rel.length c1) x.rel) (ll : Txt w (.slice q1 x.loc.length d1) x.loc) (hx : SmallP x) (hf : FitT x) (hc : x.c = 0) :
    Calls Tryz.prog 186 #[.agg #[.string (ofL x.ep), .slice r1 x.rel.length c1, .int .u8 x.c, .string (ofL x.n), .bool x.b, .string (ofL x.m), .bool x.d, .string (ofL x.k), .slice q1 x.loc.length d1]] w fun e w' => e = .returned (.bool true) ∧ Below w.heap.size w w' := by
  have C1 := fun w => isTrimmed_any x.ep w (by have := hx.e; omega)
  rw [hf.f1] at C1
  have C2 := fun w h => all42_any (.slice r1 x.rel.length c1) x.rel w h hx.r
  rw [hf.f3] at C2
  have C3 := fun w => fitsNumber_any x.n false w (by have := hx.n; omega)
  have f5 := hf.f5
  rw [hc, show ((0 : Int) != 0) = false from rfl] at f5
  rw [f5] at C3
  have C4 := fun w => fitsNumber_any x.m x.b w (by have := hx.m; omega)
  rw [hf.f6] at C4
  have C5 := fun w => fitsNumber_any x.k x.d w (by have := hx.k; omega)
  rw [hf.f7] at C5
  have C6 := fun w h => all45_any (.slice q1 x.loc.length d1) x.loc w h hx.l
  rw [hf.f8] at C6
  have S0 := TB.start rr ll
  have hp : 0 < x.rel.length := List.length_pos_iff.2 hf.f2
  have hp' : (0 : Int) < (x.rel.length : Int) := by omega
  have C1 := hide C1
  have C2 := hide C2
  have C3 := hide C3
  have C4 := hide C4
  have C5 := hide C5
  have C6 := hide C6
  have HC := hide hc
  clear hf rr ll f5 hc
  obtain ⟨s0, s1, s2, s3, s4, s5, s6, s7, s8⟩ := S0.seen
  have sb := S0.bel
  go_enter Tryz.func186, Tryz.ntmps186
  go_wp2_with fail
  generalize hW0 : w.alloc (.cells #[.string (ofL x.ep), .slice r1 x.rel.length c1, .int .u8 x.c, .string (ofL x.n), .bool x.b, .string (ofL x.m), .bool x.d, .string (ofL x.k), .slice q1 x.loc.length d1] 44) = W0 at *
  refine (C1.out _).mono ?_
  rintro e w' ⟨rfl, hw'⟩
  rw [hw']
  clear hw' w'
  go_wp2_with fail
  refine (C2.out _ S0.rr).mono ?_
  rintro e w2 ⟨rfl, b2⟩
  have S2 := S0.next b2
  obtain ⟨t0, t1, t2, t3, t4, t5, t6, t7, t8⟩ := S2.seen
  rw [HC.out] at t2
  go_wp2_with fail
  refine (C3.out _).mono ?_
  rintro e w' ⟨rfl, hw'⟩
  rw [hw']
  clear hw' w'
  go_wp2_with fail
  refine (C4.out _).mono ?_
  rintro e w' ⟨rfl, hw'⟩
  rw [hw']
  clear hw' w'
  go_wp2_with fail
  refine (C5.out _).mono ?_
  rintro e w' ⟨rfl, hw'⟩
  rw [hw']
  clear hw' w'
  go_wp2_with fail
  refine (C6.out _ S2.ll).mono ?_
  rintro e w3 ⟨rfl, b3⟩
  go_wp2_with fail
  go_ret
  exact ⟨rfl, S2.bel.trans (b3.mono S2.bel.size)⟩

set_option maxRecDepth 100000 in
set_option maxHeartbeats 2000000 in
theorem Fit_97 (x : PepL) (r1 q1 : Option Addr) (c1 d1 : Nat) (w : World) (rr : Txt w (.slice r1 x.rel.length c1) x.rel) (ll : Txt w (.slice q1 x.loc.length d1) x.loc) (hx : SmallP x) (hf : FitT x) (hc : x.c = 97) :
    Calls Tryz.prog 186 #[.agg #[.string (ofL x.ep), .slice r1 x.rel.length c1, .int .u8 x.c, .string (ofL x.n), .bool x.b, .string (ofL x.m), .bool x.d, .string (ofL x.k), .slice q1 x.loc.length d1]] w fun e w' => e = .returned (.bool true) ∧ Below w.heap.size w w' := by
  have C1 := fun w => isTrimmed_any x.ep w (by have := hx.e; omega)
  rw [hf.f1] at C1
  have C2 := fun w h => all42_any (.slice r1 x.rel.length c1) x.rel w h hx.r
  rw [hf.f3] at C2
  have C3 := fun w => fitsNumber_any x.n true w (by have := hx.n; omega)
  have f5 := hf.f5
  rw [hc, show ((97 : Int) != 0) = true from rfl] at f5
  rw [f5] at C3
  have C4 := fun w => fitsNumber_any x.m x.b w (by have := hx.m; omega)
  rw [hf.f6] at C4
  have C5 := fun w => fitsNumber_any x.k x.d w (by have := hx.k; omega)
  rw [hf.f7] at C5
  have C6 := fun w h => all45_any (.slice q1 x.loc.length d1) x.loc w h hx.l
  rw [hf.f8] at C6
  have S0 := TB.start rr ll
  have hp : 0 < x.rel.length := List.length_pos_iff.2 hf.f2
  have hp' : (0 : Int) < (x.rel.length : Int) := by omega
  have C1 := hide C1
  have C2 := hide C2
  have C3 := hide C3
  have C4 := hide C4
  have C5 := hide C5
  have C6 := hide C6
  have HC := hide hc
  clear hf rr ll f5 hc
  obtain ⟨s0, s1, s2, s3, s4, s5, s6, s7, s8⟩ := S0.seen
  have sb := S0.bel
  go_enter Tryz.func186, Tryz.ntmps186
  go_wp2_with fail
  generalize hW0 : w.alloc (.cells #[.string (ofL x.ep), .slice r1 x.rel.length c1, .int .u8 x.c, .string (ofL x.n), .bool x.b, .string (ofL x.m), .bool x.d, .string (ofL x.k), .slice q1 x.loc.length d1] 44) = W0 at *
  refine (C1.out _).mono ?_
  rintro e w' ⟨rfl, hw'⟩
  rw [hw']
  clear hw' w'
  go_wp2_with fail
  refine (C2.out _ S0.rr).mono ?_
  rintro e w2 ⟨rfl, b2⟩
  have S2 := S0.next b2
  obtain ⟨t0, t1, t2, t3, t4, t5, t6, t7, t8⟩ := S2.seen
  rw [HC.out] at t2
  go_wp2_with fail
  refine (C3.out _).mono ?_
  rintro e w' ⟨rfl, hw'⟩
  rw [hw']
  clear hw' w'
  go_wp2_with fail
  refine (C4.out _).mono ?_
  rintro e w' ⟨rfl, hw'⟩
  rw [hw']
  clear hw' w'
  go_wp2_with fail
  refine (C5.out _).mono ?_
  rintro e w' ⟨rfl, hw'⟩
  rw [hw']
  clear hw' w'
  go_wp2_with fail
  refine (C6.out _ S2.ll).mono ?_
  rintro e w3 ⟨rfl, b3⟩
  go_wp2_with fail
  go_ret
  exact ⟨rfl, S2.bel.trans (b3.mono S2.bel.size)⟩

set_option maxRecDepth 100000 in
set_option maxHeartbeats 2000000 in
theorem Fit_98 (x : PepL) (r1 q1 : Option Addr) (c1 d1 : Nat) (w : World) (rr : Txt w (.slice r1 x.rel.length c1) x.rel) (ll : Txt w (.slice q1 x.loc.length d1) x.loc) (hx : SmallP x) (hf : FitT x) (hc : x.c = 98) :
    Calls Tryz.prog 186 #[.agg #[.string (ofL x.ep), .slice r1 x.rel.length c1, .int .u8 x.c, .string (ofL x.n), .bool x.b, .string (ofL x.m), .bool x.d, .string (ofL x.k), .slice q1 x.loc.length d1]] w fun e w' => e = .returned (.bool true) ∧ Below w.heap.size w w' := by
  have C1 := fun w => isTrimmed_any x.ep w (by have := hx.e; omega)
  rw [hf.f1] at C1
  have C2 := fun w h => all42_any (.slice r1 x.rel.length c1) x.rel w h hx.r
  rw [hf.f3] at C2
  have C3 := fun w => fitsNumber_any x.n true w (by have := hx.n; omega)
  have f5 := hf.f5
  rw [hc, show ((98 : Int) != 0) = true from rfl] at f5
  rw [f5] at C3
  have C4 := fun w => fitsNumber_any x.m x.b w (by have := hx.m; omega)
  rw [hf.f6] at C4
  have C5 := fun w => fitsNumber_any x.k x.d w (by have := hx.k; omega)
  rw [hf.f7] at C5
  have C6 := fun w h => all45_any (.slice q1 x.loc.length d1) x.loc w h hx.l
  rw [hf.f8] at C6
  have S0 := TB.start rr ll
  have hp : 0 < x.rel.length := List.length_pos_iff.2 hf.f2
  have hp' : (0 : Int) < (x.rel.length : Int) := by omega
  have C1 := hide C1
  have C2 := hide C2
  have C3 := hide C3
  have C4 := hide C4
  have C5 := hide C5
  have C6 := hide C6
  have HC := hide hc
  clear hf rr ll f5 hc
  obtain ⟨s0, s1, s2, s3, s4, s5, s6, s7, s8⟩ := S0.seen
  have sb := S0.bel
  go_enter Tryz.func186, Tryz.ntmps186
  go_wp2_with fail
  generalize hW0 : w.alloc (.cells #[.string (ofL x.ep), .slice r1 x.rel.length c1, .int .u8 x.c, .string (ofL x.n), .bool x.b, .string (ofL x.m), .bool x.d, .string (ofL x.k), .slice q1 x.loc.length d1] 44) = W0 at *
  refine (C1.out _).mono ?_
  rintro e w' ⟨rfl, hw'⟩
  rw [hw']
  clear hw' w'
  go_wp2_with fail
  refine (C2.out _ S0.rr).mono ?_
  rintro e w2 ⟨rfl, b2⟩
  have S2 := S0.next b2
  obtain ⟨t0, t1, t2, t3, t4, t5, t6, t7, t8⟩ := S2.seen
  rw [HC.out] at t2
  go_wp2_with fail
  refine (C3.out _).mono ?_
  rintro e w' ⟨rfl, hw'⟩
  rw [hw']
  clear hw' w'
  go_wp2_with fail
  refine (C4.out _).mono ?_
  rintro e w' ⟨rfl, hw'⟩
  rw [hw']
  clear hw' w'
  go_wp2_with fail
  refine (C5.out _).mono ?_
  rintro e w' ⟨rfl, hw'⟩
  rw [hw']
  clear hw' w'
  go_wp2_with fail
  refine (C6.out _ S2.ll).mono ?_
  rintro e w3 ⟨rfl, b3⟩
  go_wp2_with fail
  go_ret
  exact ⟨rfl, S2.bel.trans (b3.mono S2.bel.size)⟩

set_option maxRecDepth 100000 in
set_option maxHeartbeats 2000000 in
theorem Fit_114 (x : PepL) (r1 q1 : Option Addr) (c1 d1 : Nat) (w : World) (rr : Txt w (.slice r1 x.rel.length c1) x.rel) (ll : Txt w (.slice q1 x.loc.length d1) x.loc) (hx : SmallP x) (hf : FitT x) (hc : x.c = 114) :
    Calls Tryz.prog 186 #[.agg #[.string (ofL x.ep), .slice r1 x.rel.length c1, .int .u8 x.c, .string (ofL x.n), .bool x.b, .string (ofL x.m), .bool x.d, .string (ofL x.k), .slice q1 x.loc.length d1]] w fun e w' => e = .returned (.bool true) ∧ Below w.heap.size w w' := by
  have C1 := fun w => isTrimmed_any x.ep w (by have := hx.e; omega)
  rw [hf.f1] at C1
  have C2 := fun w h => all42_any (.slice r1 x.rel.length c1) x.rel w h hx.r
  rw [hf.f3] at C2
  have C3 := fun w => fitsNumber_any x.n true w (by have := hx.n; omega)
  have f5 := hf.f5
  rw [hc, show ((114 : Int) != 0) = true from rfl] at f5
  rw [f5] at C3
  have C4 := fun w => fitsNumber_any x.m x.b w (by have := hx.m; omega)
  rw [hf.f6] at C4
  have C5 := fun w => fitsNumber_any x.k x.d w (by have := hx.k; omega)
  rw [hf.f7] at C5
  have C6 := fun w h => all45_any (.slice q1 x.loc.length d1) x.loc w h hx.l
  rw [hf.f8] at C6
  have S0 := TB.start rr ll
  have hp : 0 < x.rel.length := List.length_pos_iff.2 hf.f2
  have hp' : (0 : Int) < (x.rel.length : Int) := by omega
  have C1 := hide C1
  have C2 := hide C2
  have C3 := hide C3
  have C4 := hide C4
  have C5 := hide C5
  have C6 := hide C6
  have HC := hide hc
  clear hf rr ll f5 hc
  obtain ⟨s0, s1, s2, s3, s4, s5, s6, s7, s8⟩ := S0.seen
  have sb := S0.bel
  go_enter Tryz.func186, Tryz.ntmps186
  go_wp2_with fail
  generalize hW0 : w.alloc (.cells #[.string (ofL x.ep), .slice r1 x.rel.length c1, .int .u8 x.c, .string (ofL x.n), .bool x.b, .string (ofL x.m), .bool x.d, .string (ofL x.k), .slice q1 x.loc.length d1] 44) = W0 at *
  refine (C1.out _).mono ?_
  rintro e w' ⟨rfl, hw'⟩
  rw [hw']
  clear hw' w'
  go_wp2_with fail
  refine (C2.out _ S0.rr).mono ?_
  rintro e w2 ⟨rfl, b2⟩
  have S2 := S0.next b2
  obtain ⟨t0, t1, t2, t3, t4, t5, t6, t7, t8⟩ := S2.seen
  rw [HC.out] at t2
  go_wp2_with fail
  refine (C3.out _).mono ?_
  rintro e w' ⟨rfl, hw'⟩
  rw [hw']
  clear hw' w'
  go_wp2_with fail
  refine (C4.out _).mono ?_
  rintro e w' ⟨rfl, hw'⟩
  rw [hw']
  clear hw' w'
  go_wp2_with fail
  refine (C5.out _).mono ?_
  rintro e w' ⟨rfl, hw'⟩
  rw [hw']
  clear hw' w'
  go_wp2_with fail
  refine (C6.out _ S2.ll).mono ?_
  rintro e w3 ⟨rfl, b3⟩
  go_wp2_with fail
  go_ret
  exact ⟨rfl, S2.bel.trans (b3.mono S2.bel.size)⟩

theorem Fit_true (x : PepL) (r1 q1 : Option Addr) (c1 d1 : Nat) (w : World) (rr : Txt w (.slice r1 x.rel.length c1) x.rel) (ll : Txt w (.slice q1 x.loc.length d1) x.loc) (hx : SmallP x) (hf : FitT x) :
    Calls Tryz.prog 186 #[.agg #[.string (ofL x.ep), .slice r1 x.rel.length c1, .int .u8 x.c, .string (ofL x.n), .bool x.b, .string (ofL x.m), .bool x.d, .string (ofL x.k), .slice q1 x.loc.length d1]] w fun e w' => e = .returned (.bool true) ∧ Below w.heap.size w w' := by
  rcases hf.f4 with hc | hc | hc | hc
  · exact Fit_0 x r1 q1 c1 d1 w rr ll hx hf hc
  · exact Fit_97 x r1 q1 c1 d1 w rr ll hx hf hc
  · exact Fit_98 x r1 q1 c1 d1 w rr ll hx hf hc
  · exact Fit_114 x r1 q1 c1 d1 w rr ll hx hf hc

end Go.Proofs.YtabmfdedbpmfmaaGreat

namespace Go.Proofs.YtabmfdedbpmfmaaGreat
set_option linter.unusedVariables false

theorem run_of_mem (k : Int) : ∀ t : List UInt8, (∀ c ∈ t, isC (c.toNat : Int) k = true) → runL k t = t.length
  | [], _ => rfl
  | c :: t, h => by
    rw [runL, if_pos (h c List.mem_cons_self), run_of_mem k t (fun c hc => h c (List.mem_cons_of_mem _ hc))]
    rfl
theorem mem_of_run (k : Int) : ∀ t : List UInt8, runL k t = t.length → ∀ c ∈ t, isC (c.toNat : Int) k = true
  | [], _, c, h => by cases h
  | d :: t, h, c, hc => by
    have hd : isC (d.toNat : Int) k = true := by
      cases hh : isC (d.toNat : Int) k
      · rw [runL, hh] at h; simp at h
      · rfl
    rw [runL, if_pos hd] at h
    rcases List.mem_cons.1 hc with rfl | hc
    · exact hd
    · exact mem_of_run k t (by simpa using h) c hc
theorem run_taken (k : Int) : ∀ m : List UInt8, runL k (m.take (runL k m)) = (m.take (runL k m)).length
  | [] => rfl
  | c :: r => by
    rw [runL]
    split
    · rename_i h
      rw [List.take_succ_cons, runL, if_pos h, run_taken k r]
      rfl
    · rfl
theorem trim_mem : ∀ (l : List UInt8) (c : UInt8), c ∈ trimL l → c = 48 ∨ c ∈ l
  | [], c, h => .inl (by simpa [trimL] using h)
  | d :: r, c, h => by
    rw [trimL] at h
    split at h
    · rcases trim_mem r c h with h | h
      · exact .inl h
      · exact .inr (List.mem_cons_of_mem _ h)
    · exact .inr h
theorem trim_idem : ∀ l : List UInt8, trimL (trimL l) = trimL l ∧ trimL l ≠ []
  | [] => ⟨rfl, by simp [trimL]⟩
  | d :: r => by
    rw [trimL]
    split
    · exact trim_idem r
    · rename_i h
      exact ⟨by rw [trimL, if_neg h], by simp⟩
theorem trim_fit (l : List UInt8) (h : runL 1 l = l.length) : trimB (trimL l) = true := by
  have hi := trim_idem l
  have hr : runL 1 (trimL l) = (trimL l).length := by
    refine run_of_mem 1 _ fun c hc => ?_
    rcases trim_mem l c hc with rfl | hc
    · rfl
    · exact mem_of_run 1 l h c hc
  unfold trimB digB
  simp only [Bool.and_eq_true, beq_iff_eq, Bool.not_eq_true', List.isEmpty_eq_false_iff]
  exact ⟨⟨hi.2, hr⟩, hi.1⟩
theorem dig_run {l : List UInt8} (h : digB l = true) : l ≠ [] ∧ runL 1 l = l.length := by
  unfold digB at h
  simp only [Bool.and_eq_true, beq_iff_eq, Bool.not_eq_true', List.isEmpty_eq_false_iff] at h
  exact h
theorem seg_take (l : List UInt8) (a n : Nat) : seg l a (a + n) = (l.drop a).take n := by
  unfold seg
  rw [List.drop_take]
  congr 1
  omega
theorem digT_run (l : List UInt8) (a : Nat) : runL 1 (digT l a) = (digT l a).length := by
  unfold digT digE
  rw [seg_take]
  exact run_taken 1 _
theorem digT_fit (l : List UInt8) (a : Nat) : trimB (trimL (digT l a)) = true := trim_fit _ (digT_run l a)
theorem runs_run (l : List UInt8) (k : Int) (seps : List UInt8) : ∀ (n a : Nat), l.length - a = n → ∀ x ∈ runsL l k seps a, seg l x.1 x.2 ≠ [] ∧ runL k (seg l x.1 x.2) = (seg l x.1 x.2).length := by
  intro n
  induction n using Nat.strongRecOn with
  | ind n ih =>
    intro a hn x hx
    rw [runsL] at hx
    by_cases h0 : runL k (l.drop a) = 0
    · rw [if_pos h0] at hx; cases hx
    · rw [if_neg h0] at hx
      rcases List.mem_cons.1 hx with rfl | hx
      · show seg l a (a + runL k (l.drop a)) ≠ [] ∧ _
        have hle := runL_le k (l.drop a)
        dsimp only
        rw [seg_take]
        refine ⟨?_, run_taken k _⟩
        intro he
        have := congrArg List.length he
        rw [List.length_take, List.length_nil] at this
        omega
      · by_cases h1 : ∃ c, l[a + runL k (l.drop a)]? = some c ∧ seps.contains c = true
        · rw [dif_pos h1] at hx
          obtain ⟨c, hc, _⟩ := h1
          have hlt := (List.getElem?_eq_some_iff.1 hc).1
          exact ih (l.length - (a + runL k (l.drop a) + 1)) (by omega) _ rfl x hx
        · rw [dif_neg h1] at hx; cases hx
theorem dig_class5 {c : UInt8} (h : isC (c.toNat : Int) 1 = true) : isC (c.toNat : Int) 5 = true := by
  simp only [isC] at h ⊢
  simp at h ⊢
  omega
theorem low_seg (l : List UInt8) (a b : Nat) (h : lowL l = l) : lowL (seg l a b) = seg l a b := by
  unfold lowL seg at *
  rw [List.map_drop, List.map_take, h]
theorem low_idem (l : List UInt8) : lowL (lowL l) = lowL l := by
  unfold lowL
  rw [List.map_map]
  refine List.map_congr_left fun c _ => ?_
  show lowC (lowC c) = lowC c
  by_cases h : isC (c.toNat : Int) 3 = true
  · have hc : lowC c = c + 32 := by unfold lowC; rw [if_pos h]
    rw [hc]
    unfold lowC
    rw [if_neg]
    simp only [isC] at h ⊢
    simp at h ⊢
    omega
  · have hc : lowC c = c := by unfold lowC; rw [if_neg h]
    rw [hc, hc]
theorem loc_fit (p : List UInt8) (h0 : p ≠ []) (h1 : runL 5 p = p.length) (h2 : lowL p = p) : locB (plainL p) = true := by
  unfold locB
  cases hd : digB p
  · have e : plainL p = p := by unfold plainL; rw [hd]; rfl
    rw [e, e, h1, h2]
    simp [h0]
  · have e : plainL p = trimL p := by unfold plainL; rw [hd]; rfl
    obtain ⟨d1, d2⟩ := dig_run hd
    have hf := trim_fit p d2
    obtain ⟨t1, t2, t3, t4⟩ := trim_of hf
    rw [e, t4]
    have l5 : runL 5 (trimL p) = (trimL p).length := run_of_mem 5 _ fun c hc => dig_class5 (run_mem _ t2 c hc)
    have ll : lowL (trimL p) = trimL p := by
      unfold lowL
      rw [List.map_congr_left (g := id), List.map_id]
      intro c hc
      exact dig_low (run_mem _ t2 c hc)
    rw [l5, ll]
    simp [t1]

theorem read_fit (u : List UInt8) (hu : lowL u = u) (h : (verX u).1 = 0) : FitT (pepOf u) := by
  have hr : (vrel u).length ≠ 0 := by
    intro h0
    unfold verX at h
    rw [if_pos h0] at h
    exact misL_ne _ _ h
  refine ⟨?_, ?_, ?_, ?_, ?_, ?_, ?_, ?_⟩
  · show trimB (epoT u (vp1 u)) = true
    unfold epoT
    split
    · rename_i he
      unfold epoB at he
      simp only [Bool.and_eq_true] at he
      exact trim_fit _ (dig_run he.2).2
    · rfl
  · show rowL u (vrel u) ≠ []
    intro he
    apply hr
    have := congrArg List.length he
    simpa [rowL] using this
  · show (rowL u (vrel u)).all trimB = true
    rw [List.all_eq_true]
    intro t ht
    obtain ⟨x, hx, rfl⟩ := List.mem_map.1 ht
    obtain ⟨s1, s2⟩ := runs_run u 1 [46] _ _ rfl x hx
    have hd : digB (seg u x.1 x.2) = true := by
      unfold digB
      simp only [Bool.and_eq_true, beq_iff_eq, Bool.not_eq_true', List.isEmpty_eq_false_iff]
      exact ⟨s1, s2⟩
    have e : plainL (seg u x.1 x.2) = trimL (seg u x.1 x.2) := by unfold plainL; rw [hd]; rfl
    rw [e]
    exact trim_fit _ s2
  · show preC u (vp3 u) = 0 ∨ preC u (vp3 u) = 97 ∨ preC u (vp3 u) = 98 ∨ preC u (vp3 u) = 114
    unfold preC
    split
    · exact .inl rfl
    · split
      · exact .inr (.inl rfl)
      · split
        · exact .inr (.inr (.inl rfl))
        · exact .inr (.inr (.inr rfl))
  · show numB (stN u (vp3 u) preWs) (preC u (vp3 u) != 0) = true
    unfold stN preC
    cases wordL u (vp3 u) preWs with
    | none => rfl
    | some x =>
      dsimp only
      have hb : ((if x = [97, 108, 112, 104, 97] ∨ x = [97] then (97 : Int) else if x = [98, 101, 116, 97] ∨ x = [98] then 98 else 114) != 0) = true := by
        (repeat' split) <;> rfl
      rw [hb]
      exact digT_fit _ _
  · show numB (posN u (vp4 u)) (posB u (vp4 u)) = true
    unfold posN posB
    split
    · exact digT_fit _ _
    · unfold stN
      cases wordL u (vp4 u) postWs with
      | none => rfl
      | some x => exact digT_fit _ _
  · show numB (stN u (vp5 u) devWs) (wordL u (vp5 u) devWs).isSome = true
    unfold stN
    cases wordL u (vp5 u) devWs with
    | none => rfl
    | some x => exact digT_fit _ _
  · show (rowL u (vlocs u)).all locB = true
    rw [List.all_eq_true]
    intro t ht
    obtain ⟨x, hx, rfl⟩ := List.mem_map.1 ht
    unfold vlocs at hx
    split at hx
    · obtain ⟨s1, s2⟩ := runs_run u 5 [45, 95, 46] _ _ rfl x hx
      exact loc_fit _ s1 s2 (low_seg _ _ _ hu)
    · cases hx

end Go.Proofs.YtabmfdedbpmfmaaGreat

namespace Go.Proofs.YtabmfdedbpmfmaaGreat
set_option linter.unusedVariables false

def RL (R : List UInt8) : Prop := R = [] ∨ ∃ r, R = 43 :: r
def RD (R : List UInt8) : Prop := RL R ∨ ∃ r, R = 46 :: 100 :: 101 :: 118 :: r
end Go.Proofs.YtabmfdedbpmfmaaGreat

namespace Go.Proofs.YtabmfdedbpmfmaaGreat
open Go.RowKit Go.Shelf
set_option linter.unusedVariables false

theorem low_ok {l : List UInt8} (h : okP l = true) : (verX (lowL l)).1 = 0 ∧ l.length ≤ 64 := by
  unfold okP at h
  simp only [Bool.and_eq_true, decide_eq_true_eq] at h
  exact ⟨h.2, h.1⟩
theorem ok_fit {l : List UInt8} (h : okP l = true) : FitT (pepOf (lowL l)) := read_fit _ (low_idem l) (low_ok h).1

end Go.Proofs.YtabmfdedbpmfmaaGreat

namespace Go.Proofs.YtabmfdedbpmfmaaGreat
open Go.RowKit Go.Shelf
set_option linter.unusedVariables false

structure SmallQ (x : PepL) : Prop where
  e : x.ep.length ≤ 65
  n : x.n.length ≤ 65
  m : x.m.length ≤ 65
  k : x.k.length ≤ 65
  r : x.rel.length ≤ 65 ∧ ∀ t ∈ x.rel, t.length ≤ 65
  l : x.loc.length ≤ 65 ∧ ∀ t ∈ x.loc, t.length ≤ 65
theorem pep_smallQ (u : List UInt8) (hu : u.length ≤ 64) : SmallQ (pepOf u) := by
  have h1 := epoT_le u (vp1 u)
  have h2 := stN_le u (vp3 u) preWs
  have h3 := posN_le u (vp4 u)
  have h4 := stN_le u (vp5 u) devWs
  have r1 := runs_len u 1 [46] _ (vp2 u) rfl
  have r2 := runs_len u 5 [45, 95, 46] _ (vp7 u) rfl
  refine ⟨?_, ?_, ?_, ?_, row_short u hu _ ?_, row_short u hu _ ?_⟩
  · show (epoT u (vp1 u)).length ≤ 65; omega
  · show (stN u (vp3 u) preWs).length ≤ 65; omega
  · show (posN u (vp4 u)).length ≤ 65; omega
  · show (stN u (vp5 u) devWs).length ≤ 65; omega
  · show (vrel u).length ≤ 65
    unfold vrel
    omega
  · unfold vlocs
    split
    · unfold vloc
      omega
    · simp
end Go.Proofs.YtabmfdedbpmfmaaGreat

namespace Go.Proofs.YtabmfdedbpmfmaaGreat
open Go.RowKit Go.Shelf
set_option linter.unusedVariables false

def valT (ts : List (List UInt8)) : List Value := ts.map fun t => .string (ofL t)
theorem valT_len (ts : List (List UInt8)) : (valT ts).length = ts.length * 1 := by simp [valT]
theorem valT_one (ts : List (List UInt8)) : ∀ u ∈ valT ts, u.oneCell' = true := by
  intro u hu
  simp only [valT, List.mem_map] at hu
  obtain ⟨t, _, rfl⟩ := hu
  rfl
theorem own_txt {W : World} {base : Nat} {v : Value} {ts : List (List UInt8)} (h : W.ownsRow base 9 1 v ts.length (valT ts)) : Txt W v ts := by
  rcases h.2 with ⟨rfl, h0⟩ | ⟨g, cap, cur, rfl, hg, hh, _, _, hsz, ht⟩
  · exact ⟨none, 0, by rw [h0], .inl (List.length_eq_zero_iff.1 h0)⟩
  · refine ⟨_, cap, rfl, .inr ⟨g, 0, rfl, (Array.getElem?_eq_some_iff.1 hh).1, fun i hi => ?_⟩⟩
    refine cell_at _ hh ?_
    have e : (valT ts)[i]? = some (.string (ofL ts[i])) := by simp [valT, hi]
    rw [← ht, List.getElem?_take_of_lt (by omega)] at e
    rw [Nat.zero_add]
    simpa using e
theorem txt_news {W : World} {b off : Nat} {ts : List (List UInt8)} (hc : ∀ i (h : i < ts.length), W.cell? ⟨b, off + i, none⟩ = some (.string (ofL ts[i]))) : ∀ j u, (valT ts)[j]? = some u → W.cell? ((⟨b, off, none⟩ : Addr).add j) = some u := by
  intro j u hu
  obtain ⟨hj, rfl⟩ := List.getElem?_eq_some_iff.1 hu
  have hj' : j < ts.length := by simpa [valT] using hj
  have := hc j hj'
  have ea : (Addr.add ⟨b, off, none⟩ j) = ⟨b, off + j, none⟩ := by
    by_cases e0 : j = 0
    · subst e0; rfl
    · simp [Addr.add, e0]
  rw [ea]
  simpa [valT] using this
theorem own_below {W W' : World} {base : Nat} {e : TypeId} {size : Nat} {v : Value} {n : Nat} {xs : List Value} (h : W.ownsRow base e size v n xs) (hB : base ≤ W.heap.size) (hg : W.grownBy W' v.ownBlock) : Below base W W' := by
  refine ⟨hg.os, hg.tape, hg.output, hg.size, fun k hk => hg.block k (by omega) fun e => ?_⟩
  rcases h.2 with ⟨rfl, _⟩ | ⟨g, cap, cur, rfl, h2, _⟩
  · cases e
  · simp only [Value.ownBlock, Option.some.injEq] at e
    omega

set_option maxRecDepth 100000 in
set_option maxHeartbeats 2000000 in
theorem Clone_any (v : Value) (ts : List (List UInt8)) (w : World) (hA : Txt w v ts) (hl : ts.length ≤ 1048576) (hnil : ∀ n c, v = .slice none n c → c = 0) :
    Calls Tryz.prog 194 #[v] w fun e w' => ∃ v', e = .returned v' ∧ w'.ownsRow w.heap.size 9 1 v' ts.length (valT ts) ∧ Below w.heap.size w w' := by
  obtain ⟨i0, hi, hz0, hz1, hz2⟩ := info_parts Tryz.info9
  obtain ⟨aa, ca, rfl, hra⟩ := hA
  have own0 : (w.alloc (.cells #[] 9)).ownsRow w.heap.size 9 1 (.slice (some ⟨w.heap.size, 0, none⟩) 0 0) 0 [] := ⟨rfl, .inr ⟨w.heap.size, 0, #[], rfl, Nat.le_refl _, World.alloc_heap_new w _, Nat.le_refl _, by unfold maxLen; omega, rfl, rfl⟩⟩
  have b0 : Below w.heap.size w (w.alloc (.cells #[] 9)) := (Below.refl _ w).alloc (Nat.le_refl _) _
  have HO := hide own0
  clear own0
  cases aa with
  | none =>
    have hs : ts = [] := by rcases hra with h | ⟨b, off, h, _⟩; exact h; cases h
    subst hs
    obtain rfl := hnil _ _ rfl
    have EQ := Lib.run_eql_slice_nil (P := Tryz.prog) w 37 9 none 0 0 0 0 Tryz.underlying37
    simp only [Option.isNone] at EQ
    go_enter Tryz.func194, Tryz.ntmps194
    go_wp2_with fail
    go_ret
    exact ⟨_, rfl, World.ownsRow_nil _ _ _ _, Below.refl _ _⟩
  | some ad =>
    by_cases h0 : ts = []
    · subst h0
      have EQ := Lib.run_eql_slice_nil (P := Tryz.prog) w 37 9 (some ad) 0 ca 0 0 Tryz.underlying37
      simp only [Option.isNone] at EQ
      go_enter Tryz.func194, Tryz.ntmps194
      go_wp2_with (at_builtin; refine wpList_append_own _ rfl (.tmp 5) (.tmp 6) 37 rfl w.heap.size 9 i0 (.string .empty) 1 16 Tryz.underlying37 hi hz0 hz1 hz2 rfl (by decide) _ _ _ rfl HO.out ad 0 ca [] rfl rfl (fun j u h => by simp at h) (fun u h => by cases h) (by unfold maxLen; omega) (by omega) (by simp) ?_; intro v' w3 own1 grow1 _)
      go_ret
      exact ⟨v', rfl, own1, b0.trans (own_below HO.out (by simp) grow1)⟩
    · obtain ⟨b, off, hab, hlb, hc⟩ : ∃ b off, some ad = some ⟨b, off, none⟩ ∧ b < w.heap.size ∧ ∀ i (h : i < ts.length), w.cell? ⟨b, off + i, none⟩ = some (.string (ofL ts[i])) := by
        rcases hra with h1 | h1
        · exact absurd h1 h0
        · exact h1
      cases hab
      have HC := hide (txt_news (W := w.alloc (.cells #[] 9)) (b := b) (off := off) (ts := ts) (fun i h => by rw [← hc i h]; simp only [World.cell?]; rw [b0.block b hlb]))
      clear hc
      have EQ := Lib.run_eql_slice_nil (P := Tryz.prog) w 37 9 (some ⟨b, off, none⟩) ts.length ca 0 0 Tryz.underlying37
      simp only [Option.isNone] at EQ
      go_enter Tryz.func194, Tryz.ntmps194
      go_wp2_with (at_builtin; refine wpList_append_own _ rfl (.tmp 5) (.tmp 6) 37 rfl w.heap.size 9 i0 (.string .empty) 1 16 Tryz.underlying37 hi hz0 hz1 hz2 rfl (by decide) _ _ _ rfl HO.out ⟨b, off, none⟩ ts.length ca (valT ts) rfl (valT_len ts) HC.out (valT_one ts) (by unfold maxLen; omega) (by omega) (by simp) ?_; intro v' w3 own1 grow1 _)
      go_ret
      refine ⟨v', rfl, ?_, b0.trans (own_below HO.out (by simp) grow1)⟩
      have := own1
      simp only [Nat.zero_add, List.nil_append] at this
      exact this

end Go.Proofs.YtabmfdedbpmfmaaGreat

namespace Go.Proofs.YtabmfdedbpmfmaaGreat
open Go.RowKit Go.Shelf
set_option linter.unusedVariables false

def PfPost (r : Int × Nat × List Cl) (w : World) (e : Ending) (w' : World) : Prop :=
  Below w.heap.size w w' ∧ ∃ v, e = .returned (.tuple #[v, .agg #[.int .i64 r.1, .int .i64 (r.2.1 : Int)]]) ∧ PyAt w' v r.2.2 ∧ FreshC w.heap.size v
theorem PyAt.young {n : Nat} {W W' : World} {v : Value} {cs : List Cl} (h : PyAt W v cs) (hf : FreshC n v) (hk : ∀ j, n ≤ j → j < W.heap.size → W'.heap[j]? = W.heap[j]?) (hs : W.heap.size ≤ W'.heap.size) : PyAt W' v cs := by
  obtain ⟨a, c, rfl, h0 | ⟨g, rfl, hg, hc⟩⟩ := h
  · exact ⟨a, c, rfl, .inl h0⟩
  · exact ⟨_, c, rfl, .inr ⟨g, rfl, Nat.lt_of_lt_of_le hg hs, fun j u hj => (World.cell?_of_block (w := W) (hk g (hf _ _ _ rfl).1 hg)).trans (hc j u hj)⟩⟩
theorem clause_at {W : World} {b : Nat} : ∀ (cs : List Cl) (o : Nat), (∀ j u, (cs.flatMap plL)[j]? = some u → W.cell? ⟨b, o + j, none⟩ = some u) → ∀ i (h : i < cs.length),
    W.cell? ⟨b, o + i * 3, none⟩ = some (.string (ofL (sgn cs[i].k))) ∧ W.cell? ⟨b, o + i * 3 + 1, none⟩ = some (.string (ofL cs[i].t)) ∧ W.cell? ⟨b, o + i * 3 + 2, none⟩ = some (.bool cs[i].st)
  | [], _, _, i, h => by cases h
  | c :: cs, o, hx, 0, h => by
    refine ⟨?_, ?_, ?_⟩
    · exact hx 0 _ rfl
    · exact hx 1 _ rfl
    · exact hx 2 _ rfl
  | c :: cs, o, hx, i + 1, h => by
    have := clause_at (W := W) (b := b) cs (o + 3) (fun j u hj => by
      have := hx (3 + j) u (by rw [List.flatMap_cons, List.getElem?_append_right (by simp [plL])]; simpa [plL] using hj)
      rwa [← Nat.add_assoc] at this) i (by simpa using h)
    rw [show o + (i + 1) * 3 = o + 3 + i * 3 by omega]
    exact this
theorem PyAt.cells {W : World} {v : Value} {cs : List Cl} (h : PyAt W v cs) : ∃ a cap, v = .slice a cs.length cap ∧ ∀ i (h : i < cs.length), ∃ b, a = some ⟨b, 0, none⟩ ∧
    W.cell? ⟨b, i * 3, none⟩ = some (.string (ofL (sgn cs[i].k))) ∧ W.cell? ⟨b, i * 3 + 1, none⟩ = some (.string (ofL cs[i].t)) ∧ W.cell? ⟨b, i * 3 + 2, none⟩ = some (.bool cs[i].st) := by
  obtain ⟨a, c, rfl, h0 | ⟨g, rfl, hg, hc⟩⟩ := h
  · exact ⟨a, c, rfl, fun i h => by rw [h0] at h; cases h⟩
  · refine ⟨_, c, rfl, fun i h => ⟨g, rfl, ?_⟩⟩
    have := clause_at (W := W) (b := g) cs 0 (fun j u hj => by rw [Nat.zero_add]; exact hc j u hj) i h
    simpa using this
set_option maxRecDepth 100000 in
set_option maxHeartbeats 4000000 in
theorem RClauses_same (v v' : Value) (cs : List Cl) (w : World) (h1 : PyAt w v cs) (h2 : PyAt w v' cs) (hl : cs.length ≤ 1048576) :
    Calls Tryz.prog 11 #[v, v'] w fun e w' => e = .returned (.bool true) ∧ Below w.heap.size w w' := by
  obtain ⟨a, c1, rfl, _⟩ := id h1
  obtain ⟨b, c2, rfl, _⟩ := id h2
  have H1 := hide h1
  have H2 := hide h2
  clear h1 h2
  have hnn : ((cs.length : Int) != (cs.length : Int)) = false := by simp
  go_enter Tryz.func11, Tryz.ntmps11
  go_wp2_with fail
  go_loopw [5] (fun x wr => ∃ i : Nat, i ≤ cs.length ∧ x = .int .i64 i ∧ Below w.heap.size w wr) (fun x _ => cs.length - (intOf x).toNat)
  case atStart => exact ⟨0, Nat.zero_le _, rfl, Below.refl _ _⟩
  case round =>
    obtain ⟨i, hi, rfl, hb⟩ := hrel
    by_cases hin : i < cs.length
    · have hin' : (i : Int) < (cs.length : Int) := by omega
      obtain ⟨_, _, he1, hA⟩ := (H1.out.below hb).cells
      obtain ⟨_, _, he2, hB⟩ := (H2.out.below hb).cells
      obtain ⟨g1, hg1, p0, p1, p2⟩ := hA i hin
      obtain ⟨g2, hg2, q0, q1, q2⟩ := hB i hin
      cases he1
      cases he2
      subst hg1
      subst hg2
      clear hA hB
      generalize sgn cs[i].k = X0 at *
      generalize cs[i].t = X1 at *
      generalize cs[i].st = X2 at *
      go_wp2_with fail
      go_quiet (fail)
      have hb' : Below w.heap.size w (wr.drewN nq) := hb.trans ((below_drewN _ _ _).mono hb.size)
      generalize wr.drewN nq = W9 at *
      go_wp2_with fail
      go_roundw
      case rel => exact ⟨i + 1, by omega, by go_num, hb'⟩
      case measure => simp [intOf]; omega
    · have hin' : ¬ (i : Int) < (cs.length : Int) := by omega
      go_wp2_with fail
      go_ret
      exact ⟨rfl, hb⟩

end Go.Proofs.YtabmfdedbpmfmaaGreat
