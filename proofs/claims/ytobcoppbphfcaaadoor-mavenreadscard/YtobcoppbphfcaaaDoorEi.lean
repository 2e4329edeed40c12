/-
  Walks: the law on reading.
-/
import Derived.Test.YtobcoppbphfcaaaDoorEf
import Derived.Test.YtobcoppbphfcaaaDoorEh
import Derived.Test.YtobcoppbphfcaaaDoorDr
namespace Go.Proofs.YtobcoppbphfcaaaDoor
open Go.RowKit Go.Shelf
set_option linter.unusedVariables false

def xsT (l : List UInt8) : List Tok := match toksL l with | .ok ts => ts | .error _ => []
def eT (l : List UInt8) : Int := match toksL l with | .ok _ => 0 | .error x => x.1
def pT (l : List UInt8) : Nat := match toksL l with | .ok _ => 0 | .error x => x.2
/-- What reading leaves, in the program and in the document. -/
def UPost (l : List UInt8) (w : World) (r : Ending) (w' : World) : Prop := ∃ ao cv, r = .returned (.tuple #[.slice ao (xsT l).length cv, .agg #[.int .i64 (eT l), .int .i64 (pT l : Int)]]) ∧ Toks w' (.slice ao (xsT l).length cv) (xsT l) ∧ Below w.heap.size w w'
theorem toks_none (w : World) : Toks w (.slice none 0 0) [] := ⟨none, 0, rfl, .inl rfl⟩
theorem Tokens_u (s : ByteArray) (w : World) (h0 : 0 < w.heap.size) : Calls Tryd.prog 8 #[.string s] w (UPost s.data.toList w) := by
  cases hp : toksL s.data.toList with
  | error x =>
    refine (Tokens_no s x hp w).mono ?_
    rintro e w' ⟨rfl, b⟩
    refine ⟨none, 0, ?_, ?_, b⟩
    · unfold xsT eT pT; rw [hp]; rfl
    · unfold xsT; rw [hp]; exact toks_none _
  | ok ts =>
    refine (Tokens_ok s ts hp w h0).mono ?_
    rintro e w' ⟨v, rfl, ht, b⟩
    have hT := ht.toks
    obtain ⟨g, cap, sp, rfl, _⟩ := ht
    refine ⟨some ⟨g, 0, none⟩, cap, ?_, ?_, b⟩
    · unfold xsT eT pT; rw [hp]; rfl
    · unfold xsT; rw [hp]; exact hT
theorem RTokens_u (s : ByteArray) (w : World) : Calls Tryd.prog 9 #[.string s] w (UPost s.data.toList w) := by
  refine (RTokens_any s w).mono ?_
  rintro e w' (⟨x, hp, rfl, b⟩ | ⟨ts, ao, cv, hp, rfl, hT, b⟩)
  · refine ⟨none, 0, ?_, ?_, b⟩
    · unfold xsT eT pT; rw [hp]; rfl
    · unfold xsT; rw [hp]; exact toks_none _
  · refine ⟨ao, cv, ?_, ?_, b⟩
    · unfold xsT eT pT; rw [hp]; rfl
    · unfold xsT; rw [hp]; exact hT
theorem xs_len (l : List UInt8) : (xsT l).length ≤ 66 := by
  unfold xsT
  cases h : toksL l with
  | error x => simp
  | ok ts => exact (toks_short h).1

set_option maxRecDepth 100000 in
set_option maxHeartbeats 4000000 in
theorem Reads_walk (s : ByteArray) (w : World) (hk : Kn w) :
    Calls Tryd.prog 3 #[.string s] w fun e w' => e = .returned (.bool true) ∧ Below w.heap.size w w' := by
  have K0 := hide hk
  have C1 := hide (fun w h => Tokens_u s w h)
  have C2 := hide (fun w => RTokens_u s w)
  have C3 := hide (fun w h => Canon_any s w h)
  have C4 := hide (fun w => RCanon_any s w)
  have C5 := hide (fun w h => Snapshot_any s w h)
  have C6 := hide (fun w => RSnapshot_any s w)
  have C7 := hide (fun w h => Rank_any s w h)
  have C8 := hide (fun w => RRank_any s w)
  unfold UPost at C1 C2
  have hxl := xs_len s.data.toList
  have hcn : ((ofL (canonL s.data.toList)).toList == (ofL (canonL s.data.toList)).toList) = true := by simp
  generalize xsT s.data.toList = xs at *
  generalize eT s.data.toList = ee at *
  generalize (pT s.data.toList : Int) = pp at *
  generalize ofL (canonL s.data.toList) = cn at *
  generalize snapL s.data.toList = sn at *
  generalize rankL s.data.toList = rk at *
  have hee : (ee == ee) = true := by simp
  have hpp : (pp == pp) = true := by simp
  have hsn : (sn == sn) = true := by simp
  have hrk : (rk == rk) = true := by simp
  clear hk
  go_enter Tryd.func3, Tryd.ntmps3
  go_wp2_with fail
  refine (C1.out _ K0.out.pos).mono ?_
  rintro e w1 ⟨a1, c1, rfl, T1, b1⟩
  have BA := hide (b1.alloc b1.size (.cells #[.int .i64 ee, .int .i64 pp] 25))
  have KA := hide (K0.out.below K0.out.pos BA.out)
  have TA := hide (T1.below ((Below.refl _ w1).alloc (Nat.le_refl _) (.cells #[.int .i64 ee, .int .i64 pp] 25)))
  have EA := hide (World.alloc_heap_new w1 (.cells #[.int .i64 ee, .int .i64 pp] 25))
  clear T1
  go_wp2_with fail
  refine (C2.out _).mono ?_
  rintro e w2 ⟨a2, c2, rfl, T2, b2⟩
  have eA2 := (b2.block w1.heap.size (by simp)).trans EA.out
  have hl2 : w1.heap.size < w2.heap.size := (Array.getElem?_eq_some_iff.1 eA2).1
  have BB := hide ((BA.out.trans (b2.mono BA.out.size)).alloc (Nat.le_trans BA.out.size b2.size) (.cells #[.int .i64 ee, .int .i64 pp] 25))
  have KB := hide (K0.out.below K0.out.pos BB.out)
  have bN : Below w2.heap.size w2 (w2.alloc (.cells #[.int .i64 ee, .int .i64 pp] 25)) := (Below.refl _ w2).alloc (Nat.le_refl _) _
  have SM := hide (RSame_true _ _ xs _ ((TA.out.below b2).below bN) (T2.below bN) (by omega))
  have EB1 := hide ((bN.block w1.heap.size hl2).trans eA2)
  have EB2 := hide (World.alloc_heap_new w2 (.cells #[.int .i64 ee, .int .i64 pp] 25))
  clear T2 eA2 bN
  go_wp2_with fail
  refine SM.out.mono ?_
  rintro e w3 ⟨rfl, b3⟩
  have e31 := (b3.block w1.heap.size (by simp; omega)).trans EB1.out
  have e32 := (b3.block w2.heap.size (by simp)).trans EB2.out
  have q0 := cell_at 0 e31 rfl
  have q1 := cell_at 1 e31 rfl
  have q2 := cell_at 0 e32 rfl
  have q3 := cell_at 1 e32 rfl
  have K3 := hide (KB.out.below KB.out.pos b3)
  have B3 := hide (BB.out.trans (b3.mono BB.out.size))
  go_wp2_with fail
  refine (C3.out _ K3.out).mono ?_
  rintro e w4 ⟨rfl, b4⟩
  have K4 := hide (K3.out.below K3.out.pos b4)
  have B4 := hide (B3.out.trans (b4.mono B3.out.size))
  go_wp2_with fail
  refine (C4.out _).mono ?_
  rintro e w5 ⟨rfl, b5⟩
  have K5 := hide (K4.out.below K4.out.pos b5)
  have B5 := hide (B4.out.trans (b5.mono B4.out.size))
  go_wp2_with fail
  refine (C5.out _ K5.out).mono ?_
  rintro e w6 ⟨rfl, b6⟩
  have K6 := hide (K5.out.below K5.out.pos b6)
  have B6 := hide (B5.out.trans (b6.mono B5.out.size))
  go_wp2_with fail
  refine (C6.out _).mono ?_
  rintro e w7 ⟨rfl, b7⟩
  have K7 := hide (K6.out.below K6.out.pos b7)
  have B7 := hide (B6.out.trans (b7.mono B6.out.size))
  go_wp2_with fail
  refine (C7.out _ K7.out).mono ?_
  rintro e w' ⟨rfl, hw'⟩
  rw [hw']; clear hw' w'
  go_wp2_with fail
  refine (C8.out _).mono ?_
  rintro e w8 ⟨rfl, b8⟩
  have K8 := hide (K7.out.below K7.out.pos b8)
  have B8 := hide (B7.out.trans (b8.mono B7.out.size))
  go_wp2_with fail
  refine (awake_any _ K8.out).mono ?_
  rintro e w9 ⟨rfl, b9⟩
  go_wp2_with fail
  go_ret
  exact ⟨rfl, B8.out.trans (b9.mono B8.out.size)⟩

end Go.Proofs.YtobcoppbphfcaaaDoor
