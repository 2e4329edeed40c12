/-
  Walks: what ends a set, a byte that stands at a place, the bars, a number. · Walks: a number of a partial. · The worlds of a partial's numbers. · Walks: the numbers of a partial.
-/
import Derived.Test.YtpdlgiioahjhiaaGreatQFa
import Derived.Test.YtpdlgiioahjhiaaGreatQWf
import Derived.Test.YtpdlgiioahjhiaaGreatQSb
import Derived.WalkMore
namespace Go.Proofs.YtpdlgiioahjhiaaGreat
open Go.RowKit
set_option linter.unusedVariables false

def endsL (l : List UInt8) (a : Nat) : Bool := decide (a = l.length) || decide (l[a]? = some 124)
def oneB (c : UInt8) : ByteArray := ⟨#[c]⟩
def staB (l : List UInt8) (a : Nat) (c : UInt8) : ByteArray := if l[a]? = some c then oneB c else ⟨#[]⟩

theorem setEnds_any (s : ByteArray) (a : Nat) (w : World) (ha : a ≤ s.size) :
    Calls Tryz.prog 88 #[.string s, .int .i64 (a : Int)] w fun e w' => e = .returned (.bool (endsL s.data.toList a)) ∧ w' = w := by
  have hE : endsL s.data.toList a = (decide (a = s.size) || decide (s.data.toList[a]? = some 124)) := by unfold endsL; rw [len_data]
  generalize endsL s.data.toList a = R at *
  by_cases h : a = s.size
  · have hb : ((a : Int) == (s.size : Int)) = true := by simp; omega
    have HR : Hid (R = true) := by rw [hE, decide_eq_true h]; rfl
    clear h hE ha
    go_enter Tryz.func88, Tryz.ntmps88
    go_wp2_with fail
    go_ret
    exact ⟨by rw [HR.out]; rfl, rfl⟩
  · have hlt : a < s.size := by omega
    have hb : ((a : Int) == (s.size : Int)) = false := by simp; omega
    rw [decide_eq_false h, at_some s a hlt] at hE
    clear h ha
    by_cases hc : s[a] = 124
    · have c1 : ((s[a].toNat : Int) == 124) = true := by rw [hc]; rfl
      have HR : Hid (R = true) := by rw [hE, hc]; rfl
      clear hE hc
      go_enter Tryz.func88, Tryz.ntmps88
      go_wp2_with fail
      go_ret
      exact ⟨by rw [HR.out]; rfl, rfl⟩
    · have c1 : ((s[a].toNat : Int) == 124) = false := ne_byte (k := 124) (by omega) hc
      have HR : Hid (R = false) := hide (by rw [hE]; simp [hc])
      clear hE hc
      go_enter Tryz.func88, Tryz.ntmps88
      go_wp2_with fail
      go_ret
      exact ⟨by rw [HR.out]; rfl, rfl⟩

theorem has_one (l : List UInt8) (a : Nat) (c : UInt8) : (wordL (l.drop a) [oneB c]).1 = staB l a c := by
  unfold wordL staB
  show (wstep (l.drop a) (ByteArray.empty, false) (oneB c)).1 = _
  unfold wstep
  have : hasP (l.drop a) (oneB c).data.toList = decide (l[a]? = some c) := by
    show hasP (l.drop a) [c] = _
    cases h : l.drop a with
    | nil =>
      have h2 : l[a]? = none := by rw [List.getElem?_eq_none_iff]; simpa using h
      rw [h2]; simp [hasP]
    | cons d r =>
      have h2 : l[a]? = some d := by
        have := congrArg (fun z => z[0]?) h
        simpa using this
      rw [h2]; simp only [hasP, Option.some.injEq]; by_cases hdc : d = c <;> simp [hdc]
  rw [this]
  by_cases h : l[a]? = some c
  · rw [if_pos h, if_pos ⟨by simpa using h, .inl rfl⟩]
  · rw [if_neg h, if_neg (fun x => h (by simpa using x.1))]
    rfl

theorem has_oneI (s : ByteArray) (a : Nat) (c : UInt8) : (wordI s.data.toList (a : Int) [oneB c]).1 = staB s.data.toList a c := by
  unfold wordI
  by_cases h : a ≤ s.data.toList.length
  · rw [if_pos ⟨by omega, by omega⟩]
    show (wordL (s.data.toList.drop a) _).1 = _
    exact has_one _ a c
  · rw [if_neg (by omega)]
    unfold staB
    rw [List.getElem?_eq_none (by omega), if_neg (by simp)]
    rfl

theorem prefix_any (s : ByteArray) (a : Nat) (c : UInt8) (w : World) (hs : s.size ≤ 256) :
    Calls Tryz.prog 56 #[.string s, .int .i64 (a : Int), .string (oneB c)] w fun e w' => e = .returned (.string (staB s.data.toList a c)) ∧ Below w.heap.size w w' := by
  rw [← has_oneI]
  have C := hide (fun W (hv : Words W (some ⟨w.heap.size, 0, none⟩) [oneB c]) => Word_any s (a : Int) (some ⟨w.heap.size, 0, none⟩) [oneB c] 1 W (by unfold maxLen; omega) (by unfold maxLen; simp) hv)
  generalize wordI s.data.toList (a : Int) [oneB c] = R at *
  clear hs
  generalize oneB c = x at *
  go_enter Tryz.func56, Tryz.ntmps56
  go_wp2_with fail
  refine (C.out _ (.inr ⟨_, 0, rfl, fun i hi => ?_⟩)).mono ?_
  · have : i = 0 := by simpa using hi
    subst this
    exact cell_at 0 (World.alloc_heap_new w _) rfl
  rintro e w' ⟨rfl, rfl⟩
  go_wp2_with fail
  go_ret
  exact ⟨rfl, (Below.refl _ w).alloc (Nat.le_refl _) _⟩

def barsL (l : List UInt8) (a n : Nat) : Nat × Int := if l[a + 1]? = some 124 then (if n = 32 then (a + 1, 12) else (a + 2, 0)) else (a + 1, misL l.length (a + 1))

theorem pre_eq {l : List UInt8} {a : Nat} {c : UInt8} (h : l[a]? = some c) : staB l a c = oneB c := if_pos h
theorem pre_ne {l : List UInt8} {a : Nat} {c : UInt8} (h : ¬ l[a]? = some c) : staB l a c = ⟨#[]⟩ := if_neg h

theorem readBars_any (s : ByteArray) (a n : Nat) (w : World) (hs : s.size ≤ 256) (ha : a < s.size) (hn : n ≤ 256) :
    Calls Tryz.prog 29 #[.string s, .int .i64 (a : Int), .int .i64 (n : Int)] w fun e w' => e = .returned (.tuple #[.int .i64 ((barsL s.data.toList a n).1 : Int), .int .i64 (barsL s.data.toList a n).2]) ∧ Below w.heap.size w w' := by
  have C := hide (fun W => prefix_any s (a + 1) 124 W hs)
  have M := hide (fun W => misfit_any s (a + 1) W)
  have hB : barsL s.data.toList a n = if s.data.toList[a + 1]? = some 124 then (if n = 32 then (a + 1, 12) else (a + 2, 0)) else (a + 1, misL s.size (a + 1)) := by unfold barsL; rw [len_data]
  generalize barsL s.data.toList a n = R at *
  by_cases h : s.data.toList[a + 1]? = some 124
  · rw [if_pos h] at hB
    rw [pre_eq h] at C
    have hb := eqE (oneB 124) (by decide)
    clear h
    by_cases h32 : n = 32
    · rw [if_pos h32] at hB
      subst h32 hB
      go_enter Tryz.func29, Tryz.ntmps29
      go_wp2_with fail
      refine (C.out _).mono ?_
      rintro e w' ⟨rfl, hq⟩
      go_wp2_with fail
      go_ret2
      exact ⟨rfl, hq⟩
    · rw [if_neg h32] at hB
      have hz : ((n : Int) == 32) = false := by simp; omega
      subst hB
      clear h32
      go_enter Tryz.func29, Tryz.ntmps29
      go_wp2_with fail
      refine (C.out _).mono ?_
      rintro e w' ⟨rfl, hq⟩
      go_wp2_with fail
      go_ret2
      exact ⟨rfl, hq⟩
  · rw [if_neg h] at hB
    rw [pre_ne h] at C
    clear h
    subst hB
    go_enter Tryz.func29, Tryz.ntmps29
    go_wp2_with fail
    refine (C.out _).mono ?_
    rintro e w' ⟨rfl, hq⟩
    go_wp2_with fail
    refine (M.out _).mono ?_
    rintro e w2 ⟨rfl, rfl⟩
    go_wp2_with fail
    go_ret2
    exact ⟨rfl, hq⟩

end Go.Proofs.YtpdlgiioahjhiaaGreat

namespace Go.Proofs.YtpdlgiioahjhiaaGreat
open Go.RowKit
set_option linter.unusedVariables false

def openB (c : UInt8) : Bool := c == 120 || c == 88 || c == 42
def npL (l : List UInt8) (a : Nat) : Nat × Bool × Int :=
  if (l[a]?.map openB).getD false then (a + 1, true, 0)
  else if runL 1 (l.drop a) = 0 then (a, false, misL l.length a)
  else if l[a]? = some 48 ∧ 1 < runL 1 (l.drop a) then (a + 1, false, 14)
  else (a + runL 1 (l.drop a), false, 0)
def npV (x : Nat × Bool × Int) : Value := .tuple #[.int .i64 (x.1 : Int), .bool x.2.1, .int .i64 x.2.2]

set_option maxHeartbeats 1000000 in
theorem readNumber_any (s : ByteArray) (a : Nat) (w : World) (hs : s.size ≤ 256) (ha : a ≤ s.size) :
    Calls Tryz.prog 146 #[.string s, .int .i64 (a : Int)] w fun e w' => e = .returned (npV (npL s.data.toList a)) ∧ w' = w := by
  have hN : npL s.data.toList a = if (s.data.toList[a]?.map openB).getD false then (a + 1, true, 0)
      else if runL 1 (s.data.toList.drop a) = 0 then (a, false, misL s.size a)
      else if s.data.toList[a]? = some 48 ∧ 1 < runL 1 (s.data.toList.drop a) then (a + 1, false, 14)
      else (a + runL 1 (s.data.toList.drop a), false, 0) := by unfold npL; rw [len_data]
  have hR : RunC s a (a + runL 1 (s.data.toList.drop a)) := by
    rintro z w rfl
    have := Run_any s (a : Int) 1 w (by unfold maxLen; omega)
    rw [runI_in s a 1 ha] at this
    simpa using this
  have hle := runL_drop_le 1 s a ha
  have M := hide (fun W => misfit_any s a W)
  generalize npL s.data.toList a = R at *
  generalize hk : runL 1 (s.data.toList.drop a) = k at *
  by_cases hlt : a < s.size
  · rw [at_some s a hlt] at hN
    by_cases h1 : s[a] = 120
    · have c1 : ((s[a].toNat : Int) == 120) = true := by rw [h1]; rfl
      rw [h1, if_pos (by rfl)] at hN
      subst hN
      clear h1 hR hk
      go_enter Tryz.func146, Tryz.ntmps146
      go_wp2_with fail
      go_ret3
      exact ⟨rfl, rfl⟩
    have c1 : ((s[a].toNat : Int) == 120) = false := ne_byte (k := 120) (by omega) h1
    by_cases h2 : s[a] = 88
    · have c2 : ((s[a].toNat : Int) == 88) = true := by rw [h2]; rfl
      rw [h2, if_pos (by rfl)] at hN
      subst hN
      clear h1 h2 hR hk
      go_enter Tryz.func146, Tryz.ntmps146
      go_wp2_with fail
      go_ret3
      exact ⟨rfl, rfl⟩
    have c2 : ((s[a].toNat : Int) == 88) = false := ne_byte (k := 88) (by omega) h2
    by_cases h3 : s[a] = 42
    · have c3 : ((s[a].toNat : Int) == 42) = true := by rw [h3]; rfl
      rw [h3, if_pos (by rfl)] at hN
      subst hN
      clear h1 h2 h3 hR hk
      go_enter Tryz.func146, Tryz.ntmps146
      go_wp2_with fail
      go_ret3
      exact ⟨rfl, rfl⟩
    have c3 : ((s[a].toNat : Int) == 42) = false := ne_byte (k := 42) (by omega) h3
    rw [if_neg (by simp [openB, h1, h2, h3])] at hN
    clear h1 h2 h3
    by_cases h0 : k = 0
    · rw [if_pos h0] at hN
      rw [h0] at hR
      subst hN
      have R0 := hide hR
      clear hR hk h0 hle
      go_enter Tryz.func146, Tryz.ntmps146
      go_wp2_with fail
      refine (R0.out _ _ rfl).mono ?_
      rintro e' w' ⟨rfl, hw'⟩
      rw [hw']
      clear hw' w'
      go_wp2_with fail
      refine (M.out _).mono ?_
      rintro e' w' ⟨rfl, rfl⟩
      go_wp2_with fail
      go_ret3
      exact ⟨rfl, rfl⟩
    rw [if_neg h0] at hN
    obtain ⟨e, he⟩ : ∃ e, e = a + k := ⟨_, rfl⟩
    rw [← he] at hR hN
    have b1 : ((e : Int) == (a : Int)) = false := by simp; omega
    have R0 := hide hR
    by_cases h4 : s[a] = 48
    · have c4 : ((s[a].toNat : Int) == 48) = true := by rw [h4]; rfl
      by_cases h5 : 1 < k
      · rw [if_pos ⟨by rw [h4], h5⟩] at hN
        have b2 : decide ((a : Int) + 1 < (e : Int)) = true := by simp; omega
        subst hN
        clear hR hk h0 h4 h5 he hle
        go_enter Tryz.func146, Tryz.ntmps146
        go_wp2_with fail
        refine (R0.out _ _ rfl).mono ?_
        rintro e' w' ⟨rfl, hw'⟩
        rw [hw']
        clear hw' w'
        go_wp2_with fail
        go_ret3
        exact ⟨rfl, rfl⟩
      · rw [if_neg (fun h => h5 h.2)] at hN
        have b2 : decide ((a : Int) + 1 < (e : Int)) = false := by simp; omega
        subst hN
        clear hR hk h0 h4 h5 he hle
        go_enter Tryz.func146, Tryz.ntmps146
        go_wp2_with fail
        refine (R0.out _ _ rfl).mono ?_
        rintro e' w' ⟨rfl, hw'⟩
        rw [hw']
        clear hw' w'
        go_wp2_with fail
        go_ret3
        exact ⟨rfl, rfl⟩
    · have c4 : ((s[a].toNat : Int) == 48) = false := ne_byte (k := 48) (by omega) h4
      rw [if_neg (fun h => h4 (by simpa using h.1))] at hN
      subst hN
      clear hR hk h0 h4 he hle
      go_enter Tryz.func146, Tryz.ntmps146
      go_wp2_with fail
      refine (R0.out _ _ rfl).mono ?_
      rintro e' w' ⟨rfl, hw'⟩
      rw [hw']
      clear hw' w'
      go_wp2_with fail
      go_ret3
      exact ⟨rfl, rfl⟩
  · have hka : k = 0 := by omega
    rw [at_none s a hlt, if_neg (by simp), if_pos hka] at hN
    rw [hka] at hR
    have bL : decide ((a : Int) < (s.size : Int)) = false := by simp; omega
    subst hN
    have R0 := hide hR
    clear hR hk hka hle
    go_enter Tryz.func146, Tryz.ntmps146
    go_wp2_with fail
    refine (R0.out _ _ rfl).mono ?_
    rintro e' w' ⟨rfl, hw'⟩
    rw [hw']
    clear hw' w'
    go_wp2_with fail
    refine (M.out _).mono ?_
    rintro e' w' ⟨rfl, rfl⟩
    go_wp2_with fail
    go_ret3
    exact ⟨rfl, rfl⟩

end Go.Proofs.YtpdlgiioahjhiaaGreat

namespace Go.Proofs.YtpdlgiioahjhiaaGreat
open Go.RowKit
set_option linter.unusedVariables false

structure NB (w W : World) (x y z : ByteArray) (t : Nat) : Prop where
  res : W.heap[w.heap.size]? = some (.cells #[.string ⟨#[]⟩, .string ⟨#[]⟩, .string ⟨#[]⟩, .slice none 0 0, .slice none 0 0, .int .i64 0] 54 (0, 0))
  par : W.heap[w.heap.size + 1]? = some (.cells #[.string x, .string y, .string z, .slice none 0 0, .slice none 0 0, .int .i64 (t : Int)] 54 (0, 0))
  ptr : W.heap[w.heap.size + 2]? = some (.cells #[.pointer (some ⟨w.heap.size + 1, 0, none⟩), .pointer (some ⟨w.heap.size + 1, 1, none⟩), .pointer (some ⟨w.heap.size + 1, 2, none⟩)] 132 (0, 0))
  bel : Below w.heap.size w W

theorem NB.lt {w W : World} {x y z : ByteArray} {t : Nat} (h : NB w W x y z t) : w.heap.size + 2 < W.heap.size := (Array.getElem?_eq_some_iff.1 h.ptr).1
theorem NB.below {w W W' : World} {x y z : ByteArray} {t : Nat} (h : NB w W x y z t) (hb : Below W.heap.size W W') : NB w W' x y z t :=
  ⟨(hb.block _ (by have := h.lt; omega)).trans h.res, (hb.block _ (by have := h.lt; omega)).trans h.par, (hb.block _ h.lt).trans h.ptr, h.bel.trans (hb.mono (by have := h.lt; omega))⟩
theorem NB.start (w : World) : NB w (((w.alloc (.cells #[.string ⟨#[]⟩, .string ⟨#[]⟩, .string ⟨#[]⟩, .slice none 0 0, .slice none 0 0, .int .i64 0] 54)).alloc (.cells #[.string ⟨#[48]⟩, .string ⟨#[48]⟩, .string ⟨#[48]⟩, .slice none 0 0, .slice none 0 0, .int .i64 0] 54)).alloc
      (.cells #[.pointer (some ⟨w.heap.size + 1, 0, none⟩), .pointer (some ⟨w.heap.size + 1, 1, none⟩), .pointer (some ⟨w.heap.size + 1, 2, none⟩)] 132)) ⟨#[48]⟩ ⟨#[48]⟩ ⟨#[48]⟩ 0 := by
  have h1 := World.alloc_heap_new w (.cells #[.string ⟨#[]⟩, .string ⟨#[]⟩, .string ⟨#[]⟩, .slice none 0 0, .slice none 0 0, .int .i64 0] 54)
  generalize hA : w.alloc (.cells #[.string ⟨#[]⟩, .string ⟨#[]⟩, .string ⟨#[]⟩, .slice none 0 0, .slice none 0 0, .int .i64 0] 54) = A at *
  have sA : A.heap.size = w.heap.size + 1 := by rw [← hA]; simp
  have bA : Below w.heap.size w A := by rw [← hA]; exact (Below.refl _ w).alloc (Nat.le_refl _) _
  have h2 := World.alloc_heap_new A (.cells #[.string ⟨#[48]⟩, .string ⟨#[48]⟩, .string ⟨#[48]⟩, .slice none 0 0, .slice none 0 0, .int .i64 0] 54)
  rw [sA] at h2
  have l1 : Lies A [(w.heap.size, _)] := Lies.cons h1 (Lies.nil A)
  have l2 := l1.alloc (.cells #[.string ⟨#[48]⟩, .string ⟨#[48]⟩, .string ⟨#[48]⟩, .slice none 0 0, .slice none 0 0, .int .i64 0] 54)
  have bB : Below w.heap.size w (A.alloc (.cells #[.string ⟨#[48]⟩, .string ⟨#[48]⟩, .string ⟨#[48]⟩, .slice none 0 0, .slice none 0 0, .int .i64 0] 54)) := bA.alloc (by omega) _
  have sB : (A.alloc (.cells #[.string ⟨#[48]⟩, .string ⟨#[48]⟩, .string ⟨#[48]⟩, .slice none 0 0, .slice none 0 0, .int .i64 0] 54)).heap.size = w.heap.size + 2 := by simp [sA]
  generalize A.alloc (.cells #[.string ⟨#[48]⟩, .string ⟨#[48]⟩, .string ⟨#[48]⟩, .slice none 0 0, .slice none 0 0, .int .i64 0] 54) = C at *
  have h3 := World.alloc_heap_new C (.cells #[.pointer (some ⟨w.heap.size + 1, 0, none⟩), .pointer (some ⟨w.heap.size + 1, 1, none⟩), .pointer (some ⟨w.heap.size + 1, 2, none⟩)] 132)
  rw [sB] at h3
  have l3 := (Lies.cons h2 l2).alloc (.cells #[.pointer (some ⟨w.heap.size + 1, 0, none⟩), .pointer (some ⟨w.heap.size + 1, 1, none⟩), .pointer (some ⟨w.heap.size + 1, 2, none⟩)] 132)
  exact ⟨l3.tail.head, l3.head, h3, bB.alloc (by omega) _⟩
theorem NB.seen {w W : World} {x y z : ByteArray} {t : Nat} (h : NB w W x y z t) :
    W.cell? ⟨w.heap.size + 2, 0, none⟩ = some (.pointer (some ⟨w.heap.size + 1, 0, none⟩)) ∧ W.cell? ⟨w.heap.size + 2, 1, none⟩ = some (.pointer (some ⟨w.heap.size + 1, 1, none⟩)) ∧ W.cell? ⟨w.heap.size + 2, 2, none⟩ = some (.pointer (some ⟨w.heap.size + 1, 2, none⟩)) ∧
    W.cell? ⟨w.heap.size + 1, 5, none⟩ = some (.int .i64 (t : Int)) ∧ W.frozen? ⟨w.heap.size + 1, 0, none⟩ = false ∧ W.frozen? ⟨w.heap.size + 1, 1, none⟩ = false ∧ W.frozen? ⟨w.heap.size + 1, 2, none⟩ = false ∧ W.frozen? ⟨w.heap.size + 1, 5, none⟩ = false :=
  ⟨cell_at 0 h.ptr rfl, cell_at 1 h.ptr rfl, cell_at 2 h.ptr rfl, cell_at 5 h.par rfl, one_free 0 h.par, one_free 1 h.par, one_free 2 h.par, one_free 5 h.par⟩
theorem NB.put0 {w W : World} {x y z u : ByteArray} {t : Nat} (n : Nat) (h : NB w W x y z t) : NB w ((W.setCell ⟨w.heap.size + 1, 0, none⟩ (.string u)).setCell ⟨w.heap.size + 1, 5, none⟩ (.int .i64 (n : Int))) u y z n := by
  have h1 := set_lies 0 (.string u) h.par
  have h2 := set_lies 5 (.int .i64 (n : Int)) h1
  have l : Lies W [(w.heap.size, _), (w.heap.size + 2, _)] := Lies.cons h.res (Lies.cons h.ptr (Lies.nil W))
  have l1 := (l.other (w.heap.size + 1) 0 (.string u) (by intro p hp; simp at hp; rcases hp with rfl | rfl <;> simp)).other (w.heap.size + 1) 5 (.int .i64 (n : Int)) (by intro p hp; simp at hp; rcases hp with rfl | rfl <;> simp)
  exact ⟨l1.head, h2, l1.tail.head, (h.bel.setCell (by simp) _).setCell (by simp) _⟩
theorem NB.put1 {w W : World} {x y z u : ByteArray} {t : Nat} (n : Nat) (h : NB w W x y z t) : NB w ((W.setCell ⟨w.heap.size + 1, 1, none⟩ (.string u)).setCell ⟨w.heap.size + 1, 5, none⟩ (.int .i64 (n : Int))) x u z n := by
  have h1 := set_lies 1 (.string u) h.par
  have h2 := set_lies 5 (.int .i64 (n : Int)) h1
  have l : Lies W [(w.heap.size, _), (w.heap.size + 2, _)] := Lies.cons h.res (Lies.cons h.ptr (Lies.nil W))
  have l1 := (l.other (w.heap.size + 1) 1 (.string u) (by intro p hp; simp at hp; rcases hp with rfl | rfl <;> simp)).other (w.heap.size + 1) 5 (.int .i64 (n : Int)) (by intro p hp; simp at hp; rcases hp with rfl | rfl <;> simp)
  exact ⟨l1.head, h2, l1.tail.head, (h.bel.setCell (by simp) _).setCell (by simp) _⟩
theorem NB.put2 {w W : World} {x y z u : ByteArray} {t : Nat} (n : Nat) (h : NB w W x y z t) : NB w ((W.setCell ⟨w.heap.size + 1, 2, none⟩ (.string u)).setCell ⟨w.heap.size + 1, 5, none⟩ (.int .i64 (n : Int))) x y u n := by
  have h1 := set_lies 2 (.string u) h.par
  have h2 := set_lies 5 (.int .i64 (n : Int)) h1
  have l : Lies W [(w.heap.size, _), (w.heap.size + 2, _)] := Lies.cons h.res (Lies.cons h.ptr (Lies.nil W))
  have l1 := (l.other (w.heap.size + 1) 2 (.string u) (by intro p hp; simp at hp; rcases hp with rfl | rfl <;> simp)).other (w.heap.size + 1) 5 (.int .i64 (n : Int)) (by intro p hp; simp at hp; rcases hp with rfl | rfl <;> simp)
  exact ⟨l1.head, h2, l1.tail.head, (h.bel.setCell (by simp) _).setCell (by simp) _⟩
theorem NB.seenR {w W : World} {x y z : ByteArray} {t : Nat} (h : NB w W x y z t) :
    W.cell? ⟨w.heap.size, 0, none⟩ = some (.string ⟨#[]⟩) ∧ W.frozen? ⟨w.heap.size, 0, none⟩ = false ∧ W.frozen? ⟨w.heap.size, 1, none⟩ = false ∧ W.frozen? ⟨w.heap.size, 2, none⟩ = false ∧ W.frozen? ⟨w.heap.size, 3, none⟩ = false ∧ W.frozen? ⟨w.heap.size, 4, none⟩ = false ∧ W.frozen? ⟨w.heap.size, 5, none⟩ = false ∧
    W.cell? ⟨w.heap.size, 1, none⟩ = some (.string ⟨#[]⟩) ∧ W.cell? ⟨w.heap.size, 2, none⟩ = some (.string ⟨#[]⟩) ∧ W.cell? ⟨w.heap.size, 3, none⟩ = some (.slice none 0 0) ∧ W.cell? ⟨w.heap.size, 4, none⟩ = some (.slice none 0 0) ∧ W.cell? ⟨w.heap.size, 5, none⟩ = some (.int .i64 0) :=
  ⟨cell_at 0 h.res rfl, one_free 0 h.res, one_free 1 h.res, one_free 2 h.res, one_free 3 h.res, one_free 4 h.res, one_free 5 h.res, cell_at 1 h.res rfl, cell_at 2 h.res rfl, cell_at 3 h.res rfl, cell_at 4 h.res rfl, cell_at 5 h.res rfl⟩
theorem NB.seenP {w W : World} {x y z : ByteArray} {t : Nat} (h : NB w W x y z t) :
    W.cell? ⟨w.heap.size + 1, 0, none⟩ = some (.string x) ∧ W.cell? ⟨w.heap.size + 1, 1, none⟩ = some (.string y) ∧ W.cell? ⟨w.heap.size + 1, 2, none⟩ = some (.string z) ∧ W.cell? ⟨w.heap.size + 1, 3, none⟩ = some (.slice none 0 0) ∧ W.cell? ⟨w.heap.size + 1, 4, none⟩ = some (.slice none 0 0) :=
  ⟨cell_at 0 h.par rfl, cell_at 1 h.par rfl, cell_at 2 h.par rfl, cell_at 3 h.par rfl, cell_at 4 h.par rfl⟩

end Go.Proofs.YtpdlgiioahjhiaaGreat

namespace Go.Proofs.YtpdlgiioahjhiaaGreat
open Go.RowKit
set_option linter.unusedVariables false

def addS (segs : List (Nat × Nat)) (i : Nat) (o : Bool) (a e : Nat) : List (Nat × Nat) := if !o && segs.length == i then segs ++ [(a, e)] else segs
def rnGo (l : List UInt8) : Nat → Nat → Nat → List (Nat × Nat) → Except (Nat × Int) (List (Nat × Nat) × Nat)
  | 0, i, a, segs => if (npL l a).2.2 ≠ 0 then .error ((npL l a).1, (npL l a).2.2) else .ok (addS segs i (npL l a).2.1 a (npL l a).1, (npL l a).1)
  | k + 1, i, a, segs => if (npL l a).2.2 ≠ 0 then .error ((npL l a).1, (npL l a).2.2)
      else if l[(npL l a).1]? = some 46 then rnGo l k (i + 1) ((npL l a).1 + 1) (addS segs i (npL l a).2.1 a (npL l a).1) else .ok (addS segs i (npL l a).2.1 a (npL l a).1, (npL l a).1)
theorem rn_bad {l : List UInt8} {a e : Nat} {o : Bool} {r : Int} (h : npL l a = (e, o, r)) (hr : r ≠ 0) (k i : Nat) (segs : List (Nat × Nat)) : rnGo l k i a segs = .error (e, r) := by
  cases k <;> (unfold rnGo; rw [h, if_pos hr])
theorem rn_last {l : List UInt8} {a e : Nat} {o : Bool} (h : npL l a = (e, o, 0)) (i : Nat) (segs : List (Nat × Nat)) : rnGo l 0 i a segs = .ok (addS segs i o a e, e) := by
  unfold rnGo; rw [h, if_neg (by simp)]
theorem rn_stop {l : List UInt8} {a e : Nat} {o : Bool} (h : npL l a = (e, o, 0)) (hd : ¬ l[e]? = some 46) (k i : Nat) (segs : List (Nat × Nat)) : rnGo l (k + 1) i a segs = .ok (addS segs i o a e, e) := by
  unfold rnGo; rw [h, if_neg (by simp), if_neg hd]
theorem rn_go {l : List UInt8} {a e : Nat} {o : Bool} (h : npL l a = (e, o, 0)) (hd : l[e]? = some 46) (k i : Nat) (segs : List (Nat × Nat)) : rnGo l (k + 1) i a segs = rnGo l k (i + 1) (e + 1) (addS segs i o a e) := by
  rw [rnGo, h, if_neg (by simp), if_pos hd]
theorem np_cases (s : ByteArray) (a : Nat) (ha : a ≤ s.size) : (∃ e o r, npL s.data.toList a = (e, o, r) ∧ r ≠ 0) ∨ (∃ e o, npL s.data.toList a = (e, o, 0) ∧ a < e ∧ e ≤ s.size) := by
  unfold npL
  rw [len_data]
  have hm : misL s.size a ≠ 0 := by unfold misL; split <;> decide
  have hle := runL_drop_le 1 s a ha
  split
  · rename_i h
    have hlt : a < s.size := by
      rcases Nat.lt_or_ge a s.size with h' | h'
      · exact h'
      · rw [at_none s a (by omega)] at h; simp at h
    exact .inr ⟨_, _, rfl, by omega, by omega⟩
  · split
    · exact .inl ⟨_, _, _, rfl, hm⟩
    · split
      · exact .inl ⟨_, _, _, rfl, by decide⟩
      · exact .inr ⟨_, _, rfl, by omega, hle⟩
def segS (s : ByteArray) (segs : List (Nat × Nat)) (i : Nat) : ByteArray := match segs[i]? with | some x => s.extract x.1 x.2 | none => ⟨#[48]⟩
def partV (x y z : ByteArray) (p : Value) (t : Nat) : Value := .agg #[.string x, .string y, .string z, p, .slice none 0 0, .int .i64 (t : Int)]
def partZ : Value := partV ⟨#[]⟩ ⟨#[]⟩ ⟨#[]⟩ (.slice none 0 0) 0
def rnV (s : ByteArray) : Except (Nat × Int) (List (Nat × Nat) × Nat) → Value
  | .error x => .tuple #[partZ, .int .i64 (x.1 : Int), .int .i64 x.2]
  | .ok x => .tuple #[partV (segS s x.1 0) (segS s x.1 1) (segS s x.1 2) (.slice none 0 0) x.1.length, .int .i64 (x.2 : Int), .int .i64 0]

theorem put6 {W : World} {B : Nat} {t : TypeId} {u0 u1 u2 u3 u4 u5 : Value} (v0 v1 v2 v3 v4 v5 : Value) (h : W.heap[B]? = some (.cells #[u0, u1, u2, u3, u4, u5] t (0, 0))) :
    ((((((W.setCell ⟨B, 0, none⟩ v0).setCell ⟨B, 1, none⟩ v1).setCell ⟨B, 2, none⟩ v2).setCell ⟨B, 3, none⟩ v3).setCell ⟨B, 4, none⟩ v4).setCell ⟨B, 5, none⟩ v5).heap[B]? = some (.cells #[v0, v1, v2, v3, v4, v5] t (0, 0)) :=
  set_lies 5 v5 (set_lies 4 v4 (set_lies 3 v3 (set_lies 2 v2 (set_lies 1 v1 (set_lies 0 v0 h)))))
theorem below6 {w W : World} (h : Below w.heap.size w W) (v0 v1 v2 v3 v4 v5 : Value) :
    Below w.heap.size w ((((((W.setCell ⟨w.heap.size, 0, none⟩ v0).setCell ⟨w.heap.size, 1, none⟩ v1).setCell ⟨w.heap.size, 2, none⟩ v2).setCell ⟨w.heap.size, 3, none⟩ v3).setCell ⟨w.heap.size, 4, none⟩ v4).setCell ⟨w.heap.size, 5, none⟩ v5) :=
  (((((h.setCell (Nat.le_refl _) _).setCell (Nat.le_refl _) _).setCell (Nat.le_refl _) _).setCell (Nat.le_refl _) _).setCell (Nat.le_refl _) _).setCell (Nat.le_refl _) _

theorem fin117 {R : Ending → World → Prop} (tmps : Array Value) (W : World) (B : Nat) (x y z : ByteArray) (p : Value) (t e r : Int) (hp : ∃ a n c, p = .slice a n c)
    (h4 : tmps.getD 4 undef = .pointer (some ⟨B, 0, none⟩)) (h5 : tmps.getD 5 undef = .int .i64 e) (h6 : tmps.getD 6 undef = .int .i64 r)
    (e1 : W.heap[B]? = some (.cells #[.string x, .string y, .string z, p, .slice none 0 0, .int .i64 t] 54 (0, 0)))
    (hR : R (.returned (.tuple #[.agg #[.string x, .string y, .string z, p, .slice none 0 0, .int .i64 t], .int .i64 e, .int .i64 r])) W) :
    bodyPost Tryz.prog Tryz.f119 R .ret { tmps := tmps, defers := [] } W := by
  obtain ⟨pa, pn, pc, rfl⟩ := hp
  have r0 := cell_at 0 e1 rfl
  have r1 := cell_at 1 e1 rfl
  have r2 := cell_at 2 e1 rfl
  have r3 := cell_at 3 e1 rfl
  have r4 := cell_at 4 e1 rfl
  have r5 := cell_at 5 e1 rfl
  rw [Array.getD_eq_getD_getElem?] at h4 h5 h6
  refine ⟨rfl, _, ?_, hR⟩
  simp [results, Tryz.results119, go_sem, h4, h5, h6, r0, r1, r2, r3, r4, r5]
  try rfl

set_option maxRecDepth 100000 in
set_option maxHeartbeats 16000000 in
theorem readNumbers_any (s : ByteArray) (a : Nat) (w : World) (hs : s.size ≤ 256) (ha : a ≤ s.size) :
    Calls Tryz.prog 119 #[.string s, .int .i64 (a : Int)] w fun e w' => e = .returned (rnV s (rnGo s.data.toList 2 0 a [])) ∧ Below w.heap.size w w' := by
  have C0 := hide (fun (a : Nat) W => prefix_any s a 46 W hs)
  have NC := hide (fun (a : Nat) (z : Int) W (hz : z = (a : Int)) (ha : a ≤ s.size) => (by rw [hz]; exact readNumber_any s a W hs ha : Calls Tryz.prog 146 #[.string s, .int .i64 z] W fun e w' => e = .returned (npV (npL s.data.toList a)) ∧ w' = W))
  have ND := hide (np_cases s)
  generalize hX : rnGo s.data.toList 2 0 a [] = X at *
  have HX := hide hX
  clear hX
  have B0 := NB.start w
  go_enter Tryz.func119, Tryz.ntmps119
  go_wp2_with fail
  refine wp_loop_rounds 4 ?_
  generalize ((w.alloc _).alloc _).alloc _ = W at *
  have B0 := hide B0
  obtain ⟨q0, q1, q2, q3, q4, q5, q6, q7⟩ := B0.out.seen
  obtain ⟨r1, f1, f2, f3, f4, f5, f6, r2, r3, r4, r5, r6⟩ := B0.out.seenR
  obtain ⟨p1, p2, p3, p4, p5⟩ := B0.out.seenP
  rw [rounds_succ]
  go_wp2_with fail
  refine (NC.out a _ _ rfl ha).mono ?_
  rintro e' w' ⟨rfl, hw'⟩
  rw [hw']
  clear hw' w'
  rcases ND.out a ha with ⟨e0, o0, r, hn, hr⟩ | ⟨e0, o0, hn, he0, hl0⟩
  · rw [hn]
    unfold npV
    have hx := bne_iff_ne.2 hr
    have hn0 := hide hn
    have hr0 := hide hr
    clear hn hr
    go_wp2_with fail
    have hX := HX.out
    rw [rn_bad hn0.out hr0.out] at hX
    subst hX
    exact fin117 _ _ w.heap.size _ _ _ _ _ _ _ ⟨_, _, _, rfl⟩ rfl rfl rfl (put6 _ _ _ _ _ _ B0.out.res) ⟨rfl, below6 B0.out.bel _ _ _ _ _ _⟩
  rw [hn]
  unfold npV
  have hn0 := hide hn
  clear hn
  cases o0
  · have hA0 : (0 : Int) ≤ (a : Int) := by omega
    have hB0 : (a : Int) ≤ (e0 : Int) := by omega
    have hC0 : (e0 : Int) ≤ (s.size : Int) := by omega
    go_wp2_with fail
    have d0 := hide (B0.out.put0 (u := s.extract a e0) 1)
    clear q0 q1 q2 q3 q4 q5 q6 q7 r1 f1 f2 f3 f4 f5 f6 r2 r3 r4 r5 r6 p1 p2 p3 p4 p5
    generalize hW : (World.setCell _ ⟨w.heap.size + 1, 0, none⟩ _).setCell ⟨w.heap.size + 1, 5, none⟩ _ = V0 at *
    clear hW
    obtain ⟨q0, q1, q2, q3, q4, q5, q6, q7⟩ := d0.out.seen
    obtain ⟨r1, f1, f2, f3, f4, f5, f6, r2, r3, r4, r5, r6⟩ := d0.out.seenR
    obtain ⟨p1, p2, p3, p4, p5⟩ := d0.out.seenP
    rw [rounds_succ]
    go_wp2_with fail
    refine (C0.out e0 _).mono ?_
    rintro e' W1 ⟨rfl, hb1⟩
    have c1 := hide (d0.out.below hb1)
    clear hb1
    clear q0 q1 q2 q3 q4 q5 q6 q7 r1 f1 f2 f3 f4 f5 f6 r2 r3 r4 r5 r6 p1 p2 p3 p4 p5
    obtain ⟨q0, q1, q2, q3, q4, q5, q6, q7⟩ := c1.out.seen
    obtain ⟨r1, f1, f2, f3, f4, f5, f6, r2, r3, r4, r5, r6⟩ := c1.out.seenR
    obtain ⟨p1, p2, p3, p4, p5⟩ := c1.out.seenP
    by_cases hd : s.data.toList[e0]? = some 46
    rotate_left
    · rw [pre_ne hd]
      have hd0 := hide hd
      clear hd
      go_wp2_with fail
      have hX := HX.out
      rw [rn_stop hn0.out hd0.out] at hX
      subst hX
      exact fin117 _ _ w.heap.size _ _ _ _ _ _ _ ⟨_, _, _, rfl⟩ rfl rfl rfl (put6 _ _ _ _ _ _ c1.out.res) ⟨rfl, below6 c1.out.bel _ _ _ _ _ _⟩
    rw [pre_eq hd]
    have hq := eqE (oneB 46) (by decide)
    have hp1 : e0 + 1 ≤ s.size := by
      rcases Nat.lt_or_ge e0 s.size with h | h
      · exact h
      · rw [at_none s e0 (by omega)] at hd; cases hd
    have hd0 := hide hd
    clear hd
    go_wp2_with fail
    refine (NC.out (e0 + 1) _ _ (by simp) hp1).mono ?_
    rintro e' w' ⟨rfl, hw'⟩
    rw [hw']
    clear hw' w'
    rcases ND.out (e0 + 1) hp1 with ⟨e1, o1, r, hn, hr⟩ | ⟨e1, o1, hn, he1, hl1⟩
    · rw [hn]
      unfold npV
      have hx := bne_iff_ne.2 hr
      have hn1 := hide hn
      have hr1 := hide hr
      clear hn hr
      go_wp2_with fail
      have hX := HX.out
      rw [rn_go hn0.out hd0.out, rn_bad hn1.out hr1.out] at hX
      subst hX
      exact fin117 _ _ w.heap.size _ _ _ _ _ _ _ ⟨_, _, _, rfl⟩ rfl rfl rfl (put6 _ _ _ _ _ _ c1.out.res) ⟨rfl, below6 c1.out.bel _ _ _ _ _ _⟩
    rw [hn]
    unfold npV
    have hn1 := hide hn
    clear hn
    cases o1
    · have hA1 : (0 : Int) ≤ ((e0 : Int) + 1) := by omega
      have hB1 : ((e0 : Int) + 1) ≤ (e1 : Int) := by omega
      have hC1 : (e1 : Int) ≤ (s.size : Int) := by omega
      go_wp2_with fail
      have d1 := hide (c1.out.put1 (u := s.extract (e0 + 1) e1) 2)
      clear q0 q1 q2 q3 q4 q5 q6 q7 r1 f1 f2 f3 f4 f5 f6 r2 r3 r4 r5 r6 p1 p2 p3 p4 p5
      generalize hW : (World.setCell _ ⟨w.heap.size + 1, 1, none⟩ _).setCell ⟨w.heap.size + 1, 5, none⟩ _ = V1 at *
      clear hW
      obtain ⟨q0, q1, q2, q3, q4, q5, q6, q7⟩ := d1.out.seen
      obtain ⟨r1, f1, f2, f3, f4, f5, f6, r2, r3, r4, r5, r6⟩ := d1.out.seenR
      obtain ⟨p1, p2, p3, p4, p5⟩ := d1.out.seenP
      rw [rounds_succ]
      go_wp2_with fail
      refine (C0.out e1 _).mono ?_
      rintro e' W2 ⟨rfl, hb2⟩
      have c2 := hide (d1.out.below hb2)
      clear hb2
      clear q0 q1 q2 q3 q4 q5 q6 q7 r1 f1 f2 f3 f4 f5 f6 r2 r3 r4 r5 r6 p1 p2 p3 p4 p5
      obtain ⟨q0, q1, q2, q3, q4, q5, q6, q7⟩ := c2.out.seen
      obtain ⟨r1, f1, f2, f3, f4, f5, f6, r2, r3, r4, r5, r6⟩ := c2.out.seenR
      obtain ⟨p1, p2, p3, p4, p5⟩ := c2.out.seenP
      by_cases hd : s.data.toList[e1]? = some 46
      rotate_left
      · rw [pre_ne hd]
        have hd1 := hide hd
        clear hd
        go_wp2_with fail
        have hX := HX.out
        rw [rn_go hn0.out hd0.out, rn_stop hn1.out hd1.out] at hX
        subst hX
        exact fin117 _ _ w.heap.size _ _ _ _ _ _ _ ⟨_, _, _, rfl⟩ rfl rfl rfl (put6 _ _ _ _ _ _ c2.out.res) ⟨rfl, below6 c2.out.bel _ _ _ _ _ _⟩
      rw [pre_eq hd]
      have hq := eqE (oneB 46) (by decide)
      have hp2 : e1 + 1 ≤ s.size := by
        rcases Nat.lt_or_ge e1 s.size with h | h
        · exact h
        · rw [at_none s e1 (by omega)] at hd; cases hd
      have hd1 := hide hd
      clear hd
      go_wp2_with fail
      refine (NC.out (e1 + 1) _ _ (by simp) hp2).mono ?_
      rintro e' w' ⟨rfl, hw'⟩
      rw [hw']
      clear hw' w'
      rcases ND.out (e1 + 1) hp2 with ⟨e2, o2, r, hn, hr⟩ | ⟨e2, o2, hn, he2, hl2⟩
      · rw [hn]
        unfold npV
        have hx := bne_iff_ne.2 hr
        have hn2 := hide hn
        have hr2 := hide hr
        clear hn hr
        go_wp2_with fail
        have hX := HX.out
        rw [rn_go hn0.out hd0.out, rn_go hn1.out hd1.out, rn_bad hn2.out hr2.out] at hX
        subst hX
        exact fin117 _ _ w.heap.size _ _ _ _ _ _ _ ⟨_, _, _, rfl⟩ rfl rfl rfl (put6 _ _ _ _ _ _ c2.out.res) ⟨rfl, below6 c2.out.bel _ _ _ _ _ _⟩
      rw [hn]
      unfold npV
      have hn2 := hide hn
      clear hn
      cases o2
      · have hA2 : (0 : Int) ≤ ((e1 : Int) + 1) := by omega
        have hB2 : ((e1 : Int) + 1) ≤ (e2 : Int) := by omega
        have hC2 : (e2 : Int) ≤ (s.size : Int) := by omega
        go_wp2_with fail
        have d2 := hide (c2.out.put2 (u := s.extract (e1 + 1) e2) 3)
        clear q0 q1 q2 q3 q4 q5 q6 q7 r1 f1 f2 f3 f4 f5 f6 r2 r3 r4 r5 r6 p1 p2 p3 p4 p5
        generalize hW : (World.setCell _ ⟨w.heap.size + 1, 2, none⟩ _).setCell ⟨w.heap.size + 1, 5, none⟩ _ = V2 at *
        clear hW
        obtain ⟨q0, q1, q2, q3, q4, q5, q6, q7⟩ := d2.out.seen
        obtain ⟨r1, f1, f2, f3, f4, f5, f6, r2, r3, r4, r5, r6⟩ := d2.out.seenR
        obtain ⟨p1, p2, p3, p4, p5⟩ := d2.out.seenP
        rw [rounds_succ]
        go_wp2_with fail
        have hX := HX.out
        rw [rn_go hn0.out hd0.out, rn_go hn1.out hd1.out, rn_last hn2.out] at hX
        subst hX
        exact fin117 _ _ w.heap.size _ _ _ _ _ _ _ ⟨_, _, _, rfl⟩ rfl rfl rfl (put6 _ _ _ _ _ _ d2.out.res) ⟨rfl, below6 d2.out.bel _ _ _ _ _ _⟩
      · go_wp2_with fail
        rw [rounds_succ]
        go_wp2_with fail
        have hX := HX.out
        rw [rn_go hn0.out hd0.out, rn_go hn1.out hd1.out, rn_last hn2.out] at hX
        subst hX
        exact fin117 _ _ w.heap.size _ _ _ _ _ _ _ ⟨_, _, _, rfl⟩ rfl rfl rfl (put6 _ _ _ _ _ _ c2.out.res) ⟨rfl, below6 c2.out.bel _ _ _ _ _ _⟩
    · go_wp2_with fail
      rw [rounds_succ]
      go_wp2_with fail
      refine (C0.out e1 _).mono ?_
      rintro e' W2 ⟨rfl, hb2⟩
      have c2 := hide (c1.out.below hb2)
      clear hb2
      clear q0 q1 q2 q3 q4 q5 q6 q7 r1 f1 f2 f3 f4 f5 f6 r2 r3 r4 r5 r6 p1 p2 p3 p4 p5
      obtain ⟨q0, q1, q2, q3, q4, q5, q6, q7⟩ := c2.out.seen
      obtain ⟨r1, f1, f2, f3, f4, f5, f6, r2, r3, r4, r5, r6⟩ := c2.out.seenR
      obtain ⟨p1, p2, p3, p4, p5⟩ := c2.out.seenP
      by_cases hd : s.data.toList[e1]? = some 46
      rotate_left
      · rw [pre_ne hd]
        have hd1 := hide hd
        clear hd
        go_wp2_with fail
        have hX := HX.out
        rw [rn_go hn0.out hd0.out, rn_stop hn1.out hd1.out] at hX
        subst hX
        exact fin117 _ _ w.heap.size _ _ _ _ _ _ _ ⟨_, _, _, rfl⟩ rfl rfl rfl (put6 _ _ _ _ _ _ c2.out.res) ⟨rfl, below6 c2.out.bel _ _ _ _ _ _⟩
      rw [pre_eq hd]
      have hq := eqE (oneB 46) (by decide)
      have hp2 : e1 + 1 ≤ s.size := by
        rcases Nat.lt_or_ge e1 s.size with h | h
        · exact h
        · rw [at_none s e1 (by omega)] at hd; cases hd
      have hd1 := hide hd
      clear hd
      go_wp2_with fail
      refine (NC.out (e1 + 1) _ _ (by simp) hp2).mono ?_
      rintro e' w' ⟨rfl, hw'⟩
      rw [hw']
      clear hw' w'
      rcases ND.out (e1 + 1) hp2 with ⟨e2, o2, r, hn, hr⟩ | ⟨e2, o2, hn, he2, hl2⟩
      · rw [hn]
        unfold npV
        have hx := bne_iff_ne.2 hr
        have hn2 := hide hn
        have hr2 := hide hr
        clear hn hr
        go_wp2_with fail
        have hX := HX.out
        rw [rn_go hn0.out hd0.out, rn_go hn1.out hd1.out, rn_bad hn2.out hr2.out] at hX
        subst hX
        exact fin117 _ _ w.heap.size _ _ _ _ _ _ _ ⟨_, _, _, rfl⟩ rfl rfl rfl (put6 _ _ _ _ _ _ c2.out.res) ⟨rfl, below6 c2.out.bel _ _ _ _ _ _⟩
      rw [hn]
      unfold npV
      have hn2 := hide hn
      clear hn
      cases o2
      · have hA2 : (0 : Int) ≤ ((e1 : Int) + 1) := by omega
        have hB2 : ((e1 : Int) + 1) ≤ (e2 : Int) := by omega
        have hC2 : (e2 : Int) ≤ (s.size : Int) := by omega
        go_wp2_with fail
        rw [rounds_succ]
        go_wp2_with fail
        have hX := HX.out
        rw [rn_go hn0.out hd0.out, rn_go hn1.out hd1.out, rn_last hn2.out] at hX
        subst hX
        exact fin117 _ _ w.heap.size _ _ _ _ _ _ _ ⟨_, _, _, rfl⟩ rfl rfl rfl (put6 _ _ _ _ _ _ c2.out.res) ⟨rfl, below6 c2.out.bel _ _ _ _ _ _⟩
      · go_wp2_with fail
        rw [rounds_succ]
        go_wp2_with fail
        have hX := HX.out
        rw [rn_go hn0.out hd0.out, rn_go hn1.out hd1.out, rn_last hn2.out] at hX
        subst hX
        exact fin117 _ _ w.heap.size _ _ _ _ _ _ _ ⟨_, _, _, rfl⟩ rfl rfl rfl (put6 _ _ _ _ _ _ c2.out.res) ⟨rfl, below6 c2.out.bel _ _ _ _ _ _⟩
  · go_wp2_with fail
    rw [rounds_succ]
    go_wp2_with fail
    refine (C0.out e0 _).mono ?_
    rintro e' W1 ⟨rfl, hb1⟩
    have c1 := hide (B0.out.below hb1)
    clear hb1
    clear q0 q1 q2 q3 q4 q5 q6 q7 r1 f1 f2 f3 f4 f5 f6 r2 r3 r4 r5 r6 p1 p2 p3 p4 p5
    obtain ⟨q0, q1, q2, q3, q4, q5, q6, q7⟩ := c1.out.seen
    obtain ⟨r1, f1, f2, f3, f4, f5, f6, r2, r3, r4, r5, r6⟩ := c1.out.seenR
    obtain ⟨p1, p2, p3, p4, p5⟩ := c1.out.seenP
    by_cases hd : s.data.toList[e0]? = some 46
    rotate_left
    · rw [pre_ne hd]
      have hd0 := hide hd
      clear hd
      go_wp2_with fail
      have hX := HX.out
      rw [rn_stop hn0.out hd0.out] at hX
      subst hX
      exact fin117 _ _ w.heap.size _ _ _ _ _ _ _ ⟨_, _, _, rfl⟩ rfl rfl rfl (put6 _ _ _ _ _ _ c1.out.res) ⟨rfl, below6 c1.out.bel _ _ _ _ _ _⟩
    rw [pre_eq hd]
    have hq := eqE (oneB 46) (by decide)
    have hp1 : e0 + 1 ≤ s.size := by
      rcases Nat.lt_or_ge e0 s.size with h | h
      · exact h
      · rw [at_none s e0 (by omega)] at hd; cases hd
    have hd0 := hide hd
    clear hd
    go_wp2_with fail
    refine (NC.out (e0 + 1) _ _ (by simp) hp1).mono ?_
    rintro e' w' ⟨rfl, hw'⟩
    rw [hw']
    clear hw' w'
    rcases ND.out (e0 + 1) hp1 with ⟨e1, o1, r, hn, hr⟩ | ⟨e1, o1, hn, he1, hl1⟩
    · rw [hn]
      unfold npV
      have hx := bne_iff_ne.2 hr
      have hn1 := hide hn
      have hr1 := hide hr
      clear hn hr
      go_wp2_with fail
      have hX := HX.out
      rw [rn_go hn0.out hd0.out, rn_bad hn1.out hr1.out] at hX
      subst hX
      exact fin117 _ _ w.heap.size _ _ _ _ _ _ _ ⟨_, _, _, rfl⟩ rfl rfl rfl (put6 _ _ _ _ _ _ c1.out.res) ⟨rfl, below6 c1.out.bel _ _ _ _ _ _⟩
    rw [hn]
    unfold npV
    have hn1 := hide hn
    clear hn
    cases o1
    · have hA1 : (0 : Int) ≤ ((e0 : Int) + 1) := by omega
      have hB1 : ((e0 : Int) + 1) ≤ (e1 : Int) := by omega
      have hC1 : (e1 : Int) ≤ (s.size : Int) := by omega
      go_wp2_with fail
      rw [rounds_succ]
      go_wp2_with fail
      refine (C0.out e1 _).mono ?_
      rintro e' W2 ⟨rfl, hb2⟩
      have c2 := hide (c1.out.below hb2)
      clear hb2
      clear q0 q1 q2 q3 q4 q5 q6 q7 r1 f1 f2 f3 f4 f5 f6 r2 r3 r4 r5 r6 p1 p2 p3 p4 p5
      obtain ⟨q0, q1, q2, q3, q4, q5, q6, q7⟩ := c2.out.seen
      obtain ⟨r1, f1, f2, f3, f4, f5, f6, r2, r3, r4, r5, r6⟩ := c2.out.seenR
      obtain ⟨p1, p2, p3, p4, p5⟩ := c2.out.seenP
      by_cases hd : s.data.toList[e1]? = some 46
      rotate_left
      · rw [pre_ne hd]
        have hd1 := hide hd
        clear hd
        go_wp2_with fail
        have hX := HX.out
        rw [rn_go hn0.out hd0.out, rn_stop hn1.out hd1.out] at hX
        subst hX
        exact fin117 _ _ w.heap.size _ _ _ _ _ _ _ ⟨_, _, _, rfl⟩ rfl rfl rfl (put6 _ _ _ _ _ _ c2.out.res) ⟨rfl, below6 c2.out.bel _ _ _ _ _ _⟩
      rw [pre_eq hd]
      have hq := eqE (oneB 46) (by decide)
      have hp2 : e1 + 1 ≤ s.size := by
        rcases Nat.lt_or_ge e1 s.size with h | h
        · exact h
        · rw [at_none s e1 (by omega)] at hd; cases hd
      have hd1 := hide hd
      clear hd
      go_wp2_with fail
      refine (NC.out (e1 + 1) _ _ (by simp) hp2).mono ?_
      rintro e' w' ⟨rfl, hw'⟩
      rw [hw']
      clear hw' w'
      rcases ND.out (e1 + 1) hp2 with ⟨e2, o2, r, hn, hr⟩ | ⟨e2, o2, hn, he2, hl2⟩
      · rw [hn]
        unfold npV
        have hx := bne_iff_ne.2 hr
        have hn2 := hide hn
        have hr2 := hide hr
        clear hn hr
        go_wp2_with fail
        have hX := HX.out
        rw [rn_go hn0.out hd0.out, rn_go hn1.out hd1.out, rn_bad hn2.out hr2.out] at hX
        subst hX
        exact fin117 _ _ w.heap.size _ _ _ _ _ _ _ ⟨_, _, _, rfl⟩ rfl rfl rfl (put6 _ _ _ _ _ _ c2.out.res) ⟨rfl, below6 c2.out.bel _ _ _ _ _ _⟩
      rw [hn]
      unfold npV
      have hn2 := hide hn
      clear hn
      cases o2
      · have hA2 : (0 : Int) ≤ ((e1 : Int) + 1) := by omega
        have hB2 : ((e1 : Int) + 1) ≤ (e2 : Int) := by omega
        have hC2 : (e2 : Int) ≤ (s.size : Int) := by omega
        go_wp2_with fail
        rw [rounds_succ]
        go_wp2_with fail
        have hX := HX.out
        rw [rn_go hn0.out hd0.out, rn_go hn1.out hd1.out, rn_last hn2.out] at hX
        subst hX
        exact fin117 _ _ w.heap.size _ _ _ _ _ _ _ ⟨_, _, _, rfl⟩ rfl rfl rfl (put6 _ _ _ _ _ _ c2.out.res) ⟨rfl, below6 c2.out.bel _ _ _ _ _ _⟩
      · go_wp2_with fail
        rw [rounds_succ]
        go_wp2_with fail
        have hX := HX.out
        rw [rn_go hn0.out hd0.out, rn_go hn1.out hd1.out, rn_last hn2.out] at hX
        subst hX
        exact fin117 _ _ w.heap.size _ _ _ _ _ _ _ ⟨_, _, _, rfl⟩ rfl rfl rfl (put6 _ _ _ _ _ _ c2.out.res) ⟨rfl, below6 c2.out.bel _ _ _ _ _ _⟩
    · go_wp2_with fail
      rw [rounds_succ]
      go_wp2_with fail
      refine (C0.out e1 _).mono ?_
      rintro e' W2 ⟨rfl, hb2⟩
      have c2 := hide (c1.out.below hb2)
      clear hb2
      clear q0 q1 q2 q3 q4 q5 q6 q7 r1 f1 f2 f3 f4 f5 f6 r2 r3 r4 r5 r6 p1 p2 p3 p4 p5
      obtain ⟨q0, q1, q2, q3, q4, q5, q6, q7⟩ := c2.out.seen
      obtain ⟨r1, f1, f2, f3, f4, f5, f6, r2, r3, r4, r5, r6⟩ := c2.out.seenR
      obtain ⟨p1, p2, p3, p4, p5⟩ := c2.out.seenP
      by_cases hd : s.data.toList[e1]? = some 46
      rotate_left
      · rw [pre_ne hd]
        have hd1 := hide hd
        clear hd
        go_wp2_with fail
        have hX := HX.out
        rw [rn_go hn0.out hd0.out, rn_stop hn1.out hd1.out] at hX
        subst hX
        exact fin117 _ _ w.heap.size _ _ _ _ _ _ _ ⟨_, _, _, rfl⟩ rfl rfl rfl (put6 _ _ _ _ _ _ c2.out.res) ⟨rfl, below6 c2.out.bel _ _ _ _ _ _⟩
      rw [pre_eq hd]
      have hq := eqE (oneB 46) (by decide)
      have hp2 : e1 + 1 ≤ s.size := by
        rcases Nat.lt_or_ge e1 s.size with h | h
        · exact h
        · rw [at_none s e1 (by omega)] at hd; cases hd
      have hd1 := hide hd
      clear hd
      go_wp2_with fail
      refine (NC.out (e1 + 1) _ _ (by simp) hp2).mono ?_
      rintro e' w' ⟨rfl, hw'⟩
      rw [hw']
      clear hw' w'
      rcases ND.out (e1 + 1) hp2 with ⟨e2, o2, r, hn, hr⟩ | ⟨e2, o2, hn, he2, hl2⟩
      · rw [hn]
        unfold npV
        have hx := bne_iff_ne.2 hr
        have hn2 := hide hn
        have hr2 := hide hr
        clear hn hr
        go_wp2_with fail
        have hX := HX.out
        rw [rn_go hn0.out hd0.out, rn_go hn1.out hd1.out, rn_bad hn2.out hr2.out] at hX
        subst hX
        exact fin117 _ _ w.heap.size _ _ _ _ _ _ _ ⟨_, _, _, rfl⟩ rfl rfl rfl (put6 _ _ _ _ _ _ c2.out.res) ⟨rfl, below6 c2.out.bel _ _ _ _ _ _⟩
      rw [hn]
      unfold npV
      have hn2 := hide hn
      clear hn
      cases o2
      · have hA2 : (0 : Int) ≤ ((e1 : Int) + 1) := by omega
        have hB2 : ((e1 : Int) + 1) ≤ (e2 : Int) := by omega
        have hC2 : (e2 : Int) ≤ (s.size : Int) := by omega
        go_wp2_with fail
        rw [rounds_succ]
        go_wp2_with fail
        have hX := HX.out
        rw [rn_go hn0.out hd0.out, rn_go hn1.out hd1.out, rn_last hn2.out] at hX
        subst hX
        exact fin117 _ _ w.heap.size _ _ _ _ _ _ _ ⟨_, _, _, rfl⟩ rfl rfl rfl (put6 _ _ _ _ _ _ c2.out.res) ⟨rfl, below6 c2.out.bel _ _ _ _ _ _⟩
      · go_wp2_with fail
        rw [rounds_succ]
        go_wp2_with fail
        have hX := HX.out
        rw [rn_go hn0.out hd0.out, rn_go hn1.out hd1.out, rn_last hn2.out] at hX
        subst hX
        exact fin117 _ _ w.heap.size _ _ _ _ _ _ _ ⟨_, _, _, rfl⟩ rfl rfl rfl (put6 _ _ _ _ _ _ c2.out.res) ⟨rfl, below6 c2.out.bel _ _ _ _ _ _⟩

end Go.Proofs.YtpdlgiioahjhiaaGreat
