/- The document's reader: digits, numbers, one byte. -/
import Derived.Deep.RegionWith
import Derived.Test.YtpdlgiioahjhiaaGreatPFc
import Derived.Test.YtpdlgiioahjhiaaGreatPSd
import Derived.Deep.QuietTactic
import Derived.BigQuiet
namespace Go.Proofs.YtpdlgiioahjhiaaGreat
open Go.RowKit Go.Shelf
open _root_.Array renaming getElem?_eq_some_iff → qcgg
open Below renaming heap_alloc → qcgz
open World renaming alloc_heap_new → qcgj, size_alloc → qcgp
set_option linter.unusedVariables false
set_option maxHeartbeats 1000000
set_option maxRecDepth 100000
def semN : SemL := ⟨[], [], [], [], []⟩
def rais (x : SemL) (p : Int) : SemL :=
 if p = 0 then ⟨qbp x.maj, [48], [48], [], []⟩ else if p = 1 then ⟨x.maj, qbp x.min, [48], [], []⟩ else ⟨x.maj, x.min, qbp x.pat, [], []⟩
def qgk (x : SemL) (p : Int) : SemL :=
 if fitW x then (if p = 0 ∨ p = 1 ∨ p = 2 then (if fitW (rais x p) then rais x p else semN) else semN) else semN
theorem qt (W : World) : Txt W (.slice none 0 0) [] := ⟨none, 0, rfl, .inl rfl⟩
theorem qbdj (a : QB) (w : World) (ha : a.length ≤ 9223372036854775805) :
  Calls Tryz.prog 159 #[.string (qg a)] w fun e w' => e = .returned (.string (qg (qbp a))) ∧ Below w.heap.size w w' := by
 have := Next_any (qg a) w (by rw [qx]; exact ha)
 rw [qj] at this;exact this
theorem qcg {W : World} {B : Nat} {x0 x1 x2 x3 x4 : Value} (a b c d e : Value) (h : W.heap[B]? = some (.cells #[x0, x1, x2, x3, x4] 33 (0, 0))) :
  ∃ W', W' = ((((W.setCell ⟨B, 0, none⟩ a).setCell ⟨B, 1, none⟩ b).setCell ⟨B, 2, none⟩ c).setCell ⟨B, 3, none⟩ d).setCell ⟨B, 4, none⟩ e ∧ W'.heap[B]? = some (.cells #[a, b, c, d, e] 33 (0, 0)) ∧ (∀ n₀, n₀ ≤ B → Below n₀ W W') :=
 ⟨_, rfl, qbtr a b c d e h, fun n₀ h1 => (((((Below.refl n₀ W).setCell (p := ⟨B, 0, none⟩) h1 a).setCell (p := ⟨B, 1, none⟩) h1 b).setCell (p := ⟨B, 2, none⟩) h1 c).setCell (p := ⟨B, 3, none⟩) h1 d).setCell (p := ⟨B, 4, none⟩) h1 e⟩
theorem qsb {W : World} {B : Nat} {cs : Array Value} {t : TypeId} (o : Nat) (v : Value) (h : W.heap[B]? = some (.cells cs t (0, 0))) :
  ∃ W', W' = W.setCell ⟨B, o, none⟩ v ∧ W'.heap[B]? = some (.cells (cs.setIfInBounds o v) t (0, 0)) ∧ (∀ j, j ≠ B → W'.heap[j]? = W.heap[j]?) ∧ (∀ n₀, n₀ ≤ B → Below n₀ W W') ∧ W'.heap.size = W.heap.size :=
 ⟨_, rfl, qv o v h, fun j hj => Below.heap_setCell _ _ _ j hj, fun n₀ h1 => (Below.refl n₀ W).setCell (p := ⟨B, o, none⟩) h1 v, Array.size_modify⟩
theorem qbdh (x : SemL) (p : Int) (s1 : x.maj.length ≤ 140737488355328) (s2 : x.min.length ≤ 140737488355328) (s3 : x.pat.length ≤ 140737488355328) : qct (rais x p) := by
 have n1 := qhh x.maj;have n2 := qhh x.min;have n3 := qhh x.pat;unfold rais;split
 ·exact ⟨by simp only; omega, by simp, by simp, ⟨by simp, by simp⟩, ⟨by simp, by simp⟩⟩
 ·split
  ·exact ⟨by simp only; omega, by simp only; omega, by simp, ⟨by simp, by simp⟩, ⟨by simp, by simp⟩⟩
  ·exact ⟨by simp only; omega, by simp only; omega, by simp only; omega, ⟨by simp, by simp⟩, ⟨by simp, by simp⟩⟩
theorem qxm {R : Ending → World → Prop} (tmps : Array Value) (W : World) (B : Nat) (x : SemL)
  (h2 : tmps.getD 4 undef = .pointer (some ⟨B, 0, none⟩)) (hp : x.pre = []) (hb : x.bld = []) (e1 : W.heap[B]? = some (.cells #[.string (qg x.maj), .string (qg x.min), .string (qg x.pat), .slice none 0 0, .slice none 0 0] 33 (0, 0)))
  (hR : ∀ v, qfd W v x → R (.returned v) W) :
  bodyPost Tryz.prog Tryz.f149 R .ret { tmps := tmps, defers := [] } W := by
 obtain ⟨r0, r1, r2, r3, r4⟩ := qcd e1;rw [Array.getD_eq_getD_getElem?] at h2;refine ⟨rfl, _, ?_, hR _ ⟨.slice none 0 0, .slice none 0 0, rfl, by rw [hp]; exact qt W, by rw [hb]; exact qt W⟩⟩
 simp [results, Tryz.results149, go_sem, h2, r0, r1, r2, r3, r4]
 try rfl
theorem qbhm (v : Value) (x : SemL) (p : Int) (w : World) (hv : qfd w v x) (sx : qct x) (s1 : x.maj.length ≤ 140737488355328) (s2 : x.min.length ≤ 140737488355328) (s3 : x.pat.length ≤ 140737488355328) :
  Calls Tryz.prog 149 #[v, .int .i64 p] w fun e w' => Below w.heap.size w w' ∧ ∃ u, e = .returned u ∧ qfd w' u (qgk x p) := by
 have F1 := qb (fun W (hW : Below w.heap.size w W) => qlc v x W (hv.below hW) sx);obtain ⟨p1, q1, rfl, t1, u1⟩ := hv;obtain ⟨a1, c1, rfl, y1⟩ := t1;obtain ⟨a2, c2, rfl, y2⟩ := u1;clear y1 y2 sx;have HX : Hid (qgk x p = if fitW x then (if p = 0 ∨ p = 1 ∨ p = 2 then (if fitW (rais x p) then rais x p else semN) else semN) else semN) := rfl;generalize qgk x p = X at *;have b0 : Below w.heap.size w ((w.alloc (.cells #[.string (qg x.maj), .string (qg x.min), .string (qg x.pat), .slice a1 x.pre.length c1, .slice a2 x.bld.length c2] 33)).alloc (.cells #[.string ⟨#[]⟩, .string ⟨#[]⟩, .string ⟨#[]⟩, .slice none 0 0, .slice none 0 0] 33)) := ((Below.refl _ w).alloc (Nat.le_refl _) _).alloc (by simp) _
 have k1 := qcgj w (.cells #[.string (qg x.maj), .string (qg x.min), .string (qg x.pat), .slice a1 x.pre.length c1, .slice a2 x.bld.length c2] 33);have k2 := qcgj (w.alloc (.cells #[.string (qg x.maj), .string (qg x.min), .string (qg x.pat), .slice a1 x.pre.length c1, .slice a2 x.bld.length c2] 33)) (.cells #[.string ⟨#[]⟩, .string ⟨#[]⟩, .string ⟨#[]⟩, .slice none 0 0, .slice none 0 0] 33);simp only [qcgp] at k2;have k1' := (qcgz (w.alloc (.cells #[.string (qg x.maj), .string (qg x.min), .string (qg x.pat), .slice a1 x.pre.length c1, .slice a2 x.bld.length c2] 33)) (.cells #[.string ⟨#[]⟩, .string ⟨#[]⟩, .string ⟨#[]⟩, .slice none 0 0, .slice none 0 0] 33) w.heap.size (by simp)).trans k1
 clear k1;have L0 := qb (qbb.cons k1' (qbb.cons k2 (qbb.nil _)));clear k1' k2;cases hf : fitW x
 ·rw [hf] at F1;have HR : Hid (X = semN) := by show _ = _; rw [HX.out, hf, if_neg (by simp)]
  clear hf;go_enter Tryz.func149, Tryz.ntmps149
  (go_wp2_with fail);refine (F1.out _ b0).mono ?_;rintro e w1 ⟨rfl, b1⟩;simp only [qcgp] at b1;have L1 := L0.out.below b1 (by intro q hq; simp only [List.mem_cons, List.not_mem_nil, or_false] at hq; rcases hq with rfl | rfl <;> simp only <;> omega)
  obtain ⟨r0, r1, r2, r3, r4⟩ := qcd L1.tail.head;have z0 := qf 0 L1.tail.head;have z1 := qf 1 L1.tail.head;have z2 := qf 2 L1.tail.head;have z3 := qf 3 L1.tail.head;have z4 := qf 4 L1.tail.head;have HE := qb L1.tail.head;clear L1;have B1 := b0.trans (b1.mono (by omega))
  (go_wp2_with fail);obtain ⟨W9, hW9, g9, hb9⟩ := qcg (W := w1) (.string ⟨#[]⟩) (.string ⟨#[]⟩) (.string ⟨#[]⟩) (.slice none 0 0) (.slice none 0 0) HE.out;rw [← hW9];refine qxm _ W9 (w.heap.size + 1) semN rfl rfl rfl g9 ?_;exact fun v hv => ⟨B1.trans (hb9 _ (by omega)), v, rfl, by rw [HR.out]; exact hv⟩
 ·rw [hf] at F1;have hX : X = if p = 0 ∨ p = 1 ∨ p = 2 then (if fitW (rais x p) then rais x p else semN) else semN := by rw [HX.out, hf, if_pos rfl]
  have FR := qb (fun W v (h : qfd W v (rais x p)) => qlc v (rais x p) W h (qbdh x p s1 s2 s3));clear hf HX;go_enter Tryz.func149, Tryz.ntmps149
  (go_wp2_with fail);refine (F1.out _ b0).mono ?_;rintro e w1 ⟨rfl, b1⟩;simp only [qcgp] at b1;have B1 := b0.trans (b1.mono (by omega))
  have L1 := L0.out.below b1 (by intro q hq; simp only [List.mem_cons, List.not_mem_nil, or_false] at hq; rcases hq with rfl | rfl <;> simp only <;> omega)
  obtain ⟨m0, m1, m2, m3, m4⟩ := qcd L1.head;have hl0 := (qcgg.1 L1.tail.head).1;have hl1 : w.heap.size < w1.heap.size := by omega
  by_cases h0 : p = 0
  ·subst h0;have hra : rais x 0 = ⟨qbp x.maj, [48], [48], [], []⟩ := by unfold rais; simp
   rw [if_pos (by simp)] at hX
   have FR2 := qb (fun W => FR.out W (.agg #[.string (qg (qbp x.maj)), .string ⟨#[48]⟩, .string ⟨#[48]⟩, .slice none 0 0, .slice none 0 0]) (by rw [hra]; exact ⟨_, _, rfl, qt W, qt W⟩))
   have HRA := qb hra;clear FR hra;(go_wp2_with fail);refine (qbdj x.maj _ (by omega)).mono ?_
   rintro e w2 ⟨rfl, b2⟩;simp only [qcgp] at b2;have hN := (b2.block w1.heap.size (by omega)).trans (qcgj w1 (.cells #[.string (qg x.maj), .string ⟨#[48]⟩, .string ⟨#[48]⟩, .slice none 0 0, .slice none 0 0] 33))
   have hR1 := (b2.block (w.heap.size + 1) (by omega)).trans ((qcgz _ _ _ (by omega)).trans L1.tail.head)
   obtain ⟨n0, n1, n2, n3, n4⟩ := qcd hN;have y0 := qf 0 hN;have y1 := qf 1 hN;have y2 := qf 2 hN;have y3 := qf 3 hN;have y4 := qf 4 hN;have B2 : Below w.heap.size w w2 := (B1.alloc (by omega) _).trans (b2.mono (by omega))
   have hl2 := (qcgg.1 hN).1;clear m0 m1 m2 m3 m4;(go_wp2_with fail);obtain ⟨W5, hW5, hN5, hO5, hB5, hS5⟩ := qsb 0 (.string (qg (qbp x.maj))) hN;rw [← hW5];refine (FR2.out _).mono ?_;rintro e w3 ⟨rfl, b3⟩;have B3 := (B2.trans (hB5 _ (by omega))).trans (b3.mono (by rw [hS5]; omega))
   have hN3 := (b3.block w1.heap.size (by rw [hS5]; omega)).trans hN5
   have hR3 := (b3.block (w.heap.size + 1) (by rw [hS5]; omega)).trans ((hO5 _ (by omega)).trans hR1)
   have HE := qb hR3;clear n0 n1 n2 n3 n4 y0 y1 y2 y3 y4;obtain ⟨r0, r1, r2, r3, r4⟩ := qcd hR3;obtain ⟨n0, n1, n2, n3, n4⟩ := qcd hN3;have z0 := qf 0 hR3;have z1 := qf 1 hR3;have z2 := qf 2 hR3;have z3 := qf 3 hR3;have z4 := qf 4 hR3;generalize hF : fitW (rais x 0) = F at *;cases F
   ·have HR : Hid (X = semN) := hX.trans (if_neg (by simp))
    (go_wp2_with fail);obtain ⟨W9, hW9, g9, hb9⟩ := qcg (W := w3) (.string ⟨#[]⟩) (.string ⟨#[]⟩) (.string ⟨#[]⟩) (.slice none 0 0) (.slice none 0 0) HE.out;rw [← hW9];refine qxm _ W9 (w.heap.size + 1) semN rfl rfl rfl g9 ?_;exact fun v hv => ⟨B3.trans (hb9 _ (by omega)), v, rfl, by rw [HR.out]; exact hv⟩
   ·have HR : Hid (X = ⟨qbp x.maj, [48], [48], [], []⟩) := by show _ = _; rw [hX, if_pos rfl, HRA.out]
    (go_wp2_with fail);obtain ⟨W9, hW9, g9, hb9⟩ := qcg (W := w3) (.string (qg (qbp x.maj))) (.string ⟨#[48]⟩) (.string ⟨#[48]⟩) (.slice none 0 0) (.slice none 0 0) HE.out;rw [← hW9];refine qxm _ W9 (w.heap.size + 1) ⟨qbp x.maj, [48], [48], [], []⟩ rfl rfl rfl g9 ?_;exact fun v hv => ⟨B3.trans (hb9 _ (by omega)), v, rfl, by rw [HR.out]; exact hv⟩
  ·by_cases h1 : p = 1
   ·subst h1;have hra : rais x 1 = ⟨x.maj, qbp x.min, [48], [], []⟩ := by unfold rais; simp
    rw [if_pos (by simp)] at hX
    have FR2 := qb (fun W => FR.out W (.agg #[.string (qg x.maj), .string (qg (qbp x.min)), .string ⟨#[48]⟩, .slice none 0 0, .slice none 0 0]) (by rw [hra]; exact ⟨_, _, rfl, qt W, qt W⟩))
    have HRA := qb hra;clear FR hra;(go_wp2_with fail);refine (qbdj x.min _ (by omega)).mono ?_
    rintro e w2 ⟨rfl, b2⟩;simp only [qcgp] at b2;have hN := (b2.block w1.heap.size (by omega)).trans (qcgj w1 (.cells #[.string (qg x.maj), .string ⟨#[48]⟩, .string ⟨#[48]⟩, .slice none 0 0, .slice none 0 0] 33))
    have hR1 := (b2.block (w.heap.size + 1) (by omega)).trans ((qcgz _ _ _ (by omega)).trans L1.tail.head)
    obtain ⟨n0, n1, n2, n3, n4⟩ := qcd hN;have y0 := qf 0 hN;have y1 := qf 1 hN;have y2 := qf 2 hN;have y3 := qf 3 hN;have y4 := qf 4 hN;have B2 : Below w.heap.size w w2 := (B1.alloc (by omega) _).trans (b2.mono (by omega))
    have hl2 := (qcgg.1 hN).1;clear m0 m1 m2 m3 m4;(go_wp2_with fail);obtain ⟨W5, hW5, hN5, hO5, hB5, hS5⟩ := qsb 1 (.string (qg (qbp x.min))) hN;rw [← hW5];refine (FR2.out _).mono ?_;rintro e w3 ⟨rfl, b3⟩;have B3 := (B2.trans (hB5 _ (by omega))).trans (b3.mono (by rw [hS5]; omega))
    have hN3 := (b3.block w1.heap.size (by rw [hS5]; omega)).trans hN5
    have hR3 := (b3.block (w.heap.size + 1) (by rw [hS5]; omega)).trans ((hO5 _ (by omega)).trans hR1)
    have HE := qb hR3;clear n0 n1 n2 n3 n4 y0 y1 y2 y3 y4;obtain ⟨r0, r1, r2, r3, r4⟩ := qcd hR3;obtain ⟨n0, n1, n2, n3, n4⟩ := qcd hN3;have z0 := qf 0 hR3;have z1 := qf 1 hR3;have z2 := qf 2 hR3;have z3 := qf 3 hR3;have z4 := qf 4 hR3;generalize hF : fitW (rais x 1) = F at *;cases F
    ·have HR : Hid (X = semN) := hX.trans (if_neg (by simp))
     (go_wp2_with fail);obtain ⟨W9, hW9, g9, hb9⟩ := qcg (W := w3) (.string ⟨#[]⟩) (.string ⟨#[]⟩) (.string ⟨#[]⟩) (.slice none 0 0) (.slice none 0 0) HE.out;rw [← hW9];refine qxm _ W9 (w.heap.size + 1) semN rfl rfl rfl g9 ?_;exact fun v hv => ⟨B3.trans (hb9 _ (by omega)), v, rfl, by rw [HR.out]; exact hv⟩
    ·have HR : Hid (X = ⟨x.maj, qbp x.min, [48], [], []⟩) := by show _ = _; rw [hX, if_pos rfl, HRA.out]
     (go_wp2_with fail);obtain ⟨W9, hW9, g9, hb9⟩ := qcg (W := w3) (.string (qg x.maj)) (.string (qg (qbp x.min))) (.string ⟨#[48]⟩) (.slice none 0 0) (.slice none 0 0) HE.out;rw [← hW9];refine qxm _ W9 (w.heap.size + 1) ⟨x.maj, qbp x.min, [48], [], []⟩ rfl rfl rfl g9 ?_;exact fun v hv => ⟨B3.trans (hb9 _ (by omega)), v, rfl, by rw [HR.out]; exact hv⟩
   ·by_cases h2 : p = 2
    ·subst h2;have hra : rais x 2 = ⟨x.maj, x.min, qbp x.pat, [], []⟩ := by unfold rais; simp
     rw [if_pos (by simp)] at hX
     have FR2 := qb (fun W => FR.out W (.agg #[.string (qg x.maj), .string (qg x.min), .string (qg (qbp x.pat)), .slice none 0 0, .slice none 0 0]) (by rw [hra]; exact ⟨_, _, rfl, qt W, qt W⟩))
     have HRA := qb hra;clear FR hra;(go_wp2_with fail);go_region_with (go_at_call 159; refine (qbdj x.pat _ (by omega)).mono ?_; rintro e w2 ⟨rfl, b2⟩; have b2' : Below (w1.heap.size + 1) (w1.alloc (.cells #[.string (qg x.maj), .string ⟨#[48]⟩, .string ⟨#[48]⟩, .slice none 0 0, .slice none 0 0] 33)) w2 := ((Below.refl (w1.heap.size + 1) (w1.alloc (.cells #[.string (qg x.maj), .string ⟨#[48]⟩, .string ⟨#[48]⟩, .slice none 0 0, .slice none 0 0] 33))).drew).trans (b2.mono (Nat.le_of_eq (qcgp w1 _).symm)); have hN := (b2'.block w1.heap.size (by omega)).trans (qcgj w1 (.cells #[.string (qg x.maj), .string ⟨#[48]⟩, .string ⟨#[48]⟩, .slice none 0 0, .slice none 0 0] 33)); obtain ⟨n0, n1, n2, n3, n4⟩ := qcd hN; have y1 := qf 1 hN; have y2 := qf 2 hN; obtain ⟨m0, m1, m2, m3, m4⟩ := qcd ((b2'.block w.heap.size (by omega)).trans ((qcgz _ _ _ (by omega)).trans L1.head)))
     all_goals
      have hR1 := (b2'.block (w.heap.size + 1) (by omega)).trans ((qcgz _ _ _ (by omega)).trans L1.tail.head)
      have B2 : Below w.heap.size w w2 := (B1.alloc (by omega) _).trans (b2'.mono (by omega))
      have hl2 := (qcgg.1 hN).1;(go_wp2_with fail);obtain ⟨W4, hW4, hN4, hO4, hB4, hS4⟩ := qsb 1 (.string (qg x.min)) hN;rw [← hW4];obtain ⟨W5, hW5, hN5, hO5, hB5, hS5⟩ := qsb 2 (.string (qg (qbp x.pat))) hN4;rw [← hW5];refine (FR2.out _).mono ?_;rintro e w3 ⟨rfl, b3⟩;have B3 := ((B2.trans (hB4 _ (by omega))).trans (hB5 _ (by omega))).trans (b3.mono (by rw [hS5, hS4]; omega))
      have hN3 := (b3.block w1.heap.size (by rw [hS5, hS4]; omega)).trans hN5
      have hR3 := (b3.block (w.heap.size + 1) (by rw [hS5, hS4]; omega)).trans ((hO5 _ (by omega)).trans ((hO4 _ (by omega)).trans hR1))
      have HE := qb hR3;clear n0 n1 n2 n3 n4 y1 y2 m0 m1 m2 m3 m4;obtain ⟨r0, r1, r2, r3, r4⟩ := qcd hR3;obtain ⟨n0, n1, n2, n3, n4⟩ := qcd hN3;have z0 := qf 0 hR3;have z1 := qf 1 hR3;have z2 := qf 2 hR3;have z3 := qf 3 hR3;have z4 := qf 4 hR3;generalize hF : fitW (rais x 2) = F at *;cases F
      ·have HR : Hid (X = semN) := hX.trans (if_neg (by simp))
       (go_wp2_with fail);obtain ⟨W9, hW9, g9, hb9⟩ := qcg (W := w3) (.string ⟨#[]⟩) (.string ⟨#[]⟩) (.string ⟨#[]⟩) (.slice none 0 0) (.slice none 0 0) HE.out;rw [← hW9];refine qxm _ W9 (w.heap.size + 1) semN rfl rfl rfl g9 ?_;exact fun v hv => ⟨B3.trans (hb9 _ (by omega)), v, rfl, by rw [HR.out]; exact hv⟩
      ·have HR : Hid (X = ⟨x.maj, x.min, qbp x.pat, [], []⟩) := by show _ = _; rw [hX, if_pos rfl, HRA.out]
       (go_wp2_with fail);obtain ⟨W9, hW9, g9, hb9⟩ := qcg (W := w3) (.string (qg x.maj)) (.string (qg x.min)) (.string (qg (qbp x.pat))) (.slice none 0 0) (.slice none 0 0) HE.out;rw [← hW9];refine qxm _ W9 (w.heap.size + 1) ⟨x.maj, x.min, qbp x.pat, [], []⟩ rfl rfl rfl g9 ?_;exact fun v hv => ⟨B3.trans (hb9 _ (by omega)), v, rfl, by rw [HR.out]; exact hv⟩
    ·have HR : Hid (X = semN) := by show _ = _; rw [hX, if_neg (by omega)]
     have c0 : (p == 0) = false := by simpa using h0
     have c1 : (p == 1) = false := by simpa using h1
     have c2 : (p == 2) = false := by simpa using h2
     obtain ⟨r0, r1, r2, r3, r4⟩ := qcd L1.tail.head;have z0 := qf 0 L1.tail.head;have z1 := qf 1 L1.tail.head;have z2 := qf 2 L1.tail.head;have z3 := qf 3 L1.tail.head;have z4 := qf 4 L1.tail.head;have HE := qb L1.tail.head;clear h0 h1 h2;(go_wp2_with fail);obtain ⟨W9, hW9, g9, hb9⟩ := qcg (W := w1) (.string ⟨#[]⟩) (.string ⟨#[]⟩) (.string ⟨#[]⟩) (.slice none 0 0) (.slice none 0 0) HE.out;rw [← hW9];have B9 := B1.trans (hb9 _ (by omega))
     refine qxm _ _ (w.heap.size + 1) semN rfl rfl rfl ((qcgz _ _ _ (qcgg.1 g9).1).trans g9) ?_;exact fun v hv => ⟨B9.alloc B9.size _, v, rfl, by rw [HR.out]; exact hv⟩
end Go.Proofs.YtpdlgiioahjhiaaGreat

namespace Go.Proofs.YtpdlgiioahjhiaaGreat
open Go.RowKit Go.Shelf
open Go renaming World → QW
set_option linter.unusedVariables false
structure Turn (B : Nat) (w w' : QW) : Prop where
 os : w'.os = w.os
 tape : w'.tape = w.tape
 output : w'.output = w.output
 size : w.heap.size ≤ w'.heap.size
 block : ∀ k, k < w.heap.size → k ≠ B → w'.heap[k]? = w.heap[k]?
theorem Turn.refl (B : Nat) (w : QW) : Turn B w w := ⟨rfl, rfl, rfl, Nat.le_refl _, fun _ _ _ => rfl⟩
theorem Turn.trans {B : Nat} {a b c : QW} (h : Turn B a b) (k : Turn B b c) : Turn B a c :=
 ⟨k.os.trans h.os, k.tape.trans h.tape, k.output.trans h.output, Nat.le_trans h.size k.size, fun i hi hn => (k.block i (Nat.lt_of_lt_of_le hi h.size) hn).trans (h.block i hi hn)⟩
theorem Turn.ofBelow {B : Nat} {w w' : QW} (h : Below w.heap.size w w') : Turn B w w' := ⟨h.os, h.tape, h.output, h.size, fun k hk _ => h.block k hk⟩
theorem Turn.below {B n : Nat} {w w' : QW} (h : Turn B w w') (hn : n ≤ B) (hs : n ≤ w.heap.size) : Below n w w' := ⟨h.os, h.tape, h.output, h.size, fun k hk => h.block k (Nat.lt_of_lt_of_le hk hs) (by omega)⟩
theorem Turn.set (B o : Nat) (w : QW) (v : Value) : Turn B w (w.setCell ⟨B, o, none⟩ v) :=
 ⟨rfl, rfl, rfl, by rw [show (w.setCell ⟨B, o, none⟩ v).heap.size = w.heap.size from Array.size_modify]; exact Nat.le_refl _, fun k _ hn => Below.heap_setCell _ _ _ k hn⟩
theorem Turn.drewN (B : Nat) (w : QW) : ∀ n, Turn B w (w.drewN n)
 | 0 => Turn.refl B w
 | n + 1 => by
  have h := Turn.drewN B w.drew n;exact ⟨h.os, h.tape, h.output, h.size, h.block⟩
theorem qjs (w : QW) : ∀ n, (w.drewN n).heap = w.heap
 | 0 => rfl
 | n + 1 => qjs w.drew n
theorem qbm (k : Nat) (w : QW) (n : Nat) : Below k w (w.drewN n) := by
 have h := Turn.drewN 0 w n;exact ⟨h.os, h.tape, h.output, h.size, fun j _ => by rw [qjs]⟩
def RdAt (W : QW) (B : Nat) (s : QY) (a : Nat) (e : Int) : Prop := W.heap[B]? = some (.cells #[.string s, .int .i64 (a : Int), .int .i64 e] 140 (0, 0))
theorem RdAt.seen {W : QW} {B : Nat} {s : QY} {a : Nat} {e : Int} (h : RdAt W B s a e) :
  W.cell? ⟨B, 0, none⟩ = some (.string s) ∧ W.cell? ⟨B, 1, none⟩ = some (.int .i64 (a : Int)) ∧ W.cell? ⟨B, 2, none⟩ = some (.int .i64 e) ∧ W.frozen? ⟨B, 1, none⟩ = false ∧ W.frozen? ⟨B, 2, none⟩ = false :=
 ⟨qd 0 h rfl, qd 1 h rfl, qd 2 h rfl, qf 1 h, qf 2 h⟩
theorem RdAt.lt {W : QW} {B : Nat} {s : QY} {a : Nat} {e : Int} (h : RdAt W B s a e) : B < W.heap.size := (Array.getElem?_eq_some_iff.1 h).1
theorem RdAt.drewN {W : QW} {B : Nat} {s : QY} {a : Nat} {e : Int} (h : RdAt W B s a e) (n : Nat) : RdAt (W.drewN n) B s a e := by unfold RdAt; rw [qjs]; exact h
theorem RdAt.err {W : QW} {B : Nat} {s : QY} {a : Nat} {e : Int} (h : RdAt W B s a e) (x : Int) : RdAt (W.setCell ⟨B, 2, none⟩ (.int .i64 x)) B s a x := qv 2 (.int .i64 x) h
theorem RdAt.place {W : QW} {B : Nat} {s : QY} {a : Nat} {e : Int} (h : RdAt W B s a e) (x : Nat) : RdAt (W.setCell ⟨B, 1, none⟩ (.int .i64 (x : Int))) B s x e := qv 1 (.int .i64 (x : Int)) h
def rerr (e x : Int) : Int := if e = 0 then x else e
theorem qbj (x : Int) : rerr 0 x = x := if_pos rfl
theorem qwj {e : Int} (x : Int) (h : e ≠ 0) : rerr e x = e := if_neg h
theorem qfk (B : Nat) (s : QY) (a : Nat) (e x : Int) (w : QW) (h : RdAt w B s a e) :
  Calls Tryz.prog 117 #[.pointer (some ⟨B, 0, none⟩), .int .i64 x] w fun r w' => r = .returned (.tuple #[]) ∧ RdAt w' B s a (rerr e x) ∧ Turn B w w' := by
 obtain ⟨c0, c1, c2, f1, f2⟩ := h.seen;have H := qb h;clear h
 by_cases he : e = 0
 ·subst he;go_enter Tryz.func117, Tryz.ntmps117
  (go_wp2_with fail);go_end0
  exact ⟨rfl, by rw [qbj]; exact H.out.err x, Turn.set _ _ _ _⟩
 ·have hb : (e == 0) = false := by simpa using he
  have HN := qb he;clear he;go_enter Tryz.func117, Tryz.ntmps117
  (go_wp2_with fail);go_end0
  exact ⟨rfl, by rw [qwj x HN.out]; exact H.out, Turn.refl _ _⟩
theorem qjt (B : Nat) (s : QY) (a : Nat) (e : Int) (w : QW) (h : RdAt w B s a e) (hs : a ≤ s.size) :
  Calls Tryz.prog 145 #[.pointer (some ⟨B, 0, none⟩)] w fun r w' => r = .returned (.tuple #[]) ∧ RdAt w' B s a (rerr e (misL s.size a)) ∧ Turn B w w' := by
 obtain ⟨c0, c1, c2, f1, f2⟩ := h.seen;have H := qb h;clear h
 by_cases ha : a < s.size
 ·have hd : decide (a < s.size) = true := by simpa using ha
  have HA := qb ha;clear ha;go_enter Tryz.func145, Tryz.ntmps145
  (go_wp2_with fail);go_quiet (fail)
  (go_wp2_with fail);refine (qfk B s a e 10 _ (H.out.drewN _)).mono ?_;rintro r w1 ⟨rfl, h1, t1⟩;(go_wp2_with fail);go_end0
  exact ⟨rfl, by unfold misL; rw [if_neg (by have := HA.out; omega)]; exact h1, (Turn.drewN _ _ _).trans t1⟩
 ·have hd : decide (a < s.size) = false := by simpa using ha
  have HA := qb ha;clear ha;go_enter Tryz.func145, Tryz.ntmps145
  (go_wp2_with fail);go_quiet (fail)
  (go_wp2_with fail);refine (qfk B s a e 11 _ (H.out.drewN _)).mono ?_;rintro r w1 ⟨rfl, h1, t1⟩;(go_wp2_with fail);go_end0
  exact ⟨rfl, by unfold misL; rw [if_pos (by have := HA.out; omega)]; exact h1, (Turn.drewN _ _ _).trans t1⟩
theorem qfn (B : Nat) (s : QY) (a : Nat) (e : Int) (w : QW) (h : RdAt w B s a e) :
  Calls Tryz.prog 116 #[.pointer (some ⟨B, 0, none⟩)] w fun r w' => r = .returned (.bool (decide (e = 0) && decide (a < s.size))) ∧ ∃ n, w' = w.drewN n := by
 obtain ⟨c0, c1, c2, f1, f2⟩ := h.seen;clear h
 by_cases he : e = 0
 ·subst he
  by_cases ha : a < s.size
  ·have hd : decide (a < s.size) = true := by simpa using ha
   rw [show (decide ((0 : Int) = 0) && decide (a < s.size)) = true by simp [ha]]
   clear ha;go_enter Tryz.func116, Tryz.ntmps116
   (go_wp2_with fail);go_quiet (fail)
   (go_wp2_with fail);go_ret
   exact ⟨rfl, _, rfl⟩
  ·have hd : decide (a < s.size) = false := by simpa using ha
   rw [show (decide ((0 : Int) = 0) && decide (a < s.size)) = false by simp [ha]]
   clear ha;go_enter Tryz.func116, Tryz.ntmps116
   (go_wp2_with fail);go_quiet (fail)
   (go_wp2_with fail);go_ret
   exact ⟨rfl, _, rfl⟩
 ·have hb : (e == 0) = false := by simpa using he
  simp only [he, decide_false, Bool.false_and];clear he;go_enter Tryz.func116, Tryz.ntmps116
  (go_wp2_with fail);go_quiet (fail)
  (go_wp2_with fail);go_ret
  exact ⟨rfl, _, rfl⟩
theorem qqg (c : UInt8) (w : QW) : Calls Tryz.prog 118 #[.int .u8 (c.toNat : Int)] w fun r w' => r = .returned (.bool (isC (c.toNat : Int) 1)) ∧ w' = w := by
 unfold isC;simp only [if_true]
 by_cases h1 : 48 ≤ (c.toNat : Int) <;> by_cases h2 : (c.toNat : Int) ≤ 57
 all_goals
  go_enter Tryz.func118, Tryz.ntmps118
  (go_wp2_with fail);go_ret
  simp [h1, h2]
theorem qjw (c : UInt8) (w : QW) : Calls Tryz.prog 80 #[.int .u8 (c.toNat : Int)] w fun r w' => r = .returned (.bool (isId c)) ∧ w' = w := by
  have hd := qqg c w
  have e0 : (c == 45) = decide ((c.toNat : Int) = 45) := by
    rw [Bool.eq_iff_iff];simp only [beq_iff_eq, decide_eq_true_eq];constructor
    · rintro rfl; rfl
    · intro h; exact UInt8.toNat_inj.1 (by have : c.toNat = 45 := by omega
                                           rw [this]; rfl)
  have hi : isId c = (decide ((c.toNat : Int) = 45) || ((decide (97 ≤ (c.toNat : Int)) && decide ((c.toNat : Int) ≤ 122)) || (decide (65 ≤ (c.toNat : Int)) && decide ((c.toNat : Int) ≤ 90)) || (decide (48 ≤ (c.toNat : Int)) && decide ((c.toNat : Int) ≤ 57)))) := by
    unfold isId; rw [e0]; rfl
  have hc : isC (c.toNat : Int) 1 = (decide (48 ≤ (c.toNat : Int)) && decide ((c.toNat : Int) ≤ 57)) := rfl;rw [hi];rw [hc] at hd;have HD := qb hd;clear hd hi hc e0;generalize (c.toNat : Int) = n at *
  by_cases h1 : 48 ≤ n <;> by_cases h2 : n ≤ 57 <;> by_cases h3 : 97 ≤ n <;> by_cases h4 : n ≤ 122 <;> by_cases h5 : 65 ≤ n <;> by_cases h6 : n ≤ 90 <;> by_cases h7 : n = 45
  all_goals first
    | (exfalso; omega)
    | (
       have hb : (n == 45) = decide (n = 45) := by by_cases h : n = 45 <;> simp [h]
       simp only [h1, h2, h3, h4, h5, h6, h7, decide_true, decide_false] at HD hb ⊢;go_enter Tryz.func80, Tryz.ntmps80
       (go_wp2_with fail);refine HD.out.mono ?_;rintro r w' ⟨rfl, rfl⟩;(go_wp2_with fail);go_ret
       simp <;> omega)
end Go.Proofs.YtpdlgiioahjhiaaGreat

namespace Go.Proofs.YtpdlgiioahjhiaaGreat
open Go.RowKit Go.Shelf
set_option linter.unusedVariables false
set_option maxHeartbeats 400000
theorem qmv (s : QY) (w : World) (hs : s.size ≤ maxLen) :
  Calls Tryz.prog 78 #[.string s] w fun e w' => e = .returned (.bool (digB s.data.toList)) ∧ w' = w := by
 unfold maxLen at hs;have HD : Hid (digB s.data.toList = (decide (0 < s.size) && decide (qz 1 s.data.toList = s.size))) := by
  show _ = _
  by_cases hp : 0 < s.size
  ·unfold digB;rw [emp s hp, qh, Bool.eq_iff_iff];simp [hp]
  ·have := qbjm s hp;subst this
   rfl
 generalize digB s.data.toList = D at *;go_enter Tryz.func78, Tryz.ntmps78
 (go_wp2_with fail);go_loop [3] (fun i => ∃ k : Nat, k ≤ s.size ∧ i = .int .i64 k ∧ Hid (qz 1 s.data.toList = k + qz 1 (s.data.toList.drop k))) (fun i => s.size - (intOf i).toNat)
 case atStart => exact ⟨0, by omega, rfl, by show _ = _; simp⟩
 case round =>
  obtain ⟨k, hk, rfl, HR⟩ := hrel
  by_cases hlt : k < s.size
  ·cases hc : isC (s[k].toNat : Int) 1
   ·have hC := qqg s[k] w;rw [hc] at hC;have HC := qb hC;have HM := qb (qhl 1 s k hlt hc);clear hC hc;(go_wp2_with fail);refine HC.out.mono ?_;rintro e w' ⟨rfl, rfl⟩;(go_wp2_with fail);go_ret
    refine ⟨qdj ?_, rfl⟩;rw [HD.out, HR.out, HM.out];simp;omega
   ·have hC := qqg s[k] w;rw [hc] at hC;have HC := qb hC;have HM := qb (qjm 1 s k hlt hc);clear hC hc;(go_wp2_with fail);refine HC.out.mono ?_;rintro e w' ⟨rfl, rfl⟩;(go_wp2_with fail);go_round
    case rel => exact ⟨k + 1, by omega, by go_num, by show _ = _; rw [HR.out, HM.out]; omega⟩
    case measure => simp [intOf]; omega
  ·obtain rfl : k = s.size := by omega
   (go_wp2_with fail);go_ret
   refine ⟨qdj ?_, rfl⟩;rw [HD.out, HR.out, qkj 1 s s.size (Nat.le_refl _)];simp
theorem qxn (s : QY) (w : World) (hs : s.size ≤ maxLen) :
    Calls Tryz.prog 46 #[.string s] w fun e w' => e = .returned (.bool (numB s.data.toList)) ∧ w' = w := by
  have hD := qmv s w hs;unfold maxLen at hs;unfold numB;cases hd : digB s.data.toList
  · rw [hd] at hD
    have HD := qb hD;clear hD hd;simp only [Bool.false_and];go_enter Tryz.func46, Tryz.ntmps46
    (go_wp2_with fail);refine HD.out.mono ?_;rintro e w' ⟨rfl, rfl⟩;(go_wp2_with fail);go_ret
    exact ⟨rfl, rfl⟩
  · rw [hd] at hD
    have HD := qb hD
    have hp : 0 < s.size := by
      rcases Nat.eq_zero_or_pos s.size with h | h
      · exfalso
        have := qbjm s (by omega)
        subst this;cases hd
      · exact h
    have HZ : Hid (qcq s.data.toList = (decide (1 < s.size) && decide ((s[0].toNat : Int) = 48))) := by
      show _ = _;unfold qcq;rw [hd, qbzq s hp, qh, Bool.eq_iff_iff];simp only [Bool.and_true, Bool.and_eq_true, decide_eq_true_eq, beq_iff_eq, Option.some.injEq]
      refine and_congr_right fun _ => ⟨fun h => by rw [h]; rfl, fun h => UInt8.toNat_inj.1 (by have : s[0].toNat = 48 := by omega
                                                                                               rw [this]; rfl)⟩
    clear hD hd;generalize qcq s.data.toList = Z at *
    by_cases h0 : (s[0].toNat : Int) = 48 <;> by_cases h1 : 1 < s.size
    all_goals
      go_enter Tryz.func46, Tryz.ntmps46
      (go_wp2_with fail);refine HD.out.mono ?_;rintro e w' ⟨rfl, rfl⟩;have hb0 : ((s[0].toNat : Int) == 48) = decide ((s[0].toNat : Int) = 48) := by by_cases h : (s[0].toNat : Int) = 48 <;> simp [h]
      simp only [h0, decide_true, decide_false] at hb0;(go_wp2_with fail);go_ret
      refine ⟨qdj ?_, rfl⟩;rw [HZ.out];simp [h0, h1]
      try omega
theorem qbbw (s : QY) (w : World) (hs : s.size ≤ maxLen) :
  Calls Tryz.prog 79 #[.string s] w fun e w' => e = .returned (.bool (qcq s.data.toList)) ∧ w' = w := by
 have hD := qmv s w hs;have hN := qxn s w hs;have hz : qcq s.data.toList = (digB s.data.toList && !numB s.data.toList) := by
  unfold numB qcq;cases digB s.data.toList <;> simp
 rw [hz];clear hz;cases hd : digB s.data.toList <;> cases hn : numB s.data.toList
 all_goals
  rw [hd] at hD;rw [hn] at hN;have HD := qb hD;have HN := qb hN;clear hD hd hN hn;go_enter Tryz.func79, Tryz.ntmps79
  (go_wp2_with fail);refine HD.out.mono ?_;rintro e w' ⟨rfl, hw⟩;rw [hw];clear hw w';go_wp2_with fail
  try (refine HN.out.mono ?_; rintro e w' ⟨rfl, hw⟩; rw [hw]; clear hw w'; go_wp2_with fail)
  go_ret
  exact ⟨rfl, rfl⟩
def atB (l : QB) (a : Nat) (c : UInt8) : Bool := l[a]? == some c
theorem qbmz (s : QY) (a : Nat) (c : UInt8) (h : a < s.size) : atB s.data.toList a c = decide ((s[a].toNat : Int) = (c.toNat : Int)) := by
 have hg : s.data.toList[a]? = some s[a] := by rw [List.getElem?_eq_getElem (by rw [qh]; exact h)]; rfl
 unfold atB;rw [hg, Bool.eq_iff_iff];simp only [beq_iff_eq, Option.some.injEq, decide_eq_true_eq];exact ⟨fun h => by rw [h], fun h => UInt8.toNat_inj.1 (by omega)⟩
theorem qfc (s : QY) (a : Nat) (c : UInt8) (h : ¬ a < s.size) : atB s.data.toList a c = false := by
 unfold atB;rw [List.getElem?_eq_none (by rw [qh]; omega)]
 rfl
theorem qhj (B : Nat) (s : QY) (a : Nat) (e : Int) (c : UInt8) (w : World) (h : RdAt w B s a e) :
  Calls Tryz.prog 114 #[.pointer (some ⟨B, 0, none⟩), .int .u8 (c.toNat : Int)] w fun r w' => r = .returned (.bool (decide (e = 0) && atB s.data.toList a c)) ∧ ∃ n, w' = w.drewN n := by
 obtain ⟨c0, c1, c2, f1, f2⟩ := h.seen;have HM := qb (fun n => qfn B s a e (w.drewN n) (h.drewN n));clear h
 by_cases he : e = 0
 ·subst he
  by_cases ha : a < s.size
  ·rw [show (decide ((0 : Int) = 0) && decide (a < s.size)) = true by simp [ha]] at HM
   rw [qbmz s a c ha];have hb : ((s[a].toNat : Int) == (c.toNat : Int)) = decide ((s[a].toNat : Int) = (c.toNat : Int)) := by by_cases h : (s[a].toNat : Int) = (c.toNat : Int) <;> simp [h]
   generalize decide ((s[a].toNat : Int) = (c.toNat : Int)) = D at *;go_enter Tryz.func114, Tryz.ntmps114
   (go_wp2_with fail);go_quiet ((go_at_call 116; exact Calls.quiet_of (HM.out _)))
   (go_wp2_with fail);go_ret
   exact ⟨by simp, _, rfl⟩
  ·rw [show (decide ((0 : Int) = 0) && decide (a < s.size)) = false by simp [ha]] at HM
   rw [qfc s a c ha];go_enter Tryz.func114, Tryz.ntmps114
   (go_wp2_with fail);go_quiet ((go_at_call 116; exact Calls.quiet_of (HM.out _)))
   (go_wp2_with fail);go_ret
   exact ⟨rfl, _, rfl⟩
 ·rw [show (decide (e = 0) && decide (a < s.size)) = false by simp [he]] at HM
  rw [show (decide (e = 0) && atB s.data.toList a c) = false by simp [he]]
  clear he;go_enter Tryz.func114, Tryz.ntmps114
  (go_wp2_with fail);go_quiet ((go_at_call 116; exact Calls.quiet_of (HM.out _)))
  (go_wp2_with fail);go_ret
  exact ⟨rfl, _, rfl⟩
end Go.Proofs.YtpdlgiioahjhiaaGreat
