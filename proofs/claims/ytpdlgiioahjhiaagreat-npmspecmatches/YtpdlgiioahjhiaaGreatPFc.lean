/- Walks: the order of versions, fit or not; the version with o -/
import Derived.Test.YtpdlgiioahjhiaaGreatPSc
namespace Go.Proofs.YtpdlgiioahjhiaaGreat
open Go.RowKit Go.Shelf
open Go renaming World → QW, Value → QV
set_option linter.unusedVariables false
def qbb (W : QW) (ps : List (Nat × Obj)) : Prop := ∀ p ∈ ps, W.heap[p.1]? = some p.2
theorem qbb.nil (W : QW) : qbb W [] := by intro p hp; cases hp
theorem qbb.cons {W : QW} {B : Nat} {o : Obj} {ps : List (Nat × Obj)} (h : W.heap[B]? = some o) (hs : qbb W ps) : qbb W ((B, o) :: ps) := by
 intro p hp;rcases List.mem_cons.1 hp with rfl | hp
 ·exact h
 ·exact hs p hp
theorem qbb.head {W : QW} {B : Nat} {o : Obj} {ps : List (Nat × Obj)} (h : qbb W ((B, o) :: ps)) : W.heap[B]? = some o := h (B, o) List.mem_cons_self
theorem qbb.tail {W : QW} {p : Nat × Obj} {ps : List (Nat × Obj)} (h : qbb W (p :: ps)) : qbb W ps := fun q hq => h q (List.mem_cons_of_mem _ hq)
theorem qbb.lt {W : QW} {ps : List (Nat × Obj)} (h : qbb W ps) (p : Nat × Obj) (hp : p ∈ ps) : p.1 < W.heap.size := (Array.getElem?_eq_some_iff.1 (h p hp)).1
theorem qbb.kept {W W' : QW} {row : Option Nat} {ps : List (Nat × Obj)} (h : qbb W ps) (hg : W.grownBy W' row) (hne : ∀ p ∈ ps, some p.1 ≠ row) : qbb W' ps :=
 fun p hp => (hg.block p.1 (h.lt p hp) (hne p hp)).trans (h p hp)
theorem qbb.alloc {W : QW} {ps : List (Nat × Obj)} (h : qbb W ps) (o : Obj) : qbb (W.alloc o) ps := h.kept (World.grownBy_alloc W o none) (by simp)
theorem qnh (W : QW) (b o : Nat) (v : QV) : W.grownBy (W.setCell ⟨b, o, none⟩ v) (some b) :=
 ⟨rfl, rfl, rfl, (KeepsWalks.setCell W _ v).size, fun k _ hk => Below.heap_setCell _ _ _ k (fun e => hk (by rw [e]))⟩
theorem qbb.other {W : QW} {ps : List (Nat × Obj)} (h : qbb W ps) (b o : Nat) (v : QV) (hne : ∀ p ∈ ps, p.1 ≠ b) : qbb (W.setCell ⟨b, o, none⟩ v) ps :=
 h.kept (qnh W b o v) (fun p hp e => hne p hp (by simpa using e))
theorem qbb.below {W W' : QW} {n : Nat} {ps : List (Nat × Obj)} (h : qbb W ps) (hb : Below n W W') (hn : ∀ p ∈ ps, p.1 < n) : qbb W' ps :=
 fun p hp => (hb.block p.1 (hn p hp)).trans (h p hp)
theorem qw {W : QW} {B : Nat} {t : TypeId} {v : QV} {m : Nat × Nat} (h : W.heap[B]? = some (.cells #[v] t m)) : W.cell? ⟨B, 0, none⟩ = some v := by simp [World.cell?, h]
theorem qf {W : QW} {B : Nat} {t : TypeId} {cs : Array QV} (o : Nat) (h : W.heap[B]? = some (.cells cs t (0, 0))) : W.frozen? ⟨B, o, none⟩ = false := by simp [World.frozen?, h]
theorem qd {W : QW} {B : Nat} {t : TypeId} {cs : Array QV} {m : Nat × Nat} (o : Nat) {v : QV} (h : W.heap[B]? = some (.cells cs t m)) (hv : cs[o]? = some v) : W.cell? ⟨B, o, none⟩ = some v := by simp [World.cell?, h, hv]
theorem qv {W : QW} {B : Nat} {t : TypeId} {cs : Array QV} {m : Nat × Nat} (o : Nat) (v : QV) (h : W.heap[B]? = some (.cells cs t m)) : (W.setCell ⟨B, o, none⟩ v).heap[B]? = some (.cells (cs.setIfInBounds o v) t m) := by
 obtain ⟨hlt, hk⟩ := Array.getElem?_eq_some_iff.1 h;show (W.heap.modify B _)[B]? = _;rw [Array.getElem?_eq_getElem (by rw [Array.size_modify]; exact hlt), Array.getElem_modify_self, hk]
 rfl
/-! ### A region that draws its order, in a round of a loop over an iterator: as outside of one, where nothing is deferred -/
section
variable {F : Fence} {n l : Nat} {P : Program} {ops : Array Oper} {Q : Exit → Act → World → Prop} {md : Region.Mode}
theorem qbvs {o : Oper} (hro : F.round = none) (hd : ∀ c, o.op ≠ .defer c) {a : Act} {w : QW} {K : Act → QW → Prop} (h : Oper.wpIn F n P o a w K Q) : Oper.wpIn (F.inRound l) n P o a w K Q := by
 unfold Oper.wpIn at *;refine ⟨h.1, ?_⟩;have h2 := h.2;rw [Oper.semAt_plain F _ _ hd] at h2;rw [Oper.semAt_plain (F.inRound l) _ _ hd];exact h2
theorem qblk (hro : F.round = none) (hd : ∀ (i : Nat) (o : Oper), ops[i]? = some o → ∀ c, o.op ≠ .defer c) {i : Nat} {K : Act → QW → Prop} {a : Act} {w : QW} (h : wpOpIn F n P ops Q i K a w) : wpOpIn (F.inRound l) n P ops Q i K a w := by
 unfold wpOpIn at *;cases ho : ops[i]? with
 | none => simpa [ho] using h
 | some o =>
  simp only [ho] at h ⊢;split
  ·rename_i hw; simp only [hw, if_true] at h; exact qbvs hro (hd i o ho) h
  ·rename_i hw; simp only [hw] at h; exact h
theorem qgs (hro : F.round = none) (hd : ∀ (i : Nat) (o : Oper), ops[i]? = some o → ∀ c, o.op ≠ .defer c) :
  ∀ (fuel : Nat) (listed : Array Bool) (a : Act) (w : QW), wpAnyIn F n P md ops Q fuel listed a w → wpAnyIn (F.inRound l) n P md ops Q fuel listed a w
 | 0, _, _, _, h => h
 | fuel + 1, listed, a, w, h => ⟨h.1, fun i hi => wpOpIn_mono (fun a' w' h' => qgs hro hd fuel _ a' w' h') (qblk hro hd (h.2 i hi))⟩
theorem qk {o : Oper} {a : Act} {w : QW} {K : Act → QW → Prop} {E : Prop}
  (hg : o.guard = none) (s x : Operand) (t : TypeId) (hop : o.op = Op.call { callee := Callee.builtin Builtin.append, args := #[s, x], argTypes := #[t, t] })
  (base : Nat) (e : TypeId) (i : TypeInfo) (z : QV) (size bytes : Nat) (h1 : P.underlying t = some (.slice e)) (h2 : P.info? e = some i) (h3 : i.zero = some z) (h4 : i.size = size) (h5 : i.bytes = bytes) (h6 : z.cells.size = size) (h7 : 0 < size)
  (v : QV) (k : Nat) (xs : List QV) (hs : a.eval s = v) (hown : w.ownsRow base e size v k xs) (ad : Addr) (m c : Nat) (news : List QV) (hx : a.eval x = .slice (some ad) m c) (hn : news.length = m * size)
  (hc : ∀ j u, news[j]? = some u → w.cell? (ad.add j) = some u) (h1c : ∀ u ∈ news, u.oneCell' = true) (b1 : k + m ≤ maxLen) (b2 : (k + m) * bytes ≤ 140737488355328) (b3 : base ≤ w.heap.size)
  (hK : ∀ v' w', w'.ownsRow base e size v' (k + m) (xs ++ news) → w.grownBy w' v.ownBlock → (v' = .slice none 0 0 ↔ v = .slice none 0 0 ∧ m = 0) → K (a.put o.dst v') w') :
  if Region.wanted o (yielded ops a.tmps) = true then Oper.wpIn F n P o a w K Q else E := by
 have hw : Region.wanted o (yielded ops a.tmps) = true := by simp [Region.wanted, hg]
 rw [if_pos hw];obtain ⟨v', w', hrun, r1, r2, r3⟩ := run_append_own (P := P) w base t o.type e i z size bytes h1 h2 h3 h4 h5 h6 h7 v k xs hown ad m c news hn hc h1c b1 b2 b3;unfold Oper.wpIn;refine ⟨?_, ?_⟩
 ·simp [Oper.about, hop, resolve, Target.leads, Sem.run_pure]
 ·rw [Oper.semAt_plain F _ _ (by rw [hop]; intro c hc'; cases hc')]
  simp [execOp, hop, resolve, invoke, builtin, hs, hx, hrun, Result.andThen];exact hK v' w' r1 r2 r3
end
end Go.Proofs.YtpdlgiioahjhiaaGreat

namespace Go.Proofs.YtpdlgiioahjhiaaGreat
open Go.RowKit
set_option linter.unusedVariables false
set_option maxHeartbeats 1000000
set_option maxRecDepth 100000
def lenI : List QB → Nat
 | [] => 0
 | t :: r => 1 + t.length + lenI r
def lenS (x : SemL) : Nat := x.maj.length + x.min.length + x.pat.length + 2 + lenI x.pre + lenI x.bld
def fitW (x : SemL) : Bool := decide (wrap64 (lenS x : Int) ≤ 64) && numB x.maj && numB x.min && numB x.pat && x.pre.all preB && x.bld.all idB
theorem qzp (a b : Int) : wrap64 (wrap64 a + b) = wrap64 (a + b) := by
 unfold wrap64;omega
theorem qbmt (a : Int) (h : -9223372036854775808 ≤ a ∧ a ≤ 9223372036854775807) : wrap64 a = a := by
 unfold wrap64;omega
theorem val_i {a b : Int} (h : a = b) : Value.int .i64 a = Value.int .i64 b := by rw [h]
theorem qwt (ts : List QB) : ∀ k (h : k < ts.length), lenI (ts.take (k + 1)) = lenI (ts.take k) + (1 + ts[k].length) := by
 induction ts with
 | nil => intro k h; simp at h
 | cons t r ih =>
  intro k h;cases k with
  | zero => simp [lenI]
  | succ k =>
   have := ih k (by simpa using h)
   simp only [List.take_succ_cons, lenI, List.getElem_cons_succ];omega
theorem qcbg (g : Nat) (P : QB → Bool) (hg : ∀ (t : QB) (w : World), t.length ≤ 9223372036854775806 → Calls Tryz.prog g #[.string (qg t)] w fun e w' => e = .returned (.bool (P t)) ∧ w' = w)
  (hgg : g = 69 ∨ g = 70) (v : Value) (ts : List QB) (w : World) (hv : Txt w v ts) (hs : qxd ts) :
  Calls Tryz.prog 68 #[v, .func (.func g) #[] #[]] w fun e w' => e = .returned (.bool (ts.all P)) ∧ w' = w := by
 obtain ⟨a1, c1, rfl, _⟩ := id hv;have HV := qb hv;have HS := qb hs;have ls := hs.1;have HG := qb hg;clear hv hs hg;rcases hgg with rfl | rfl
 all_goals
  go_enter Tryz.func68, Tryz.ntmps68
  (go_wp2_with fail);go_loop [9] (fun i => ∃ k : Nat, k ≤ ts.length ∧ i = .int .i64 k ∧ Hid (ts.all P = (ts.drop k).all P)) (fun i => ts.length - (intOf i).toNat)
  case atStart => exact ⟨0, by omega, rfl, by simp [Hid]⟩
  case round =>
   obtain ⟨k, hk, rfl, HR⟩ := hrel
   by_cases h1 : k < ts.length
   ·obtain ⟨b1, o1, rfl, hc1⟩ := HV.out.some (by omega)
    have p1 := hc1 k h1;clear hc1;have C := HG.out ts[k] w (HS.out.2 _ (List.getElem_mem _));have hX : (ts.drop k).all P = (P ts[k] && (ts.drop (k + 1)).all P) := by rw [List.drop_eq_getElem_cons h1, List.all_cons]
    generalize ts[k] = t at *;generalize P t = b at *;have HC := qb C;have HX := qb hX;clear C hX;cases b
    ·(go_wp2_with fail);refine HC.out.mono ?_;rintro e w' ⟨rfl, hw'⟩;rw [hw'];clear hw' w';(go_wp2_with fail);go_ret
     exact ⟨qdj (by rw [HR.out, HX.out]; rfl), rfl⟩
    ·(go_wp2_with fail);refine HC.out.mono ?_;rintro e w' ⟨rfl, hw'⟩;rw [hw'];clear hw' w';(go_wp2_with fail);go_round
     case rel => exact ⟨k + 1, by omega, by go_num, by rw [HR.out, HX.out]; simp [Hid]⟩
     case measure => simp [intOf]; omega
   ·(go_wp2_with fail);go_ret
    exact ⟨qdj (by rw [HR.out, List.drop_eq_nil_of_le (by omega)]; rfl), rfl⟩
theorem qbtg {W : World} {a : Option Addr} {n cap : Nat} {ts : List QB} (h : Txt W (.slice a n cap) ts) (hne : 0 < ts.length) :
  ∃ b off, a = some ⟨b, off, none⟩ ∧ b < W.heap.size ∧ ∀ i (h : i < ts.length), W.cell? ⟨b, off + i, none⟩ = some (.string (qg ts[i])) := by
 obtain ⟨a', cap', hv, h0 | ⟨b, off, ha, hlt, hc⟩⟩ := h
 ·subst h0; simp at hne
 ·cases hv;exact ⟨b, off, ha, hlt, hc⟩
theorem size_any (v : Value) (x : SemL) (w : World) (hv : qfd w v x) (sx : qct x) :
  Calls Tryz.prog 66 #[v] w fun e w' => e = .returned (.int .i64 (wrap64 (lenS x : Int))) ∧ Below w.heap.size w w' := by
 obtain ⟨p1, q1, rfl, t1, u1⟩ := hv;obtain ⟨a1, c1, rfl, _⟩ := id t1;obtain ⟨a2, c2, rfl, _⟩ := id u1;have T1 := qb t1;have U1 := qb u1;obtain ⟨s1, s2, s3, s4, s5⟩ := sx;have l4 := s4.1;have l5 := s5.1;have S4 := qb s4.2;have S5 := qb s5.2;clear t1 u1 s4 s5;have HN : Hid (wrap64 (wrap64 (wrap64 (((qg x.maj).size : Int) + ((qg x.min).size : Int)) + ((qg x.pat).size : Int)) + 2) = wrap64 ((x.maj.length + x.min.length + x.pat.length + 2 : Nat) : Int)) := by
  show _ = _;rw [qzp, show wrap64 (((qg x.maj).size : Int) + ((qg x.min).size : Int)) + ((qg x.pat).size : Int) + 2 = wrap64 (((qg x.maj).size : Int) + ((qg x.min).size : Int)) + (((qg x.pat).size : Int) + 2) by omega, qzp, qx, qx, qx]
  congr 1
 have HE : Hid (lenS x = x.maj.length + x.min.length + x.pat.length + 2 + lenI x.pre + lenI x.bld) := rfl;generalize lenS x = L at *;generalize x.maj.length + x.min.length + x.pat.length + 2 = B at *;go_enter Tryz.func66, Tryz.ntmps66
 (go_wp2_with fail);rw [HN.out];generalize hA : wrap64 (B : Int) = A at *;refine wp_loop_rounds 3 ?_;rw [rounds_succ];(go_wp2_with fail);go_loop [3, 32] (fun n i => ∃ k : Nat, k ≤ x.pre.length ∧ i = .int .i64 k ∧ n = .int .i64 (wrap64 ((B + lenI (x.pre.take k) : Nat) : Int))) (fun _ i => x.pre.length - (intOf i).toNat)
 case atStart => exact ⟨0, by omega, rfl, by rw [← hA]; simp [lenI]⟩
 case round =>
  obtain ⟨k, hk, rfl, rfl⟩ := hrel
  by_cases h1 : k < x.pre.length
  ·obtain ⟨b1, o1, rfl, hlt1, hc1⟩ := qbtg T1.out (by omega)
   have p1 := hc1 k h1;have hlt2 : b1 < w.heap.size + 1 := by omega
   clear hc1;have hl := S4.out _ (List.getElem_mem h1);have HX := qb (qwt x.pre k h1);generalize x.pre[k] = t at *;rw [← qx] at hl;(go_wp2_with fail);go_round
   case rel => exact ⟨k + 1, by omega, by go_num, val_i (by rw [qzp, HX.out, qx]; congr 1; omega)⟩
   case measure => simp [intOf]; omega
  ·have hK : lenI (x.pre.take k) = lenI x.pre := by rw [List.take_of_length_le (by omega)]
   rw [hK];clear hK;generalize hB2 : B + lenI x.pre = B2 at *;generalize hA2 : wrap64 (B2 : Int) = A2 at *;(go_wp2_with fail);rw [rounds_succ];(go_wp2_with fail);go_loop [3, 32] (fun n i => ∃ k : Nat, k ≤ x.bld.length ∧ i = .int .i64 k ∧ n = .int .i64 (wrap64 ((B2 + lenI (x.bld.take k) : Nat) : Int))) (fun _ i => x.bld.length - (intOf i).toNat)
   case atStart => exact ⟨0, by omega, rfl, by rw [← hA2]; simp [lenI]⟩
   case round =>
    obtain ⟨k, hk, rfl, rfl⟩ := hrel
    by_cases h2 : k < x.bld.length
    ·obtain ⟨b1, o1, rfl, hlt1, hc1⟩ := qbtg U1.out (by omega)
     have p1 := hc1 k h2;have hlt2 : b1 < w.heap.size + 1 := by omega
     clear hc1;have hl := S5.out _ (List.getElem_mem h2);have HX := qb (qwt x.bld k h2);generalize x.bld[k] = t at *;rw [← qx] at hl;(go_wp2_with fail);go_round
     case rel => exact ⟨k + 1, by omega, by go_num, val_i (by rw [qzp, HX.out, qx]; congr 1; omega)⟩
     case measure => simp [intOf]; omega
    ·have HK : Hid (L = B2 + lenI (x.bld.take k)) := by
      show _ = _;rw [HE.out, List.take_of_length_le (by omega)]
     (go_wp2_with fail);rw [rounds_succ];(go_wp2_with fail);go_ret
     exact ⟨qbn (by rw [HK.out]; rfl), ((Below.refl _ w).alloc (Nat.le_refl _) _).alloc (by simp) _⟩
theorem qbkk (a : QB) (w : World) (ha : a.length ≤ 9223372036854775806) :
  Calls Tryz.prog 67 #[.string (qg a)] w fun e w' => e = .returned (.bool (numB a)) ∧ w' = w := by
 have := qbmk (qg a) w (by rw [qx]; unfold maxLen; omega)
 rw [qj] at this;exact this
theorem pre_ofL (a : QB) (w : World) (ha : a.length ≤ 9223372036854775806) :
  Calls Tryz.prog 69 #[.string (qg a)] w fun e w' => e = .returned (.bool (preB a)) ∧ w' = w := by
 have := qbtq (qg a) w (by rw [qx]; exact ha)
 rw [qj] at this;exact this
theorem id_ofL (a : QB) (w : World) (ha : a.length ≤ 9223372036854775806) :
  Calls Tryz.prog 70 #[.string (qg a)] w fun e w' => e = .returned (.bool (idB a)) ∧ w' = w := by
 have := qpb (qg a) w (by rw [qx]; exact ha)
 rw [qj] at this;exact this
end Go.Proofs.YtpdlgiioahjhiaaGreat

namespace Go.Proofs.YtpdlgiioahjhiaaGreat
open Go.RowKit
open World renaming alloc_heap_new → qcgj
set_option linter.unusedVariables false
set_option maxHeartbeats 1000000
set_option maxRecDepth 100000
theorem qlc (v : Value) (x : SemL) (w : World) (hv : qfd w v x) (sx : qct x) :
  Calls Tryz.prog 35 #[v] w fun e w' => e = .returned (.bool (fitW x)) ∧ Below w.heap.size w w' := by
 have HS := qb (fun W (hW : Below w.heap.size w W) => size_any v x W (hv.below hW) sx);obtain ⟨p1, q1, rfl, t1, u1⟩ := hv;obtain ⟨a1, c1, rfl, hx1⟩ := id t1;obtain ⟨a2, c2, rfl, hx2⟩ := id u1;clear hx1 hx2;have C1 := qb (fun w => qbkk x.maj w sx.1);have C2 := qb (fun w => qbkk x.min w sx.2.1);have C3 := qb (fun w => qbkk x.pat w sx.2.2.1);have C4 := qb (fun W (hW : Below w.heap.size w W) => qcbg 69 preB pre_ofL (.inl rfl) _ x.pre W (t1.below hW) sx.2.2.2.1);have C5 := qb (fun W (hW : Below w.heap.size w W) => qcbg 70 idB id_ofL (.inr rfl) _ x.bld W (u1.below hW) sx.2.2.2.2);have HF : Hid (fitW x = (decide (wrap64 (lenS x : Int) ≤ 64) && numB x.maj && numB x.min && numB x.pat && x.pre.all preB && x.bld.all idB)) := rfl;generalize fitW x = F at *;generalize wrap64 (lenS x : Int) = N at *;generalize numB x.maj = d1 at *;generalize numB x.min = d2 at *;generalize numB x.pat = d3 at *;generalize x.pre.all preB = d4 at *;generalize x.bld.all idB = d5 at *;clear t1 u1 sx;have b0 : Below w.heap.size w (w.alloc (.cells #[.string (qg x.maj), .string (qg x.min), .string (qg x.pat), .slice a1 x.pre.length c1, .slice a2 x.bld.length c2] 33)) := (Below.refl _ w).alloc (Nat.le_refl _) _;generalize hNd : decide (N ≤ 64) = D at *;cases D;rotate_left
 ·cases d1
  ·go_enter Tryz.func35, Tryz.ntmps35
   (go_wp2_with fail);refine (HS.out _ b0).mono ?_;rintro e w1 ⟨rfl, b1⟩;have b2 : Below w.heap.size w w1 := b0.trans (b1.mono (by simp))
   have e1 := (b1.block w.heap.size (by simp)).trans (qcgj w _)
   have r0 := qd 0 e1 rfl;have r1 := qd 1 e1 rfl;have r2 := qd 2 e1 rfl;have r3 := qd 3 e1 rfl;have r4 := qd 4 e1 rfl;clear b1 e1;(go_wp2_with fail);refine (C1.out _).mono ?_;rintro e w' ⟨rfl, hw'⟩;rw [hw'];clear hw' w';(go_wp2_with fail);go_ret
   exact ⟨qdj (by rw [HF.out] <;> rfl), b2⟩
  ·cases d2
   ·go_enter Tryz.func35, Tryz.ntmps35
    (go_wp2_with fail);refine (HS.out _ b0).mono ?_;rintro e w1 ⟨rfl, b1⟩;have b2 : Below w.heap.size w w1 := b0.trans (b1.mono (by simp))
    have e1 := (b1.block w.heap.size (by simp)).trans (qcgj w _)
    have r0 := qd 0 e1 rfl;have r1 := qd 1 e1 rfl;have r2 := qd 2 e1 rfl;have r3 := qd 3 e1 rfl;have r4 := qd 4 e1 rfl;clear b1 e1;(go_wp2_with fail);refine (C1.out _).mono ?_;rintro e w' ⟨rfl, hw'⟩;rw [hw'];clear hw' w';(go_wp2_with fail);refine (C2.out _).mono ?_;rintro e w' ⟨rfl, hw'⟩;rw [hw'];clear hw' w';(go_wp2_with fail);go_ret
    exact ⟨qdj (by rw [HF.out] <;> rfl), b2⟩
   ·cases d3
    ·go_enter Tryz.func35, Tryz.ntmps35
     (go_wp2_with fail);refine (HS.out _ b0).mono ?_;rintro e w1 ⟨rfl, b1⟩;have b2 : Below w.heap.size w w1 := b0.trans (b1.mono (by simp))
     have e1 := (b1.block w.heap.size (by simp)).trans (qcgj w _)
     have r0 := qd 0 e1 rfl;have r1 := qd 1 e1 rfl;have r2 := qd 2 e1 rfl;have r3 := qd 3 e1 rfl;have r4 := qd 4 e1 rfl;clear b1 e1;(go_wp2_with fail);refine (C1.out _).mono ?_;rintro e w' ⟨rfl, hw'⟩;rw [hw'];clear hw' w';(go_wp2_with fail);refine (C2.out _).mono ?_;rintro e w' ⟨rfl, hw'⟩;rw [hw'];clear hw' w';(go_wp2_with fail);refine (C3.out _).mono ?_;rintro e w' ⟨rfl, hw'⟩;rw [hw'];clear hw' w';(go_wp2_with fail);go_ret
     exact ⟨qdj (by rw [HF.out] <;> rfl), b2⟩
    ·cases d4
     ·go_enter Tryz.func35, Tryz.ntmps35
      (go_wp2_with fail);refine (HS.out _ b0).mono ?_;rintro e w1 ⟨rfl, b1⟩;have b2 : Below w.heap.size w w1 := b0.trans (b1.mono (by simp))
      have e1 := (b1.block w.heap.size (by simp)).trans (qcgj w _)
      have r0 := qd 0 e1 rfl;have r1 := qd 1 e1 rfl;have r2 := qd 2 e1 rfl;have r3 := qd 3 e1 rfl;have r4 := qd 4 e1 rfl;clear b1 e1;(go_wp2_with fail);refine (C1.out _).mono ?_;rintro e w' ⟨rfl, hw'⟩;rw [hw'];clear hw' w';(go_wp2_with fail);refine (C2.out _).mono ?_;rintro e w' ⟨rfl, hw'⟩;rw [hw'];clear hw' w';(go_wp2_with fail);refine (C3.out _).mono ?_;rintro e w' ⟨rfl, hw'⟩;rw [hw'];clear hw' w';(go_wp2_with fail);refine (C4.out _ b2).mono ?_;rintro e w' ⟨rfl, hw'⟩;rw [hw'];clear hw' w';(go_wp2_with fail);go_ret
      exact ⟨qdj (by rw [HF.out] <;> rfl), b2⟩
     ·go_enter Tryz.func35, Tryz.ntmps35
      (go_wp2_with fail);refine (HS.out _ b0).mono ?_;rintro e w1 ⟨rfl, b1⟩;have b2 : Below w.heap.size w w1 := b0.trans (b1.mono (by simp))
      have e1 := (b1.block w.heap.size (by simp)).trans (qcgj w _)
      have r0 := qd 0 e1 rfl;have r1 := qd 1 e1 rfl;have r2 := qd 2 e1 rfl;have r3 := qd 3 e1 rfl;have r4 := qd 4 e1 rfl;clear b1 e1;(go_wp2_with fail);refine (C1.out _).mono ?_;rintro e w' ⟨rfl, hw'⟩;rw [hw'];clear hw' w';(go_wp2_with fail);refine (C2.out _).mono ?_;rintro e w' ⟨rfl, hw'⟩;rw [hw'];clear hw' w';(go_wp2_with fail);refine (C3.out _).mono ?_;rintro e w' ⟨rfl, hw'⟩;rw [hw'];clear hw' w';(go_wp2_with fail);refine (C4.out _ b2).mono ?_;rintro e w' ⟨rfl, hw'⟩;rw [hw'];clear hw' w';(go_wp2_with fail);refine (C5.out _ b2).mono ?_;rintro e w' ⟨rfl, hw'⟩;rw [hw'];clear hw' w';(go_wp2_with fail);go_ret
      exact ⟨qdj (by rw [HF.out] <;> rfl), b2⟩
 ·go_enter Tryz.func35, Tryz.ntmps35
  (go_wp2_with fail);refine (HS.out _ b0).mono ?_;rintro e w1 ⟨rfl, b1⟩;have b2 : Below w.heap.size w w1 := b0.trans (b1.mono (by simp))
  have e1 := (b1.block w.heap.size (by simp)).trans (qcgj w _)
  have r0 := qd 0 e1 rfl;have r1 := qd 1 e1 rfl;have r2 := qd 2 e1 rfl;have r3 := qd 3 e1 rfl;have r4 := qd 4 e1 rfl;clear b1 e1;(go_wp2_with fail);go_ret
  exact ⟨qdj (by rw [HF.out] <;> rfl), b2⟩
end Go.Proofs.YtpdlgiioahjhiaaGreat

namespace Go.Proofs.YtpdlgiioahjhiaaGreat
open Go.RowKit
set_option linter.unusedVariables false
set_option maxHeartbeats 1000000
set_option maxRecDepth 100000
def ordW (x y : SemL) : Int := if fitW x && fitW y then ordO x y else 0
theorem qcd {W : World} {B : Nat} {a b c d e : Value} (h : W.heap[B]? = some (.cells #[a, b, c, d, e] 33 (0, 0))) :
  W.cell? ⟨B, 0, none⟩ = some a ∧ W.cell? ⟨B, 1, none⟩ = some b ∧ W.cell? ⟨B, 2, none⟩ = some c ∧ W.cell? ⟨B, 3, none⟩ = some d ∧ W.cell? ⟨B, 4, none⟩ = some e :=
 ⟨qd 0 h rfl, qd 1 h rfl, qd 2 h rfl, qd 3 h rfl, qd 4 h rfl⟩
theorem qccg (va vb : Value) (x y : SemL) (w : World) (ha : qfd w va x) (hb : qfd w vb y) (sx : qct x) (sy : qct y) :
  Calls Tryz.prog 36 #[va, vb] w fun e w' => e = .returned (.int .i64 (ordW x y)) ∧ Below w.heap.size w w' := by
 have F1 := qb (fun W (hW : Below w.heap.size w W) => qlc va x W (ha.below hW) sx);have F2 := qb (fun W (hW : Below w.heap.size w W) => qlc vb y W (hb.below hW) sy);have OO := qb (fun W (hW : Below w.heap.size w W) => qbhl va vb x y W (ha.below hW) (hb.below hW) sx sy);have HO : Hid (ordW x y = if fitW x && fitW y then ordO x y else 0) := rfl;obtain ⟨p1, q1, rfl, t1, u1⟩ := ha;obtain ⟨p2, q2, rfl, t2, u2⟩ := hb;obtain ⟨a1, c1, rfl, y1⟩ := t1;obtain ⟨a2, c2, rfl, y2⟩ := t2;obtain ⟨a3, c3, rfl, y3⟩ := u1;obtain ⟨a4, c4, rfl, y4⟩ := u2;clear y1 y2 y3 y4 sx sy;generalize ordW x y = O at *;generalize ordO x y = o at *;generalize fitW x = f1 at *;generalize fitW y = f2 at *;have b0 : Below w.heap.size w ((w.alloc (.cells #[.string (qg x.maj), .string (qg x.min), .string (qg x.pat), .slice a1 x.pre.length c1, .slice a3 x.bld.length c3] 33)).alloc (.cells #[.string (qg y.maj), .string (qg y.min), .string (qg y.pat), .slice a2 y.pre.length c2, .slice a4 y.bld.length c4] 33)) := ((Below.refl _ w).alloc (Nat.le_refl _) _).alloc (by simp) _
 have k0 := World.alloc_heap_new w (.cells #[.string (qg x.maj), .string (qg x.min), .string (qg x.pat), .slice a1 x.pre.length c1, .slice a3 x.bld.length c3] 33);have k1 := World.alloc_heap_new (w.alloc (.cells #[.string (qg x.maj), .string (qg x.min), .string (qg x.pat), .slice a1 x.pre.length c1, .slice a3 x.bld.length c3] 33)) (.cells #[.string (qg y.maj), .string (qg y.min), .string (qg y.pat), .slice a2 y.pre.length c2, .slice a4 y.bld.length c4] 33);simp only [World.size_alloc] at k1;have k0' := (Below.heap_alloc (w.alloc (.cells #[.string (qg x.maj), .string (qg x.min), .string (qg x.pat), .slice a1 x.pre.length c1, .slice a3 x.bld.length c3] 33)) (.cells #[.string (qg y.maj), .string (qg y.min), .string (qg y.pat), .slice a2 y.pre.length c2, .slice a4 y.bld.length c4] 33) w.heap.size (by simp)).trans k0
 clear k0;cases f1
 ·go_enter Tryz.func36, Tryz.ntmps36
  (go_wp2_with fail);refine (F1.out _ b0).mono ?_;rintro e w1 ⟨rfl, b1⟩;clear k0' k1;(go_wp2_with fail);go_ret
  exact ⟨qbn (by rw [HO.out] <;> rfl), b0.trans (b1.mono (by simp; omega))⟩
 ·go_enter Tryz.func36, Tryz.ntmps36
  (go_wp2_with fail);refine (F1.out _ b0).mono ?_;rintro e w1 ⟨rfl, b1⟩;simp only [World.size_alloc] at b1;have e0 := (b1.block _ (by omega)).trans k0'
  have e1 := (b1.block _ (by omega)).trans k1
  obtain ⟨r0, r1, r2, r3, r4⟩ := qcd e0;obtain ⟨z0, z1, z2, z3, z4⟩ := qcd e1;have B1 := b0.trans (b1.mono (by omega))
  have E0 := qb e0;have E1 := qb e1;have l1 := (Array.getElem?_eq_some_iff.1 e1).1;clear k0' k1 e0 e1;(go_wp2_with fail);refine (F2.out _ B1).mono ?_;rintro e w2 ⟨rfl, b2⟩;have B2 := B1.trans (b2.mono (by omega))
  clear r0 r1 r2 r3 r4 z0 z1 z2 z3 z4;obtain ⟨r0, r1, r2, r3, r4⟩ := qcd ((b2.block _ (by omega)).trans E0.out)
  obtain ⟨z0, z1, z2, z3, z4⟩ := qcd ((b2.block _ (by omega)).trans E1.out)
  cases f2
  ·(go_wp2_with fail);go_ret
   exact ⟨qbn (by rw [HO.out] <;> rfl), B2⟩
  ·(go_wp2_with fail);refine (OO.out _ B2).mono ?_;rintro e w3 ⟨rfl, b3⟩;(go_wp2_with fail);go_ret
   have s2 := B2.size;exact ⟨qbn (by rw [HO.out] <;> rfl), B2.trans (b3.mono (by omega))⟩
end Go.Proofs.YtpdlgiioahjhiaaGreat
