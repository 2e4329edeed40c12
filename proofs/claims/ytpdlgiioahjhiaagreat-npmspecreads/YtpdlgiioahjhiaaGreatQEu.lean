/-
  Walks: the iterator over a from-to.
-/
import Derived.IntWalk
import Derived.Test.YtpdlgiioahjhiaaGreatQEt
namespace Go.Proofs.YtpdlgiioahjhiaaGreat
open Go.RowKit Go.Shelf
set_option linter.unusedVariables false

attribute [local go_sem] Oper.semAt_some

def Tri (b c d : Nat) (W W' : World) : Prop := W'.heap[b]? = W.heap[b]? ∧ W'.heap[c]? = W.heap[c]? ∧ W'.heap[d]? = W.heap[d]?
def toI (l : List UInt8) (e : Nat) : Item := ⟨(dashL l (blk l e + 1)).1, 87, (dashL l (blk l e + 1)).2.2, (dashL l (blk l e + 1)).2.1⟩
def ftL (l : List UInt8) (p : PartL) (e : Nat) : List Item :=
  ⟨p, 85, 0, (e : Int)⟩ :: toI l e :: (if (toI l e).err = 0 ∧ endsL l (blk l (toI l e).pos.toNat) = false then [⟨partN, 0, 10, (blk l (toI l e).pos.toNat : Int)⟩] else [])
theorem dash_ok {l : List UInt8} {a : Nat} (ha : a ≤ l.length) (h : (dashL l a).2.2 = 0) : ∃ e : Nat, (dashL l a).2.1 = (e : Int) ∧ e ≤ l.length := by
  unfold dashL at *
  split at h
  · exact absurd h (by show misL l.length a ≠ 0; unfold misL; split <;> decide)
  · rename_i hb
    rw [if_neg hb]
    obtain ⟨e, he, _, h2⟩ := rp_ok (blk_le ha) h
    exact ⟨e, he, h2⟩

set_option maxRecDepth 100000 in
set_option maxHeartbeats 4000000 in
theorem from1_in (n : Nat) (hn : 1 ≤ n) (l Bp Be Bs : Nat) (s : ByteArray) (p : PartL) (e : Nat) (av : Option Addr) (nv cv : Nat) (he : e ≤ s.size) (hs : s.size ≤ 256) (hd : blk s.data.toList e + 1 ≤ s.size)
    (J Jx : List (Item × Value) → World → Prop) (B0 : Nat) (hJ : AbidesFrom B0 J)
    (R Z : Nat) (hfr : CapA (fun b => R ≤ b ∧ b < Z) (.slice av nv cv)) (hY : ∀ pre x W0 W, J pre W0 → J pre W → Below W0.heap.size W0 W → CX R Z (ftL s.data.toList p e) pre x W0 W → YieldAt Fence.wide (n - 1) Tryz.prog l (encI x) W fun e W' =>
      (e = .returned (.bool true) ∧ x.1.err = 0 ∧ J (pre ++ [x]) W' ∧ Tri Bp Be Bs W W') ∨ (e = .returned (.bool false) ∧ Jx (pre ++ [x]) W'))
    (W : World) (hBp : W.heap[Bp]? = some (.cells #[.string (ofL p.maj), .string (ofL p.min), .string (ofL p.pat), .slice av nv cv, .slice none 0 0, .int .i64 (p.told : Int)] 54 (0, 0))) (hBe : Boxed W Be 3 (.int .i64 (e : Int))) (hBs : Boxed W Bs 9 (.string s)) (ht : Txt W (.slice av nv cv) p.pre) (hcp : Cap (.slice av nv cv)) (h0 : J [] W) :
    CallsIn Fence.wide n Tryz.prog 84 #[.func (.yield l) #[] #[], .pointer (some ⟨Bp, 0, none⟩), .pointer (some ⟨Be, 0, none⟩), .pointer (some ⟨Bs, 0, none⟩)] W fun r W' => (∃ v, r = .returned v) ∧
      ((∃ xs : List (Item × Value), xs.map Prod.fst = ftL s.data.toList p e ∧ J xs W') ∨ (∃ pre : List (Item × Value), pre.map Prod.fst <+: ftL s.data.toList p e ∧ Jx pre W')) := by
  have q0 := cell_at 0 hBp rfl
  have q1 := cell_at 1 hBp rfl
  have q2 := cell_at 2 hBp rfl
  have q3 := cell_at 3 hBp rfl
  have q4 := cell_at 4 hBp rfl
  have q5 := cell_at 5 hBp rfl
  have ce := hBe.cell
  have cs := hBs.cell
  have hP1 : [(⟨p, 85, 0, (e : Int)⟩ : Item)] <+: ftL s.data.toList p e := ⟨_, rfl⟩
  have hP2 : [(⟨p, 85, 0, (e : Int)⟩ : Item), toI s.data.toList e] <+: ftL s.data.toList p e := ⟨_, rfl⟩
  have Y1 : YieldAt Fence.wide (n - 1) Tryz.prog l #[.agg #[.string (ofL p.maj), .string (ofL p.min), .string (ofL p.pat), .slice av nv cv, .slice none 0 0, .int .i64 (p.told : Int), .func (.func 85) #[] #[], .int .i64 0], .int .i64 (e : Int)] W _ := hY [] (⟨p, 85, 0, (e : Int)⟩, .slice av nv cv) W W h0 h0 (Below.refl _ _) ⟨hP1, ht, hcp, .inl ⟨rfl, hfr⟩, _, _, _, rfl⟩
  obtain ⟨fn, tmps, assign, body, hy, hRd⟩ := Y1
  have R6 := hide (Run6 s e hs he (e : Int) rfl)
  have RT := hide (fun (z : Int) W (hz : z = (blk s.data.toList e : Int) + 1) => (by rw [hz]; exact readTo_any s (blk s.data.toList e + 1) W hs hd : Calls Tryz.prog 86 #[.string s, .int .i64 z] W (PartP W (dashL s.data.toList (blk s.data.toList e + 1)))))
  have hok := hide (fun h => dash_ok (l := s.data.toList) (a := blk s.data.toList e + 1) (by rw [len_data]; exact hd) h)
  have hF1 : (dashL s.data.toList (blk s.data.toList e + 1)).2.2 = 0 → endsL s.data.toList (blk s.data.toList (dashL s.data.toList (blk s.data.toList e + 1)).2.1.toNat) = true → ftL s.data.toList p e = [⟨p, 85, 0, (e : Int)⟩, toI s.data.toList e] := fun h1 h2 => by
    unfold ftL
    rw [if_neg (fun h => by have h3 := h.2; unfold toI at h3; dsimp only at h3; rw [h2] at h3; cases h3)]
  have hF2 : (dashL s.data.toList (blk s.data.toList e + 1)).2.2 = 0 → endsL s.data.toList (blk s.data.toList (dashL s.data.toList (blk s.data.toList e + 1)).2.1.toNat) = false → ftL s.data.toList p e = [⟨p, 85, 0, (e : Int)⟩, toI s.data.toList e, ⟨partN, 0, 10, (blk s.data.toList (dashL s.data.toList (blk s.data.toList e + 1)).2.1.toNat : Int)⟩] := fun h1 h2 => by
    unfold ftL
    rw [if_pos ⟨h1, h2⟩]
    rfl
  unfold toI at hP2 hF1 hF2
  generalize dashL s.data.toList (blk s.data.toList e + 1) = D at *
  obtain ⟨q, z, r⟩ := D
  dsimp only at hP2 hF1 hF2 hok RT
  have HF1 := hide hF1
  have HF2 := hide hF2
  have HP1 := hide hP1
  have HP2 := hide hP2
  clear hF1 hF2
  have hlb : blk s.data.toList e ≤ 256 := by omega
  have hwr : IntKind.i64.wrap ((blk s.data.toList e : Int) + 1) = (blk s.data.toList e : Int) + 1 := by rw [IntKind.wrap_i64]; omega
  clear hP1 hP2
  refine callsIn_of_wp Tryz.func84 rfl trivial ?_ rfl
  simp only [Tryz.ntmps84, List.size_toArray, List.length_cons, List.length_nil, Nat.reduceAdd, Nat.reduceSub, Array.replicate_succ, Array.replicate_zero, List.push_toArray, List.append_toArray, List.nil_append, List.cons_append]
  gi_wp2
  refine hRd.mono ?_
  rintro e' W5 (⟨rfl, _, hJ5, hT⟩ | ⟨rfl, hJx5⟩)
  case inr =>
    gi_wp2
    refine bodyPost_ret (results_none rfl _ _ _) rfl ?_
    exact ⟨⟨_, rfl⟩, .inr ⟨[(⟨p, 85, 0, (e : Int)⟩, .slice av nv cv)], HP1.out, hJx5⟩⟩
  have hBe5 : Boxed W5 Be 3 (.int .i64 (e : Int)) := hT.2.1.trans hBe
  have hBs5 : Boxed W5 Bs 9 (.string s) := hT.2.2.trans hBs
  have ce5 := hBe5.cell
  have cs5 := hBs5.cell
  have hBe6 : Boxed W5.drew Be 3 (.int .i64 (e : Int)) := boxed_below hBe5 (drew_below _ _)
  have hBs6 : Boxed W5.drew Bs 9 (.string s) := boxed_below hBs5 (drew_below _ _)
  have bA : Below W5.heap.size W5 (W5.alloc (.cells #[.string ⟨#[]⟩, .string ⟨#[]⟩, .string ⟨#[]⟩, .slice none 0 0, .slice none 0 0, .int .i64 0] 54)).drew := ((Below.refl _ W5).alloc (Nat.le_refl _) (.cells #[.string ⟨#[]⟩, .string ⟨#[]⟩, .string ⟨#[]⟩, .slice none 0 0, .slice none 0 0, .int .i64 0] 54)).trans (drew_below _ _)
  have hBe8 : Boxed (W5.alloc (.cells #[.string ⟨#[]⟩, .string ⟨#[]⟩, .string ⟨#[]⟩, .slice none 0 0, .slice none 0 0, .int .i64 0] 54)).drew Be 3 (.int .i64 (e : Int)) := boxed_below hBe5 bA
  have hBs8 : Boxed (W5.alloc (.cells #[.string ⟨#[]⟩, .string ⟨#[]⟩, .string ⟨#[]⟩, .slice none 0 0, .slice none 0 0, .int .i64 0] 54)).drew Bs 9 (.string s) := boxed_below hBs5 bA
  have n8 : (W5.alloc (.cells #[.string ⟨#[]⟩, .string ⟨#[]⟩, .string ⟨#[]⟩, .slice none 0 0, .slice none 0 0, .int .i64 0] 54)).drew.heap[W5.heap.size]? = some (.cells #[.string ⟨#[]⟩, .string ⟨#[]⟩, .string ⟨#[]⟩, .slice none 0 0, .slice none 0 0, .int .i64 0] 54) := drew_heap (World.alloc_heap_new W5 (.cells #[.string ⟨#[]⟩, .string ⟨#[]⟩, .string ⟨#[]⟩, .slice none 0 0, .slice none 0 0, .int .i64 0] 54))
  have hl8 := (Array.getElem?_eq_some_iff.1 n8).1
  have ce8 := hBe8.cell
  have cs8 := hBs8.cell
  have ne3 := World.new_ne W5 _ ce5
  have ne4 := World.new_ne W5 _ cs5
  dsimp only at ne3 ne4
  have NB8 := hide n8
  have HL8 := hide hl8
  clear q0 q1 q2 q3 q4 q5 ce cs hy hRd n8 hl8
  gi_wp2
  refine wpIn_wide.2 ?_
  go_region_held3 (fun W' => W'.cell? ⟨Be, 0, none⟩ = some (.int .i64 (e : Int)) ∧ W'.cell? ⟨Bs, 0, none⟩ = some (.string s)) (go_keep) ((first
    | (go_at_call 28; refine (R6.out _).mono ?_; rintro e9 w9 ⟨rfl, hw9⟩; rw [hw9]; clear hw9 w9)
    | (go_at_call 86; refine (RT.out _ _ rfl).mono ?_; rintro e9 w2 ⟨hb2, v2, rfl, t2, fr2, cp2, a2, n2, c2, rfl⟩; (first | (have hBe7 := boxed_below hBe6 hb2; have hBs7 := boxed_below hBs6 hb2; have hW2 : Below W5.heap.size W5 w2 := (drew_below _ W5).trans (hb2.mono (Nat.le_refl _))) | (have hW2 : Below W5.heap.size W5 w2 := bA.trans (hb2.mono bA.size); have hBe7 := boxed_below hBe8 hb2; have hBs7 := boxed_below hBs8 hb2; have z2 := (hb2.block _ HL8.out).trans NB8.out; have k0 := cell_at 0 z2 rfl; have k1 := cell_at 1 z2 rfl; have k2 := cell_at 2 z2 rfl; have k3 := cell_at 3 z2 rfl; have k4 := cell_at 4 z2 rfl; have k5 := cell_at 5 z2 rfl; have o0 := one_free 0 z2; have o1 := one_free 1 z2; have o2 := one_free 2 z2; have o3 := one_free 3 z2; have o4 := one_free 4 z2; have o5 := one_free 5 z2)); have ce7 := hBe7.cell; have cs7 := hBs7.cell; have ne1 := World.new_ne w2 _ ce7; have ne2 := World.new_ne w2 _ cs7; dsimp only at ne1 ne2; unfold partW)
    | fail))
  · have hq := World.alloc_heap_new w2 (.cells #[.string (ofL q.maj), .string (ofL q.min), .string (ofL q.pat), .slice a2 n2 c2, .slice none 0 0, .int .i64 (q.told : Int)] 54)
    have hV := hW2.alloc hW2.size (.cells #[.string (ofL q.maj), .string (ofL q.min), .string (ofL q.pat), .slice a2 n2 c2, .slice none 0 0, .int .i64 (q.told : Int)] 54)
    have tV := t2.below ((Below.refl _ w2).alloc (Nat.le_refl _) (.cells #[.string (ofL q.maj), .string (ofL q.min), .string (ofL q.pat), .slice a2 n2 c2, .slice none 0 0, .int .i64 (q.told : Int)] 54))
    generalize w2.alloc (.cells #[.string (ofL q.maj), .string (ofL q.min), .string (ofL q.pat), .slice a2 n2 c2, .slice none 0 0, .int .i64 (q.told : Int)] 54) = V at *
    generalize w2.heap.size = B5 at *
    have HV := hide hV
    have FR := hide (fresh_mono fr2 (Nat.le_refl W5.heap.size))
    clear hV fr2 ce7 cs7 ne1 ne2 ne3 ne4 ce8 cs8 hBe6 hBs6 hBe7 hBs7 hBe8 hBs8 bA NB8 HL8 ce5 cs5 hwr
    have hBe9 := boxed_below hBe5 HV.out
    have hBs9 := boxed_below hBs5 HV.out
    have cs9 := hBs9.cell
    have m0 := cell_at 0 hq rfl
    have m1 := cell_at 1 hq rfl
    have m2 := cell_at 2 hq rfl
    have m3 := cell_at 3 hq rfl
    have m4 := cell_at 4 hq rfl
    have m5 := cell_at 5 hq rfl
    have hJ9 := hJ _ W5 V none hJ5 (grown_below HV.out) (fun r e => by cases e)
    have Y2 : YieldAt Fence.wide (n - 1) Tryz.prog l #[.agg #[.string (ofL q.maj), .string (ofL q.min), .string (ofL q.pat), .slice a2 n2 c2, .slice none 0 0, .int .i64 (q.told : Int), .func (.func 87) #[] #[], .int .i64 r], .int .i64 z] V _ := hY [(⟨p, 85, 0, (e : Int)⟩, .slice av nv cv)] (⟨q, 87, r, z⟩, .slice a2 n2 c2) W5 V hJ5 hJ9 HV.out ⟨HP2.out, tV, cp2, .inr FR.out, _, _, _, rfl⟩
    obtain ⟨fn2, tmps2, assign2, body2, hy2, hRd2⟩ := Y2
    try dsimp only
    gi_wp2
    refine hRd2.mono ?_
    rintro e7 W7 (⟨rfl, herr, hJ7, hT7⟩ | ⟨rfl, hJx7⟩)
    case inr =>
      gi_wp2
      refine bodyPost_ret (results_none rfl _ _ _) rfl ?_
      exact ⟨⟨_, rfl⟩, .inr ⟨[(⟨p, 85, 0, (e : Int)⟩, .slice av nv cv), (⟨q, 87, r, z⟩, .slice a2 n2 c2)], HP2.out, hJx7⟩⟩
    obtain ⟨e2, hz, hel⟩ := hok.out herr
    rw [len_data] at hel
    have hBs10 : Boxed W7 Bs 9 (.string s) := hT7.2.2.trans hBs9
    have cs10 := hBs10.cell
    have hle := blk_le (l := s.data.toList) (a := e2) (by rw [len_data]; exact hel)
    rw [len_data] at hle
    have R7 := hide (Run6 s e2 hs hel z hz)
    have CE := fun w => setEnds_any s (blk s.data.toList e2) w hle
    have HG1 := hide (HF1.out herr)
    have HG2 := hide (HF2.out herr)
    rw [show z.toNat = e2 by rw [hz]; exact Int.toNat_natCast _] at HG1 HG2
    have HZ := hide hz
    clear m0 m1 m2 m3 m4 m5 hy2 hRd2 cs9 hz
    generalize blk s.data.toList e2 = d at *
    cases hE : endsL s.data.toList d
    · rw [hE] at CE
      have CE := hide CE
      have HL := hide (HG2.out hE)
      have hJ7' := hide hJ7
      have Y3 : YieldAt Fence.wide (n - 1) Tryz.prog l #[.agg #[.string ⟨#[]⟩, .string ⟨#[]⟩, .string ⟨#[]⟩, .slice none 0 0, .slice none 0 0, .int .i64 0, .nilFunc, .int .i64 10], .int .i64 (d : Int)] W7 _ := hY [(⟨p, 85, 0, (e : Int)⟩, .slice av nv cv), (⟨q, 87, r, z⟩, .slice a2 n2 c2)] (⟨partN, 0, 10, (d : Int)⟩, .slice none 0 0) W7 W7 hJ7 hJ7 (Below.refl _ _) ⟨by rw [HL.out]; exact List.prefix_refl _, txt_nil _, capN (txt_nil W7), .inr (by rintro a i c h; cases h), _, _, _, rfl⟩
      obtain ⟨fn3, tmps3, assign3, body3, hy3, hRd3⟩ := Y3
      clear hE
      gi_wp2
      refine ⟨trivial, (callsIn_wide.2 (R7.out _)).mono ?_⟩
      rintro e9 w9 ⟨rfl, hw9⟩
      rw [hw9]; clear hw9 w9
      gi_wp2
      refine ⟨trivial, (callsIn_wide.2 (CE.out _)).mono ?_⟩
      rintro e9 w9 ⟨rfl, hw9⟩
      rw [hw9]; clear hw9 w9
      gi_wp2
      refine hRd3.mono ?_
      rintro e8 W8 (⟨rfl, h10, _⟩ | ⟨rfl, hJx8⟩)
      · cases h10
      · gi_wp2
        refine bodyPost_end (results_none rfl _ _ _) rfl ?_
        exact ⟨⟨_, rfl⟩, .inr ⟨[(⟨p, 85, 0, (e : Int)⟩, .slice av nv cv), (⟨q, 87, r, z⟩, .slice a2 n2 c2), (⟨partN, 0, 10, (d : Int)⟩, .slice none 0 0)], by rw [HL.out]; exact List.prefix_refl _, hJx8⟩⟩
    · rw [hE] at CE
      have CE := hide CE
      have HL := hide (HG1.out hE)
      clear hE
      gi_wp2
      refine ⟨trivial, (callsIn_wide.2 (R7.out _)).mono ?_⟩
      rintro e9 w9 ⟨rfl, hw9⟩
      rw [hw9]; clear hw9 w9
      gi_wp2
      refine ⟨trivial, (callsIn_wide.2 (CE.out _)).mono ?_⟩
      rintro e9 w9 ⟨rfl, hw9⟩
      rw [hw9]; clear hw9 w9
      gi_wp2
      refine bodyPost_end (results_none rfl _ _ _) rfl ?_
      exact ⟨⟨_, rfl⟩, .inl ⟨[(⟨p, 85, 0, (e : Int)⟩, .slice av nv cv), (⟨q, 87, r, z⟩, .slice a2 n2 c2)], HL.out.symm, hJ7⟩⟩
  · have hq := put6 (.string (ofL q.maj)) (.string (ofL q.min)) (.string (ofL q.pat)) (.slice a2 n2 c2) (.slice none 0 0) (.int .i64 (q.told : Int)) z2
    have hV := below6 hW2 (.string (ofL q.maj)) (.string (ofL q.min)) (.string (ofL q.pat)) (.slice a2 n2 c2) (.slice none 0 0) (.int .i64 (q.told : Int))
    have tV := txt6 t2 fr2 (B := W5.heap.size) HL8.out (.string (ofL q.maj)) (.string (ofL q.min)) (.string (ofL q.pat)) (.slice a2 n2 c2) (.slice none 0 0) (.int .i64 (q.told : Int))
    generalize ((((((w2.setCell ⟨W5.heap.size, 0, none⟩ (.string (ofL q.maj))).setCell ⟨W5.heap.size, 1, none⟩ (.string (ofL q.min))).setCell ⟨W5.heap.size, 2, none⟩ (.string (ofL q.pat))).setCell ⟨W5.heap.size, 3, none⟩ (.slice a2 n2 c2)).setCell ⟨W5.heap.size, 4, none⟩ (.slice none 0 0)).setCell ⟨W5.heap.size, 5, none⟩ (.int .i64 (q.told : Int))) = V at *
    have HV := hide hV
    have FR := hide (fresh_mono fr2 (Nat.le_of_lt HL8.out))
    clear hV fr2 z2 k0 k1 k2 k3 k4 k5 o0 o1 o2 o3 o4 o5 ce7 cs7 ne1 ne2 ne3 ne4 ce8 cs8 hBe6 hBs6 hBe7 hBs7 hBe8 hBs8 bA NB8 HL8 ce5 cs5 hwr
    generalize W5.heap.size = B5 at hq ⊢
    have hBe9 := boxed_below hBe5 HV.out
    have hBs9 := boxed_below hBs5 HV.out
    have cs9 := hBs9.cell
    have m0 := cell_at 0 hq rfl
    have m1 := cell_at 1 hq rfl
    have m2 := cell_at 2 hq rfl
    have m3 := cell_at 3 hq rfl
    have m4 := cell_at 4 hq rfl
    have m5 := cell_at 5 hq rfl
    have hJ9 := hJ _ W5 V none hJ5 (grown_below HV.out) (fun r e => by cases e)
    have Y2 : YieldAt Fence.wide (n - 1) Tryz.prog l #[.agg #[.string (ofL q.maj), .string (ofL q.min), .string (ofL q.pat), .slice a2 n2 c2, .slice none 0 0, .int .i64 (q.told : Int), .func (.func 87) #[] #[], .int .i64 r], .int .i64 z] V _ := hY [(⟨p, 85, 0, (e : Int)⟩, .slice av nv cv)] (⟨q, 87, r, z⟩, .slice a2 n2 c2) W5 V hJ5 hJ9 HV.out ⟨HP2.out, tV, cp2, .inr FR.out, _, _, _, rfl⟩
    obtain ⟨fn2, tmps2, assign2, body2, hy2, hRd2⟩ := Y2
    try dsimp only
    gi_wp2
    refine hRd2.mono ?_
    rintro e7 W7 (⟨rfl, herr, hJ7, hT7⟩ | ⟨rfl, hJx7⟩)
    case inr =>
      gi_wp2
      refine bodyPost_ret (results_none rfl _ _ _) rfl ?_
      exact ⟨⟨_, rfl⟩, .inr ⟨[(⟨p, 85, 0, (e : Int)⟩, .slice av nv cv), (⟨q, 87, r, z⟩, .slice a2 n2 c2)], HP2.out, hJx7⟩⟩
    obtain ⟨e2, hz, hel⟩ := hok.out herr
    rw [len_data] at hel
    have hBs10 : Boxed W7 Bs 9 (.string s) := hT7.2.2.trans hBs9
    have cs10 := hBs10.cell
    have hle := blk_le (l := s.data.toList) (a := e2) (by rw [len_data]; exact hel)
    rw [len_data] at hle
    have R7 := hide (Run6 s e2 hs hel z hz)
    have CE := fun w => setEnds_any s (blk s.data.toList e2) w hle
    have HG1 := hide (HF1.out herr)
    have HG2 := hide (HF2.out herr)
    rw [show z.toNat = e2 by rw [hz]; exact Int.toNat_natCast _] at HG1 HG2
    have HZ := hide hz
    clear m0 m1 m2 m3 m4 m5 hy2 hRd2 cs9 hz
    generalize blk s.data.toList e2 = d at *
    cases hE : endsL s.data.toList d
    · rw [hE] at CE
      have CE := hide CE
      have HL := hide (HG2.out hE)
      have hJ7' := hide hJ7
      have Y3 : YieldAt Fence.wide (n - 1) Tryz.prog l #[.agg #[.string ⟨#[]⟩, .string ⟨#[]⟩, .string ⟨#[]⟩, .slice none 0 0, .slice none 0 0, .int .i64 0, .nilFunc, .int .i64 10], .int .i64 (d : Int)] W7 _ := hY [(⟨p, 85, 0, (e : Int)⟩, .slice av nv cv), (⟨q, 87, r, z⟩, .slice a2 n2 c2)] (⟨partN, 0, 10, (d : Int)⟩, .slice none 0 0) W7 W7 hJ7 hJ7 (Below.refl _ _) ⟨by rw [HL.out]; exact List.prefix_refl _, txt_nil _, capN (txt_nil W7), .inr (by rintro a i c h; cases h), _, _, _, rfl⟩
      obtain ⟨fn3, tmps3, assign3, body3, hy3, hRd3⟩ := Y3
      clear hE
      gi_wp2
      refine ⟨trivial, (callsIn_wide.2 (R7.out _)).mono ?_⟩
      rintro e9 w9 ⟨rfl, hw9⟩
      rw [hw9]; clear hw9 w9
      gi_wp2
      refine ⟨trivial, (callsIn_wide.2 (CE.out _)).mono ?_⟩
      rintro e9 w9 ⟨rfl, hw9⟩
      rw [hw9]; clear hw9 w9
      gi_wp2
      refine hRd3.mono ?_
      rintro e8 W8 (⟨rfl, h10, _⟩ | ⟨rfl, hJx8⟩)
      · cases h10
      · gi_wp2
        refine bodyPost_end (results_none rfl _ _ _) rfl ?_
        exact ⟨⟨_, rfl⟩, .inr ⟨[(⟨p, 85, 0, (e : Int)⟩, .slice av nv cv), (⟨q, 87, r, z⟩, .slice a2 n2 c2), (⟨partN, 0, 10, (d : Int)⟩, .slice none 0 0)], by rw [HL.out]; exact List.prefix_refl _, hJx8⟩⟩
    · rw [hE] at CE
      have CE := hide CE
      have HL := hide (HG1.out hE)
      clear hE
      gi_wp2
      refine ⟨trivial, (callsIn_wide.2 (R7.out _)).mono ?_⟩
      rintro e9 w9 ⟨rfl, hw9⟩
      rw [hw9]; clear hw9 w9
      gi_wp2
      refine ⟨trivial, (callsIn_wide.2 (CE.out _)).mono ?_⟩
      rintro e9 w9 ⟨rfl, hw9⟩
      rw [hw9]; clear hw9 w9
      gi_wp2
      refine bodyPost_end (results_none rfl _ _ _) rfl ?_
      exact ⟨⟨_, rfl⟩, .inl ⟨[(⟨p, 85, 0, (e : Int)⟩, .slice av nv cv), (⟨q, 87, r, z⟩, .slice a2 n2 c2)], HL.out.symm, hJ7⟩⟩
  · have hq := put6 (.string (ofL q.maj)) (.string (ofL q.min)) (.string (ofL q.pat)) (.slice a2 n2 c2) (.slice none 0 0) (.int .i64 (q.told : Int)) z2
    have hV := below6 hW2 (.string (ofL q.maj)) (.string (ofL q.min)) (.string (ofL q.pat)) (.slice a2 n2 c2) (.slice none 0 0) (.int .i64 (q.told : Int))
    have tV := txt6 t2 fr2 (B := W5.heap.size) HL8.out (.string (ofL q.maj)) (.string (ofL q.min)) (.string (ofL q.pat)) (.slice a2 n2 c2) (.slice none 0 0) (.int .i64 (q.told : Int))
    generalize ((((((w2.setCell ⟨W5.heap.size, 0, none⟩ (.string (ofL q.maj))).setCell ⟨W5.heap.size, 1, none⟩ (.string (ofL q.min))).setCell ⟨W5.heap.size, 2, none⟩ (.string (ofL q.pat))).setCell ⟨W5.heap.size, 3, none⟩ (.slice a2 n2 c2)).setCell ⟨W5.heap.size, 4, none⟩ (.slice none 0 0)).setCell ⟨W5.heap.size, 5, none⟩ (.int .i64 (q.told : Int))) = V at *
    have HV := hide hV
    have FR := hide (fresh_mono fr2 (Nat.le_of_lt HL8.out))
    clear hV fr2 z2 k0 k1 k2 k3 k4 k5 o0 o1 o2 o3 o4 o5 ce7 cs7 ne1 ne2 ne3 ne4 ce8 cs8 hBe6 hBs6 hBe7 hBs7 hBe8 hBs8 bA NB8 HL8 ce5 cs5 hwr
    generalize W5.heap.size = B5 at hq ⊢
    have hBe9 := boxed_below hBe5 HV.out
    have hBs9 := boxed_below hBs5 HV.out
    have cs9 := hBs9.cell
    have m0 := cell_at 0 hq rfl
    have m1 := cell_at 1 hq rfl
    have m2 := cell_at 2 hq rfl
    have m3 := cell_at 3 hq rfl
    have m4 := cell_at 4 hq rfl
    have m5 := cell_at 5 hq rfl
    have hJ9 := hJ _ W5 V none hJ5 (grown_below HV.out) (fun r e => by cases e)
    have Y2 : YieldAt Fence.wide (n - 1) Tryz.prog l #[.agg #[.string (ofL q.maj), .string (ofL q.min), .string (ofL q.pat), .slice a2 n2 c2, .slice none 0 0, .int .i64 (q.told : Int), .func (.func 87) #[] #[], .int .i64 r], .int .i64 z] V _ := hY [(⟨p, 85, 0, (e : Int)⟩, .slice av nv cv)] (⟨q, 87, r, z⟩, .slice a2 n2 c2) W5 V hJ5 hJ9 HV.out ⟨HP2.out, tV, cp2, .inr FR.out, _, _, _, rfl⟩
    obtain ⟨fn2, tmps2, assign2, body2, hy2, hRd2⟩ := Y2
    try dsimp only
    gi_wp2
    refine hRd2.mono ?_
    rintro e7 W7 (⟨rfl, herr, hJ7, hT7⟩ | ⟨rfl, hJx7⟩)
    case inr =>
      gi_wp2
      refine bodyPost_ret (results_none rfl _ _ _) rfl ?_
      exact ⟨⟨_, rfl⟩, .inr ⟨[(⟨p, 85, 0, (e : Int)⟩, .slice av nv cv), (⟨q, 87, r, z⟩, .slice a2 n2 c2)], HP2.out, hJx7⟩⟩
    obtain ⟨e2, hz, hel⟩ := hok.out herr
    rw [len_data] at hel
    have hBs10 : Boxed W7 Bs 9 (.string s) := hT7.2.2.trans hBs9
    have cs10 := hBs10.cell
    have hle := blk_le (l := s.data.toList) (a := e2) (by rw [len_data]; exact hel)
    rw [len_data] at hle
    have R7 := hide (Run6 s e2 hs hel z hz)
    have CE := fun w => setEnds_any s (blk s.data.toList e2) w hle
    have HG1 := hide (HF1.out herr)
    have HG2 := hide (HF2.out herr)
    rw [show z.toNat = e2 by rw [hz]; exact Int.toNat_natCast _] at HG1 HG2
    have HZ := hide hz
    clear m0 m1 m2 m3 m4 m5 hy2 hRd2 cs9 hz
    generalize blk s.data.toList e2 = d at *
    cases hE : endsL s.data.toList d
    · rw [hE] at CE
      have CE := hide CE
      have HL := hide (HG2.out hE)
      have hJ7' := hide hJ7
      have Y3 : YieldAt Fence.wide (n - 1) Tryz.prog l #[.agg #[.string ⟨#[]⟩, .string ⟨#[]⟩, .string ⟨#[]⟩, .slice none 0 0, .slice none 0 0, .int .i64 0, .nilFunc, .int .i64 10], .int .i64 (d : Int)] W7 _ := hY [(⟨p, 85, 0, (e : Int)⟩, .slice av nv cv), (⟨q, 87, r, z⟩, .slice a2 n2 c2)] (⟨partN, 0, 10, (d : Int)⟩, .slice none 0 0) W7 W7 hJ7 hJ7 (Below.refl _ _) ⟨by rw [HL.out]; exact List.prefix_refl _, txt_nil _, capN (txt_nil W7), .inr (by rintro a i c h; cases h), _, _, _, rfl⟩
      obtain ⟨fn3, tmps3, assign3, body3, hy3, hRd3⟩ := Y3
      clear hE
      gi_wp2
      refine ⟨trivial, (callsIn_wide.2 (R7.out _)).mono ?_⟩
      rintro e9 w9 ⟨rfl, hw9⟩
      rw [hw9]; clear hw9 w9
      gi_wp2
      refine ⟨trivial, (callsIn_wide.2 (CE.out _)).mono ?_⟩
      rintro e9 w9 ⟨rfl, hw9⟩
      rw [hw9]; clear hw9 w9
      gi_wp2
      refine hRd3.mono ?_
      rintro e8 W8 (⟨rfl, h10, _⟩ | ⟨rfl, hJx8⟩)
      · cases h10
      · gi_wp2
        refine bodyPost_end (results_none rfl _ _ _) rfl ?_
        exact ⟨⟨_, rfl⟩, .inr ⟨[(⟨p, 85, 0, (e : Int)⟩, .slice av nv cv), (⟨q, 87, r, z⟩, .slice a2 n2 c2), (⟨partN, 0, 10, (d : Int)⟩, .slice none 0 0)], by rw [HL.out]; exact List.prefix_refl _, hJx8⟩⟩
    · rw [hE] at CE
      have CE := hide CE
      have HL := hide (HG1.out hE)
      clear hE
      gi_wp2
      refine ⟨trivial, (callsIn_wide.2 (R7.out _)).mono ?_⟩
      rintro e9 w9 ⟨rfl, hw9⟩
      rw [hw9]; clear hw9 w9
      gi_wp2
      refine ⟨trivial, (callsIn_wide.2 (CE.out _)).mono ?_⟩
      rintro e9 w9 ⟨rfl, hw9⟩
      rw [hw9]; clear hw9 w9
      gi_wp2
      refine bodyPost_end (results_none rfl _ _ _) rfl ?_
      exact ⟨⟨_, rfl⟩, .inl ⟨[(⟨p, 85, 0, (e : Int)⟩, .slice av nv cv), (⟨q, 87, r, z⟩, .slice a2 n2 c2)], HL.out.symm, hJ7⟩⟩

end Go.Proofs.YtpdlgiioahjhiaaGreat
