/- Walks: chapter 8's examples. -/
import Derived.Test.YtpdlgiioahjhiaaGreatPEzg
namespace Go.Proofs.YtpdlgiioahjhiaaGreat
open Go.RowKit Go.Shelf
set_option linter.unusedVariables false
set_option maxHeartbeats 8000000
set_option maxRecDepth 100000
def qtx (l : List (List Comp)) : QB := if l.all (fun cs => (setT cs).2) = true then Lib.join (l.map (fun cs => (setT cs).1)) [32, 124, 124, 32] else []
theorem qbpx (l : List (List Comp)) (v : Value) (w : World) (hv : qnp w v l) (hs : ∀ cs ∈ l, cs.length ≤ 2000000 ∧ ∀ c ∈ cs, lenS c.2 ≤ 1048576) (hln : l.length ≤ 2000000) (hJ : (Lib.join (l.map (fun cs => (setT cs).1)) [32, 124, 124, 32]).length ≤ 140737488355328) :
  Calls Tryz.prog 13 #[v] w fun e w' => e = .returned (.string (qg (qtx l))) ∧ Below w.heap.size w w' := by
 obtain ⟨a, k, rfl, hc0⟩ := id hv;obtain ⟨i0, hi, hz0, hz1, hz2⟩ := info_parts Tryz.info9;obtain ⟨n, hn⟩ : ∃ n, l.length = n := ⟨_, rfl⟩;have hX : qtx l = if l.all (fun cs => (setT cs).2) = true then Lib.join (l.map (fun cs => (setT cs).1)) [32, 124, 124, 32] else [] := rfl;rw [hn] at hv hln ⊢;have HN := qb hn;have HV := qb hv;have HSC := qb hs;have HJ := qb hJ;generalize qtx l = X at *;have HX := qb hX;clear hn hv hc0 hs hX hJ;go_enter Tryz.func13, Tryz.ntmps13
 (go_wp2_with fail);go_loopw [3, 10] (fun z j wr => ∃ (i : Nat) (ao : Option Addr) (cv : Nat), i ≤ n ∧ z = .slice ao i cv ∧ j = .int .i64 i ∧ Hid (Below w.heap.size w wr) ∧ Hid (wr.ownsRow w.heap.size 9 1 (.slice ao i cv) i (txsN ((l.take i).map (fun cs => (setT cs).1)))) ∧ Hid ((l.take i).all (fun cs => (setT cs).2) = true)) (fun _ j _ => n - (intOf j).toNat)
 case atStart => exact ⟨0, none, 0, by omega, rfl, rfl, Below.refl _ _, World.ownsRow_nil _ _ _ _, rfl⟩
 case round =>
  obtain ⟨i, ao, cv, hin, rfl, rfl, HB, HO, HA⟩ := hrel
  by_cases hlt : i < n
  ·have hlt' : (i : Int) < (n : Int) := by omega
   have i1 : i < l.length := by rw [HN.out]; exact hlt
   obtain ⟨a', k', hv', h0 | ⟨b, o, rfl, hbl, hrow⟩⟩ := HV.out.below HB.out
   ·exfalso;rw [h0] at i1;simp at i1
   ·cases hv';obtain ⟨u, d0, hcs⟩ := hrow i i1;have sc := HSC.out l[i] (List.getElem_mem i1);have h1 := qrv (f := fun cs => (setT cs).2) l i i1 HA.out;have h3 : l.all (fun cs => (setT cs).2) = true → (setT l[i]).2 = true := fun h => List.all_eq_true.1 h _ (List.getElem_mem i1);have h4 : (l.take (i + 1)).map (fun cs => (setT cs).1) = (l.take i).map (fun cs => (setT cs).1) ++ [(setT l[i]).1] := by rw [List.take_succ_eq_append_getElem i1, List.map_append]; rfl
    have FS := qb (qbgt l[i] u wr hcs sc.2 sc.1);obtain ⟨au, ku, rfl, hzz⟩ := id hcs;clear hzz;have H1 := qb h1;have H3 := qb h3;have H4 := qb h4;clear h1 h3 h4 hrow hcs sc
    try dsimp only at H1
    generalize setT l[i] = st at *;generalize l[i].length = m at *;clear i1;obtain ⟨T, ok⟩ := st;dsimp only at *;(go_wp2_with fail);refine FS.out.mono ?_;rintro e W3 ⟨rfl, b3⟩;have HB2 := qb (HB.out.trans (b3.mono HB.out.size));have HO2 := qb (qpz HO.out b3);clear b3 HB HO FS d0;cases ok with
    | false =>
     have hX : X = [] := by
      rw [HX.out, if_neg];intro h;exact absurd (H3.out h) (by simp)
     have HX3 := qb hX;clear hX;(go_wp2_with fail);go_ret
     exact ⟨by rw [HX3.out]; rfl, HB2.out⟩
    | true =>
     have hbase : w.heap.size ≤ W3.heap.size := HB2.out.size;go_wp2_with (at_builtin; refine wpList_append_own _ rfl _ _ 31 rfl w.heap.size 9 i0 (.string .empty) 1 16 Tryz.underlying31 hi hz0 hz1 hz2 rfl (by decide) _ _ _ rfl (HO2.out.alloc _) ⟨W3.heap.size, 0, none⟩ 1 1 [.string (qg T)] rfl rfl (by intro j u hj; match j, hj with | 0, hj => simp at hj; subst hj; simp [Addr.add]) (by intro u hu; simp at hu; subst hu; rfl) (by unfold maxLen; omega) (by omega) (by simp; omega) ?_; intro v' w5 hown' hgrow _; obtain ⟨g', cap', rfl⟩ := ownsRow_succ hown')
     have HO3 : Hid (w5.ownsRow w.heap.size 9 1 (.slice (some ⟨g', 0, none⟩) (i + 1) cap') (i + 1) (txsN ((l.take (i + 1)).map (fun cs => (setT cs).1)))) := by
      show World.ownsRow _ _ _ _ _ _ _;rw [H4.out, qbjc];exact hown'
     have HB3 := qb (((HB2.out.alloc HB2.out.size _).grown hgrow (by simp; omega) (fun k hk => (HO2.out.lt k hk).1)))
     clear hown' hgrow;(go_wp2_with fail);go_roundw
     case rel => exact ⟨i + 1, _, cap', by omega, rfl, by go_num, HB3, HO3, by show _ = _; rw [H1.out]⟩
     case measure => simp [intOf]; omega
  ·have hlt' : ¬ (i : Int) < (n : Int) := by omega
   have hin2 : i = n := by omega
   have hA := HA.out;have hO := HO.out;rw [List.take_of_length_le (by rw [HN.out]; omega)] at hA hO
   have hX : X = Lib.join (l.map (fun cs => (setT cs).1)) [32, 124, 124, 32] := by rw [HX.out, if_pos hA]
   have HX3 := qb hX;have JN := qb (fun W hW hc => qbjg ⟨#[32, 124, 124, 32]⟩ (.slice ao i cv) (l.map (fun cs => (setT cs).1)) W hW hc (by rw [List.length_map, HN.out]; omega) HJ.out)
   have HT := qb (qbrl (by rw [List.length_map, HN.out]; omega) hO)
   have HCP := qb (qsd hO);clear hX hA hO hin2;(go_wp2_with fail);refine (JN.out _ HT.out HCP.out).mono ?_;rintro e W9 ⟨rfl, b9⟩;(go_wp2_with fail);go_ret
   exact ⟨by rw [HX3.out]; rfl, HB.out.trans (b9.mono HB.out.size)⟩
end Go.Proofs.YtpdlgiioahjhiaaGreat

namespace Go.Proofs.YtpdlgiioahjhiaaGreat
open Go.RowKit Go.Shelf
open _root_.Array renaming getElem?_eq_some_iff → qcgg
open World renaming alloc_heap_new → qcgj
set_option linter.unusedVariables false
set_option maxHeartbeats 4000000
set_option maxRecDepth 100000
def exs8 : List (QB × QB) := [([94, 49, 46, 50, 46, 51], [62, 61, 49, 46, 50, 46, 51, 32, 60, 50, 46, 48, 46, 48, 45, 48]), ([94, 48, 46, 50, 46, 51], [62, 61, 48, 46, 50, 46, 51, 32, 60, 48, 46, 51, 46, 48, 45, 48]), ([94, 48, 46, 48, 46, 51], [62, 61, 48, 46, 48, 46, 51, 32, 60, 48, 46, 48, 46, 52, 45, 48]), ([126, 49, 46, 50], [62, 61, 49, 46, 50, 46, 48, 32, 60, 49, 46, 51, 46, 48, 45, 48]), ([49, 46, 50, 46, 51, 32, 45, 32, 50, 46, 51], [62, 61, 49, 46, 50, 46, 51, 32, 60, 50, 46, 52, 46, 48, 45, 48]), ([62, 49, 46, 50], [62, 61, 49, 46, 51, 46, 48]), ([60, 61, 50], [60, 51, 46, 48, 46, 48, 45, 48]), ([], [42]), ([62, 42], [60, 48, 46, 48, 46, 48, 45, 48]), ([124, 124], [42, 32, 124, 124, 32, 42])]
def qks : Array Value := #[.string ⟨#[94, 49, 46, 50, 46, 51]⟩, .string ⟨#[62, 61, 49, 46, 50, 46, 51, 32, 60, 50, 46, 48, 46, 48, 45, 48]⟩, .string ⟨#[94, 48, 46, 50, 46, 51]⟩, .string ⟨#[62, 61, 48, 46, 50, 46, 51, 32, 60, 48, 46, 51, 46, 48, 45, 48]⟩, .string ⟨#[94, 48, 46, 48, 46, 51]⟩, .string ⟨#[62, 61, 48, 46, 48, 46, 51, 32, 60, 48, 46, 48, 46, 52, 45, 48]⟩, .string ⟨#[126, 49, 46, 50]⟩, .string ⟨#[62, 61, 49, 46, 50, 46, 48, 32, 60, 49, 46, 51, 46, 48, 45, 48]⟩, .string ⟨#[49, 46, 50, 46, 51, 32, 45, 32, 50, 46, 51]⟩, .string ⟨#[62, 61, 49, 46, 50, 46, 51, 32, 60, 50, 46, 52, 46, 48, 45, 48]⟩, .string ⟨#[62, 49, 46, 50]⟩, .string ⟨#[62, 61, 49, 46, 51, 46, 48]⟩, .string ⟨#[60, 61, 50]⟩, .string ⟨#[60, 51, 46, 48, 46, 48, 45, 48]⟩, .string ⟨#[]⟩, .string ⟨#[42]⟩, .string ⟨#[62, 42]⟩, .string ⟨#[60, 48, 46, 48, 46, 48, 45, 48]⟩, .string ⟨#[124, 124]⟩, .string ⟨#[42, 32, 124, 124, 32, 42]⟩]
theorem qbrj (k : Nat) (h : k < 10) : qks[k * 2]? = some (.string (qg (exs8.getD k ([], [])).1)) ∧ qks[k * 2 + 1]? = some (.string (qg (exs8.getD k ([], [])).2)) := by
 match k, h with
 | 0, _ => exact ⟨rfl, rfl⟩
 | 1, _ => exact ⟨rfl, rfl⟩
 | 2, _ => exact ⟨rfl, rfl⟩
 | 3, _ => exact ⟨rfl, rfl⟩
 | 4, _ => exact ⟨rfl, rfl⟩
 | 5, _ => exact ⟨rfl, rfl⟩
 | 6, _ => exact ⟨rfl, rfl⟩
 | 7, _ => exact ⟨rfl, rfl⟩
 | 8, _ => exact ⟨rfl, rfl⟩
 | 9, _ => exact ⟨rfl, rfl⟩
def fitB8 (l : List (List Comp)) : Bool := Nat.ble l.length 2000000 && l.all (fun cs => Nat.ble cs.length 2000000 && cs.all (fun c => Nat.ble (lenS c.2) 1048576)) && Nat.ble (Lib.join (l.map (fun cs => (setT cs).1)) [32, 124, 124, 32]).length 140737488355328
theorem qbtb (l : List (List Comp)) (v : Value) (w : World) (hv : qnp w v l) (h : fitB8 l = true) : Calls Tryz.prog 13 #[v] w fun e w' => e = .returned (.string (qg (qtx l))) ∧ Below w.heap.size w w' := by
 unfold fitB8 at h;simp only [Bool.and_eq_true, List.all_eq_true, Nat.ble_eq] at h;exact qbpx l v w hv (fun cs hc => h.1.2 cs hc) h.1.1 h.2
theorem qcdl (k : Nat) (h : k < 10) : (qbq (exs8.getD k ([], [])).1).1 = 0 ∧ qtx (qbq (exs8.getD k ([], [])).1).2.2 = (exs8.getD k ([], [])).2 ∧ fitB8 (qbq (exs8.getD k ([], [])).1).2.2 = true := by
 match k, h with
 | 0, _ => exact ⟨by kernel_rfl, by kernel_rfl, by kernel_rfl⟩
 | 1, _ => exact ⟨by kernel_rfl, by kernel_rfl, by kernel_rfl⟩
 | 2, _ => exact ⟨by kernel_rfl, by kernel_rfl, by kernel_rfl⟩
 | 3, _ => exact ⟨by kernel_rfl, by kernel_rfl, by kernel_rfl⟩
 | 4, _ => exact ⟨by kernel_rfl, by kernel_rfl, by kernel_rfl⟩
 | 5, _ => exact ⟨by kernel_rfl, by kernel_rfl, by kernel_rfl⟩
 | 6, _ => exact ⟨by kernel_rfl, by kernel_rfl, by kernel_rfl⟩
 | 7, _ => exact ⟨by kernel_rfl, by kernel_rfl, by kernel_rfl⟩
 | 8, _ => exact ⟨by kernel_rfl, by kernel_rfl, by kernel_rfl⟩
 | 9, _ => exact ⟨by kernel_rfl, by kernel_rfl, by kernel_rfl⟩
theorem ex_bad8 : ((qbq [49, 46, 50, 32, 46, 51]).1, (qbq [49, 46, 50, 32, 46, 51]).2.1) = (10, 4) := by kernel_rfl
theorem ex_bad9 : ((qbq [94]).1, (qbq [94]).2.1) = (11, 1) := by kernel_rfl
theorem ex_take8 : qfj (qbq [94, 49, 46, 50, 46, 51, 45, 98, 101, 116, 97, 46, 50]).2.2 [49, 46, 50, 46, 51, 45, 98, 101, 116, 97, 46, 52] = true := by kernel_rfl
theorem ex_take9 : qfj (qbq [94, 49, 46, 50, 46, 51, 45, 98, 101, 116, 97, 46, 50]).2.2 [49, 46, 51, 46, 48, 45, 98, 101, 116, 97] = false := by kernel_rfl
theorem qbwh (w : World) : Calls Tryz.prog 12 #[] w fun e w' => e = .returned (.bool true) ∧ Below w.heap.size w w' := by
 go_enter Tryz.func12, Tryz.ntmps12
 (go_wp2_with fail);have eL : (w.alloc (.cells qks 65)).heap[w.heap.size]? = some (.cells qks 65) := qcgj w _;have bL : Below w.heap.size w (w.alloc (.cells qks 65)) := (Below.refl _ w).alloc (Nat.le_refl _) _;generalize hW0 : w.alloc (.cells #[.string ⟨#[94, 49, 46, 50, 46, 51]⟩, .string ⟨#[62, 61, 49, 46, 50, 46, 51, 32, 60, 50, 46, 48, 46, 48, 45, 48]⟩, .string ⟨#[94, 48, 46, 50, 46, 51]⟩, .string ⟨#[62, 61, 48, 46, 50, 46, 51, 32, 60, 48, 46, 51, 46, 48, 45, 48]⟩, .string ⟨#[94, 48, 46, 48, 46, 51]⟩, .string ⟨#[62, 61, 48, 46, 48, 46, 51, 32, 60, 48, 46, 48, 46, 52, 45, 48]⟩, .string ⟨#[126, 49, 46, 50]⟩, .string ⟨#[62, 61, 49, 46, 50, 46, 48, 32, 60, 49, 46, 51, 46, 48, 45, 48]⟩, .string ⟨#[49, 46, 50, 46, 51, 32, 45, 32, 50, 46, 51]⟩, .string ⟨#[62, 61, 49, 46, 50, 46, 51, 32, 60, 50, 46, 52, 46, 48, 45, 48]⟩, .string ⟨#[62, 49, 46, 50]⟩, .string ⟨#[62, 61, 49, 46, 51, 46, 48]⟩, .string ⟨#[60, 61, 50]⟩, .string ⟨#[60, 51, 46, 48, 46, 48, 45, 48]⟩, .string ⟨#[]⟩, .string ⟨#[42]⟩, .string ⟨#[62, 42]⟩, .string ⟨#[60, 48, 46, 48, 46, 48, 45, 48]⟩, .string ⟨#[124, 124]⟩, .string ⟨#[42, 32, 124, 124, 32, 42]⟩] 65) = W0 at *;rw [show w.alloc (.cells qks 65) = W0 from hW0] at eL bL;clear hW0;have EL := qb eL;have BL := qb bL;clear eL bL;go_loopw [21] (fun i wr => ∃ k : Nat, k ≤ 10 ∧ i = .int .i64 k ∧ Hid (wr.heap[w.heap.size]? = some (.cells qks 65)) ∧ Below w.heap.size w wr) (fun i _ => 10 - (intOf i).toNat)
 case atStart => exact ⟨0, by omega, rfl, EL, BL.out⟩
 case round =>
  obtain ⟨k, h10, rfl, HL, hb⟩ := hrel
  by_cases hlt : k < 10
  ·have c0 := qd (k * 2) HL.out (qbrj k hlt).1;have c1 := qd (k * 2 + 1) HL.out (qbrj k hlt).2;have C := qb (fun W => qlw (qg (exs8.getD k ([], [])).1) W);obtain ⟨x0, x1, x2⟩ := qcdl k hlt;have hk : ((k : Int) < 10) := by omega
   have hk0 : ((0 : Int) ≤ (k : Int)) := by omega
   rw [qj] at C;generalize (exs8.getD k ([], [])).1 = ea at *;generalize (exs8.getD k ([], [])).2 = eb at *;unfold qxr at C;generalize qbq ea = R at *;obtain ⟨re, ra, l⟩ := R;dsimp only at *;subst x0;have FB := qb (fun v W hv => qbtb l v W hv x2);rw [x1] at FB;have HB := qb hb;clear x1 x2 hb;(go_wp2_with fail);have nP := qcgj wr (.cells #[.string (qg ea), .string (qg eb)] 65);refine (C.out _).mono ?_;rintro e w1 ⟨v1, rfl, hS, b1⟩;obtain ⟨a1, k1, rfl, _⟩ := id hS;have nP1 : w1.heap[wr.heap.size]? = some (.cells #[.string (qg ea), .string (qg eb)] 65 (0, 0)) := (b1.block _ (by simp)).trans nP
   have bw1 : Below wr.heap.size wr w1 := ((Below.refl _ wr).alloc (Nat.le_refl _) _).trans (b1.mono (by simp))
   have bA : Below w1.heap.size w1 (w1.alloc (.cells #[.int .i64 0, .int .i64 ra] 25)) := (Below.refl _ w1).alloc (Nat.le_refl _) _;have nF := qcgj w1 (.cells #[.int .i64 0, .int .i64 ra] 25);have nP2 := (bA.block _ (qcgg.1 nP1).1).trans nP1;have S2 := qb (hS.below (bA.trans (qbh _ _)));have HW1 := qb bw1;have HBA := qb bA;have r0 : (w1.alloc (.cells #[.int .i64 0, .int .i64 ra] 25)).cell? ⟨w1.heap.size, 0, none⟩ = some (.int .i64 0) := qd 0 nF rfl;have r1 : (w1.alloc (.cells #[.int .i64 0, .int .i64 ra] 25)).cell? ⟨wr.heap.size, 1, none⟩ = some (.string (qg eb)) := qd 1 nP2 rfl;have NF := qb nF;have NP := qb nP2;clear nP nP1 b1 bw1 bA nF nP2 hS c0 c1;dsimp only;(go_wp2_with fail);generalize w1.alloc (.cells #[.int .i64 0, .int .i64 ra] 25) = W2 at *;go_region_held3 (fun W' => W'.cell? ⟨w1.heap.size, 0, none⟩ = some (.int .i64 0) ∧ W'.cell? ⟨wr.heap.size, 1, none⟩ = some (.string (qg eb))) (go_keep) ((first
    | (go_at_call 13; refine (FB.out _ _ S2.out).mono ?_; rintro e9 w3 ⟨rfl, b3⟩; have k0 : w3.cell? ⟨w1.heap.size, 0, none⟩ = some (.int .i64 0) := qd 0 ((b3.block _ (qcgg.1 NF.out).1).trans NF.out) rfl; have k1 : w3.cell? ⟨wr.heap.size, 1, none⟩ = some (.string (qg eb)) := qd 1 ((b3.block _ (qcgg.1 NP.out).1).trans NP.out) rfl; have B3 := qb b3; clear b3)
    | fail))
   have bF : Below wr.heap.size wr w3 := ((HW1.out.trans (HBA.out.mono HW1.out.size)).trans (qbh _ _)).trans (B3.out.mono (Nat.le_trans HW1.out.size HBA.out.size));have hbF : Below w.heap.size w w3 := HB.out.trans (bF.mono HB.out.size);have hL3 : w3.heap[w.heap.size]? = some (.cells qks 65) := (bF.block _ (qcgg.1 HL.out).1).trans HL.out;have HL3 := qb hL3;have HF := qb hbF;clear hL3 hbF bF HL B3 HBA HW1 NF NP S2 HB FB C k0 k1;(go_wp2_with fail);go_roundw
   case rel => exact ⟨k + 1, by omega, by go_num, HL3, HF.out⟩
   case measure => simp [intOf]; omega
  ·obtain rfl : k = 10 := by omega
   have P1 := qb (fun W => qlw ⟨#[49, 46, 50, 32, 46, 51]⟩ W);have P2 := qb (fun W => qlw ⟨#[94]⟩ W);unfold qxr at P1 P2;rw [show (ByteArray.mk #[49, 46, 50, 32, 46, 51]).data.toList = [49, 46, 50, 32, 46, 51] from rfl] at P1;rw [show (ByteArray.mk #[94]).data.toList = [94] from rfl] at P2;have y1 := ex_bad8;have y2 := ex_bad9;simp only [Prod.mk.injEq] at y1 y2;rw [y1.1, y1.2] at P1;rw [y2.1, y2.2] at P2;have M1 := qb (fun W => qsn ⟨#[94, 49, 46, 50, 46, 51, 45, 98, 101, 116, 97, 46, 50]⟩ ⟨#[49, 46, 50, 46, 51, 45, 98, 101, 116, 97, 46, 52]⟩ W);rw [show qfj (qbq (ByteArray.mk #[94, 49, 46, 50, 46, 51, 45, 98, 101, 116, 97, 46, 50]).data.toList).2.2 (ByteArray.mk #[49, 46, 50, 46, 51, 45, 98, 101, 116, 97, 46, 52]).data.toList = true from ex_take8] at M1;have M2 := qb (fun W => qsn ⟨#[94, 49, 46, 50, 46, 51, 45, 98, 101, 116, 97, 46, 50]⟩ ⟨#[49, 46, 51, 46, 48, 45, 98, 101, 116, 97]⟩ W);rw [show qfj (qbq (ByteArray.mk #[94, 49, 46, 50, 46, 51, 45, 98, 101, 116, 97, 46, 50]).data.toList).2.2 (ByteArray.mk #[49, 46, 51, 46, 48, 45, 98, 101, 116, 97]).data.toList = false from ex_take9] at M2;have HB := qb hb;clear y1 y2 hb HL hlt h10;generalize (qbq [49, 46, 50, 32, 46, 51]).2.2 = l1 at *;generalize (qbq [94]).2.2 = l2 at *;(go_wp2_with fail);refine (P1.out _).mono ?_;rintro e w1 ⟨v1, rfl, hS1, b1⟩;obtain ⟨a1, k1, rfl, _⟩ := id hS1;clear hS1;have n1 := qcgj w1 (.cells #[.int .i64 10, .int .i64 4] 25)
   have bA1 : Below wr.heap.size wr (w1.alloc (.cells #[.int .i64 10, .int .i64 4] 25)) := b1.alloc b1.size _;have hl1 : w1.heap.size < (w1.alloc (.cells #[.int .i64 10, .int .i64 4] 25)).heap.size := by simp
   have N1 := qb n1;have BA1 := qb bA1;clear n1 bA1 b1;dsimp only;(go_wp2_with fail);generalize w1.alloc (.cells #[.int .i64 10, .int .i64 4] 25) = W2 at *;generalize w1.heap.size = X1 at *;refine (P2.out _).mono ?_;rintro e w3 ⟨v3, rfl, hS3, b3⟩;obtain ⟨a3, k3, rfl, _⟩ := id hS3;clear hS3;have n3 : (w3.alloc (.cells #[.int .i64 11, .int .i64 1] 25)).heap[w3.heap.size]? = some (.cells #[.int .i64 11, .int .i64 1] 25 (0, 0)) := qcgj w3 _;have m1 : (w3.alloc (.cells #[.int .i64 11, .int .i64 1] 25)).heap[X1]? = some (.cells #[.int .i64 10, .int .i64 4] 25 (0, 0)) := (Below.heap_alloc _ _ _ (Nat.lt_of_lt_of_le hl1 b3.size)).trans ((b3.block _ hl1).trans N1.out);have bA3 : Below wr.heap.size wr (w3.alloc (.cells #[.int .i64 11, .int .i64 1] 25)) := (BA1.out.trans (b3.mono BA1.out.size)).alloc (Nat.le_trans BA1.out.size b3.size) _;have d0 : (w3.alloc (.cells #[.int .i64 11, .int .i64 1] 25)).cell? ⟨w3.heap.size, 0, none⟩ = some (.int .i64 11) := qd 0 n3 rfl;have d1 : (w3.alloc (.cells #[.int .i64 11, .int .i64 1] 25)).cell? ⟨w3.heap.size, 1, none⟩ = some (.int .i64 1) := qd 1 n3 rfl;have d2 : (w3.alloc (.cells #[.int .i64 11, .int .i64 1] 25)).cell? ⟨X1, 0, none⟩ = some (.int .i64 10) := qd 0 m1 rfl;have d3 : (w3.alloc (.cells #[.int .i64 11, .int .i64 1] 25)).cell? ⟨X1, 1, none⟩ = some (.int .i64 4) := qd 1 m1 rfl;have BA3 := qb bA3;clear n3 m1 bA3 b3;dsimp only;(go_wp2_with fail)
   generalize w3.alloc (.cells #[.int .i64 11, .int .i64 1] 25) = W4 at *;clear d0 d1 d2 d3;refine (M1.out _).mono ?_;rintro e w5 ⟨rfl, b5⟩;(go_wp2_with fail);refine (M2.out _).mono ?_;rintro e w6 ⟨rfl, b6⟩;(go_wp2_with fail);go_ret
   have bF := (BA3.out.trans (b5.mono BA3.out.size)).trans (b6.mono (Nat.le_trans BA3.out.size b5.size));exact ⟨rfl, HB.out.trans (bF.mono HB.out.size)⟩
end Go.Proofs.YtpdlgiioahjhiaaGreat
