/-
  Walks: whether a version is wanted. · Walks: the latest of the texts that are wanted; Pick, Match. · Plain: the chapter's examples.
-/
import Derived.Test.YtabmfdedbpmfmaaGreatBGh
import Derived.Test.YtabmfdedbpmfmaaGreatBGx
import Derived.Deep.Cut
import Derived.Test.YtabmfdedbpmfmaaGreatBGc
namespace Go.Proofs.YtabmfdedbpmfmaaGreat
open Go.RowKit Go.Shelf
set_option linter.unusedVariables false

theorem lets_any {A : Nat → Prop} (X : It) (w : World) (hT : TxC A w X) : Calls Tryz.prog 46 #[.agg (clV X.1 X.2.1 X.2.2)] w fun e w' => e = .returned (.bool (letsP X.1)) ∧ Below w.heap.size w w' := by
  obtain ⟨⟨k, y, u, su, s, e, er⟩, x2, x3⟩ := X
  obtain ⟨rb, lb, _, _⟩ := hT
  dsimp only at rb lb
  obtain ⟨r2, c2, rfl, _⟩ := id rb
  obtain ⟨q2, d2, rfl, _⟩ := id lb
  exact letsPre_any y r2 q2 c2 d2 _ _ _ _ (opB k) su _ _ _ w rb lb
theorem want1_any {A : Nat → Prop} (X : It) (hX : ClOK X.1) (x : PepL) (r1 q1 : Option Addr) (c1 d1 : Nat) (t : ByteArray) (st : Bool) (p : Nat) (w : World) (hT : TxC A w X) (hp : w.heap[p]? = some (.cells #[.string (ofL x.ep), .slice r1 x.rel.length c1, .int .u8 x.c, .string (ofL x.n), .bool x.b, .string (ofL x.m), .bool x.d, .string (ofL x.k), .slice q1 x.loc.length d1, .string t, .bool st] 59 (0, 0)))
    (ra : Txt w (.slice r1 x.rel.length c1) x.rel) (la : Txt w (.slice q1 x.loc.length d1) x.loc) (hx : VerOK x) (hn : r1 = none → c1 = 0) (ht : t.size ≤ maxLen) :
    Calls Tryz.prog 79 #[.agg (clV X.1 X.2.1 X.2.2), .pointer (some ⟨p, 0, none⟩)] w fun e w' => e = .returned (.bool (!holdP X.1.k x t.data.toList X.1.x X.1.t X.1.st)) ∧ Below w.heap.size w w' := by
  obtain ⟨⟨k, y, u, su, s, e, er⟩, x2, x3⟩ := X
  obtain ⟨rb, lb, cb, _⟩ := hT
  dsimp only at rb lb cb hX ⊢
  obtain ⟨r2, c2, rfl, _⟩ := id rb
  obtain ⟨q2, d2, rfl, _⟩ := id lb
  have hk := hX.k8
  have hu : (ofL u).size ≤ maxLen := by
    have := hX.tl
    have e1 : (ofL u).size = u.length := by rw [← len_data, ofL_data]
    unfold maxLen
    dsimp only at this
    omega
  have HH : ∀ W, Below w.heap.size w W → Calls Tryz.prog (hoF k) #[.agg #[.string (ofL x.ep), .slice r1 x.rel.length c1, .int .u8 x.c, .string (ofL x.n), .bool x.b, .string (ofL x.m), .bool x.d, .string (ofL x.k), .slice q1 x.loc.length d1, .string t, .bool st], .agg #[.string (ofL y.ep), .slice r2 y.rel.length c2, .int .u8 y.c, .string (ofL y.n), .bool y.b, .string (ofL y.m), .bool y.d, .string (ofL y.k), .slice q2 y.loc.length d2, .string (ofL u), .bool su]] W fun e W' => e = .returned (.bool (holdP k x t.data.toList y u su)) ∧ Below W.heap.size W W' := fun W hb => by
    have := holds_any k hk x y r1 r2 q1 q2 c1 c2 d1 d2 t (ofL u) st su W (ra.below hb) (rb.below hb) (la.below hb) (lb.below hb) hx hn (fun h => by have := hX.ver h; dsimp only at this; rw [this.2]; exact ver_ok this.1)
      (fun h => by
        have h2 := hX.two h
        dsimp only at h2
        obtain ⟨b, off, e1, _⟩ := rb.some (by omega)
        exact (cb _ _ _ (by rw [e1])).2) (fun h => hX.two h) ht hu
    rwa [ofL_data] at this
  match k, hk with
  | 0, _ => exact want1_0 x y r1 r2 q1 q2 c1 c2 d1 d2 t (ofL u) (ofL (sgn 0)) st su (opB 0) _ (fnV (rdF 0)) (s : Int) (e : Int) er p w hp HH
  | 1, _ => exact want1_1 x y r1 r2 q1 q2 c1 c2 d1 d2 t (ofL u) (ofL (sgn 1)) st su (opB 1) _ (fnV (rdF 1)) (s : Int) (e : Int) er p w hp HH
  | 2, _ => exact want1_2 x y r1 r2 q1 q2 c1 c2 d1 d2 t (ofL u) (ofL (sgn 2)) st su (opB 2) _ (fnV (rdF 2)) (s : Int) (e : Int) er p w hp HH
  | 3, _ => exact want1_3 x y r1 r2 q1 q2 c1 c2 d1 d2 t (ofL u) (ofL (sgn 3)) st su (opB 3) _ (fnV (rdF 3)) (s : Int) (e : Int) er p w hp HH
  | 4, _ => exact want1_4 x y r1 r2 q1 q2 c1 c2 d1 d2 t (ofL u) (ofL (sgn 4)) st su (opB 4) _ (fnV (rdF 4)) (s : Int) (e : Int) er p w hp HH
  | 5, _ => exact want1_5 x y r1 r2 q1 q2 c1 c2 d1 d2 t (ofL u) (ofL (sgn 5)) st su (opB 5) _ (fnV (rdF 5)) (s : Int) (e : Int) er p w hp HH
  | 6, _ => exact want1_6 x y r1 r2 q1 q2 c1 c2 d1 d2 t (ofL u) (ofL (sgn 6)) st su (opB 6) _ (fnV (rdF 6)) (s : Int) (e : Int) er p w hp HH
  | 7, _ => exact want1_7 x y r1 r2 q1 q2 c1 c2 d1 d2 t (ofL u) (ofL (sgn 7)) st su (opB 7) _ (fnV (rdF 7)) (s : Int) (e : Int) er p w hp HH
set_option maxRecDepth 100000 in
set_option maxHeartbeats 8000000 in
theorem want_any (Z : Nat) (v : Value) (its : List It) (s : ByteArray) (w : World) (hv : ClsV Z w v its) (hl : its.length ≤ 33) (hok : ∀ x ∈ its, ClOK x.1) (hs : s.size ≤ 140737488351232) :
    Calls Tryz.prog 49 #[v, .string s] w fun e w' => e = .returned (.bool (wantP (its.map Prod.fst) s.data.toList)) ∧ Below w.heap.size w w' := by
  obtain ⟨a, c, rfl, _⟩ := hv.at_
  have HV := hide hv
  have HOK := hide hok
  clear hv hok
  cases ho : okP s.data.toList
  · have RV := hide (fun W => readVersion_no s W hs ho)
    have HR : Hid (wantP (its.map Prod.fst) s.data.toList = false) := hide (by unfold wantP; rw [ho]; rfl)
    have hq : onlyW (fun _ => true) s.data.toList = .bad (errX s.data.toList).1 (errX s.data.toList).2 := by unfold onlyW; rw [ho]; rfl
    rw [hq] at RV
    generalize (errX s.data.toList).1 = e1 at *
    generalize (errX s.data.toList).2 = p1 at *
    clear ho hq
    go_enter Tryz.func49, Tryz.ntmps49
    go_wp2_with fail
    refine (RV.out _).mono ?_
    rintro e w1 ⟨b1, hne, st, rfl⟩
    unfold zerV
    obtain ⟨V, hV, n1, n2, bV, sV⟩ := two_new w1 #[.string ⟨#[]⟩, .slice none 0 0, .int .u8 0, .string ⟨#[]⟩, .bool false, .string ⟨#[]⟩, .bool false, .string ⟨#[]⟩, .slice none 0 0, .string ⟨#[]⟩, .bool st] #[.int .i64 e1, .int .i64 (p1 : Int)] 59 25
    obtain ⟨u0, u1, _⟩ := seen2v n2
    have m1 : (e1 != 0) = true := by simpa using hne
    have m2 : (e1 == 0) = false := by simpa using hne
    have HB := hide (b1.trans (bV.mono b1.size))
    have HVV := hide hV
    clear n1 n2 bV sV hV b1 hne
    go_upto_region 2 with fail
    rw [HVV.out]
    go_wp2_with fail
    go_ret
    exact ⟨by rw [HR.out]; rfl, HB.out⟩
  · have RV := hide (fun W => readVersion_ok s W ho)
    have hx := ver_ok ho
    have HR : Hid (wantP (its.map Prod.fst) s.data.toList = (!(preP (pepOf (lowL s.data.toList)) && !its.any (fun x => letsP x.1)) && !its.any (fun x => !holdP x.1.k (pepOf (lowL s.data.toList)) s.data.toList x.1.x x.1.t x.1.st))) := hide (by unfold wantP; rw [ho, Bool.true_and, List.any_map, List.any_map]; rfl)
    have hq : onlyW (fun _ => true) s.data.toList = .ok (pepOf (lowL s.data.toList)) s.data.toList false := by unfold onlyW; rw [ho]; rfl
    rw [hq] at RV
    generalize pepOf (lowL s.data.toList) = x at *
    clear ho hq
    rw [HR.out]
    go_enter Tryz.func49, Tryz.ntmps49
    go_wp2_with fail
    refine (RV.out _).mono ?_
    rintro e w1 ⟨b1, vr, vl, rfl, t1, t2, fr1, fr2⟩
    obtain ⟨r1, c1, rfl, _⟩ := id t1
    obtain ⟨q1, d1, rfl, _⟩ := id t2
    unfold verV
    obtain ⟨V, hV, n1, n2, bV, sV⟩ := two_new w1 #[.string (ofL x.ep), .slice r1 x.rel.length c1, .int .u8 x.c, .string (ofL x.n), .bool x.b, .string (ofL x.m), .bool x.d, .string (ofL x.k), .slice q1 x.loc.length d1, .string (ofL s.data.toList), .bool false] #[.int .i64 0, .int .i64 0] 59 25
    obtain ⟨u0, u1, _⟩ := seen2v n2
    obtain ⟨s0, s1, s2, s3, s4, s5, s6, s7, s8, s9, s10, _⟩ := seen11v n1
    have HBW := hide (b1.trans (bV.mono b1.size))
    have T1 := hide (t1.below bV)
    have T2 := hide (t2.below bV)
    have HN1 := hide n1
    have HVV := hide ((HV.out.below b1).below bV)
    have HVW := hide hV
    have hsz1 : w1.heap.size < V.heap.size := by omega
    have hne := hx.fit.f2
    have hno : Hid (r1 = none → c1 = 0) := hide fun h => by
      obtain ⟨b, off, e1, _⟩ := t1.some (List.length_pos_iff.2 hne)
      rw [h] at e1
      cases e1
    replace hx := hide hx
    have PR := hide (Pre_any x r1 q1 c1 d1 V T1.out T2.out)
    clear n1 n2 bV sV hV b1 t1 t2 fr1 fr2 hne
    change Hid (Calls Tryz.prog 77 _ V fun e w' => e = .returned (.bool (preP x)) ∧ Below V.heap.size V w') at PR
    cases hp : preP x
    · rw [hp] at PR
      have HP := hide hp
      clear hp
      go_upto_region 2 with fail
      rw [HVW.out]
      go_wp2_with fail
      refine (PR.out).mono ?_
      rintro e w5 ⟨rfl, b5⟩
      have B5 := hide b5
      clear b5
      have HVw5 := hide (HVV.out.below B5.out)
      have CF := hide (ContainsFunc_79 (fun X => !holdP X.1.k x s.data.toList X.1.x X.1.t X.1.st) w1.heap.size Z _ its w5 HVw5.out hl (fun X hX W hb hT => by
        obtain ⟨A, hT⟩ := hT
        have := want1_any X (HOK.out X hX) x r1 q1 c1 d1 (ofL s.data.toList) false w1.heap.size W hT (((B5.out.trans (hb.mono B5.out.size)).block _ hsz1).trans HN1.out) (T1.out.below (B5.out.trans (hb.mono B5.out.size))) (T2.out.below (B5.out.trans (hb.mono B5.out.size))) hx.out (hno.out) (by rw [ofL_self]; unfold maxLen; omega)
        rw [ofL_self] at this
        exact this))
      go_wp2_with fail
      refine (CF.out).mono ?_
      rintro e w7 ⟨rfl, b7⟩
      have HBB := hide (HBW.out.trans ((B5.out.trans (b7.mono B5.out.size)).mono HBW.out.size))
      go_wp2_with fail
      go_ret
      exact ⟨by rw [HP.out]; rfl, HBB.out⟩
    · rw [hp] at PR
      have HP := hide hp
      clear hp
      cases ha : its.any (fun X => letsP X.1)
      · go_upto_region 2 with fail
        rw [HVW.out]
        go_wp2_with fail
        refine (PR.out).mono ?_
        rintro e w5 ⟨rfl, b5⟩
        have CL := hide (ContainsFunc_46 (fun X => letsP X.1) Z _ its w5 (HVV.out.below b5) hl (fun X hX W hb hT => by obtain ⟨A, hT⟩ := hT; exact lets_any X W hT))
        rw [ha] at CL
        have HA := hide ha
        go_wp2_with fail
        refine (CL.out).mono ?_
        rintro e w6 ⟨rfl, b6⟩
        have HBB := hide (HBW.out.trans ((b5.trans (b6.mono b5.size)).mono HBW.out.size))
        go_wp2_with fail
        go_ret
        exact ⟨by rw [HP.out, HA.out]; rfl, HBB.out⟩
      · go_upto_region 2 with fail
        rw [HVW.out]
        go_wp2_with fail
        refine (PR.out).mono ?_
        rintro e w5 ⟨rfl, b5⟩
        have CL := hide (ContainsFunc_46 (fun X => letsP X.1) Z _ its w5 (HVV.out.below b5) hl (fun X hX W hb hT => by obtain ⟨A, hT⟩ := hT; exact lets_any X W hT))
        rw [ha] at CL
        have HA := hide ha
        go_wp2_with fail
        refine (CL.out).mono ?_
        rintro e w6 ⟨rfl, b6⟩
        have B6 := hide (b5.trans (b6.mono b5.size))
        clear b5 b6 ha
        have HVw6 := hide (HVV.out.below B6.out)
        have CF := hide (ContainsFunc_79 (fun X => !holdP X.1.k x s.data.toList X.1.x X.1.t X.1.st) w1.heap.size Z _ its w6 HVw6.out hl (fun X hX W hb hT => by
          obtain ⟨A, hT⟩ := hT
          have := want1_any X (HOK.out X hX) x r1 q1 c1 d1 (ofL s.data.toList) false w1.heap.size W hT (((B6.out.trans (hb.mono B6.out.size)).block _ hsz1).trans HN1.out) (T1.out.below (B6.out.trans (hb.mono B6.out.size))) (T2.out.below (B6.out.trans (hb.mono B6.out.size))) hx.out (hno.out) (by rw [ofL_self]; unfold maxLen; omega)
          rw [ofL_self] at this
          exact this))
        go_wp2_with fail
        refine (CF.out).mono ?_
        rintro e w7 ⟨rfl, b7⟩
        have HBB := hide (HBW.out.trans ((B6.out.trans (b7.mono B6.out.size)).mono HBW.out.size))
        go_wp2_with fail
        go_ret
        exact ⟨by rw [HP.out, HA.out]; rfl, HBB.out⟩

end Go.Proofs.YtabmfdedbpmfmaaGreat

namespace Go.Proofs.YtabmfdedbpmfmaaGreat
open Go.RowKit Go.Shelf
set_option linter.unusedVariables false

def latF (p : List UInt8 → Bool) (b : List UInt8 × Bool) (t : List UInt8) : List UInt8 × Bool := if (p t && (!b.2 || decide (0 < cmpT t b.1))) = true then (t, true) else b
def latestL (p : List UInt8 → Bool) (ts : List (List UInt8)) : List UInt8 × Bool := ts.foldl (latF p) ([], false)
theorem lat_take (p : List UInt8 → Bool) (ts : List (List UInt8)) (i : Nat) (h : i < ts.length) : (ts.take (i + 1)).foldl (latF p) ([], false) = latF p ((ts.take i).foldl (latF p) ([], false)) ts[i] := by
  rw [List.take_succ_eq_append_getElem h, List.foldl_append]
  rfl

set_option maxRecDepth 100000 in
set_option maxHeartbeats 4000000 in
theorem Latest_any (p : List UInt8 → Bool) (B : Nat) (ts : List (List UInt8)) (v : Value) (w : World) (hv : Txt w v ts) (hln : ts.length ≤ 9000000000000000000)
    (hz : ∀ t ∈ ts, t.length ≤ 140737488351232) (hp : ∀ t ∈ ts, ∀ (W : World), Below w.heap.size w W → Calls Tryz.prog 48 #[.string (ofL t), .pointer (some ⟨B, 0, none⟩)] W fun e W' => e = .returned (.bool (p t)) ∧ Below W.heap.size W W') :
    Calls Tryz.prog 47 #[v, .func (.func 48) #[] #[.pointer (some ⟨B, 0, none⟩)], .func (.func 50) #[] #[]] w fun e w' => e = .returned (.tuple #[.string (ofL (latestL p ts).1), .bool (latestL p ts).2]) ∧ Below w.heap.size w w' := by
  obtain ⟨a, k, rfl, _⟩ := id hv
  obtain ⟨n, hn⟩ : ∃ n, ts.length = n := ⟨_, rfl⟩
  rw [hn] at hv hln ⊢
  have HN := hide hn
  have HV := hide hv
  have HP := hide hp
  have HZ := hide hz
  clear hn hv hp hz
  go_enter Tryz.func47, Tryz.ntmps47
  go_wp2_with fail
  go_loopw [8, 9, 14] (fun x f j wr => ∃ (i : Nat) (S : List UInt8) (F : Bool), S.length ≤ 140737488351232 ∧ i ≤ n ∧ x = .string (ofL S) ∧ f = .bool F ∧ j = .int .i64 i ∧ Hid (Below w.heap.size w wr) ∧ Hid ((ts.take i).foldl (latF p) ([], false) = (S, F))) (fun _ _ j _ => n - (intOf j).toNat)
  case atStart => exact ⟨0, [], false, by simp, by omega, rfl, rfl, rfl, Below.refl _ _, rfl⟩
  case round =>
    obtain ⟨i, S, F, hS, hin, rfl, rfl, rfl, HB, HA⟩ := hrel
    by_cases hlt : i < n
    · have hlt' : (i : Int) < (n : Int) := by omega
      have i1 : i < ts.length := by rw [HN.out]; exact hlt
      obtain ⟨b, o, rfl, hrow⟩ := Txt.some (HV.out.below HB.out) (by omega)
      have d0 := hrow i i1
      have h2 := lat_take p ts i i1
      rw [HA.out] at h2
      have h3 : latF p (S, F) ts[i] = if (p ts[i] && (!F || decide (0 < cmpT ts[i] S))) = true then (ts[i], true) else (S, F) := rfl
      rw [h3] at h2
      have P1 := hide (fun (W : World) (hW : Below w.heap.size w W) => (HP.out ts[i] (List.getElem_mem _) W hW : Calls Tryz.prog 48 #[.string (ofL ts[i]), .pointer (some ⟨B, 0, none⟩)] W fun e W' => e = .returned (.bool (p ts[i])) ∧ Below W.heap.size W W'))
      have C1 := hide (fun (W : World) => (by have := CompareT_any (ofL ts[i]) (ofL S) W (by rw [← len_data, ofL_data]; exact HZ.out _ (List.getElem_mem _)) (by rw [← len_data, ofL_data]; exact hS); rw [ofL_data, ofL_data] at this; exact this : Calls Tryz.prog 50 #[.string (ofL ts[i]), .string (ofL S)] W fun e W' => e = .returned (.int .i64 (cmpT ts[i] S)) ∧ Below W.heap.size W W'))
      have H2 := hide h2
      have htz := HZ.out ts[i] (List.getElem_mem _)
      clear h2 h3 hrow
      generalize p ts[i] = X at *
      generalize cmpT ts[i] S = C at *
      generalize ts[i] = t at *
      clear i1
      go_wp2_with fail
      refine (P1.out _ HB.out).mono ?_
      rintro e W1 ⟨rfl, b1⟩
      have HB1 := hide (HB.out.trans (b1.mono HB.out.size))
      clear b1 HB P1 d0
      cases X with
      | false =>
        go_wp2_with fail
        go_roundw
        case rel => exact ⟨i + 1, S, F, hS, by omega, rfl, rfl, by go_num, HB1, by show _ = _; rw [H2.out]; rfl⟩
        case measure => simp [intOf]; omega
      | true =>
        cases F with
        | false =>
          go_wp2_with fail
          go_roundw
          case rel => exact ⟨i + 1, t, true, htz, by omega, rfl, rfl, by go_num, HB1, by show _ = _; rw [H2.out]; rfl⟩
          case measure => simp [intOf]; omega
        | true =>
          go_wp2_with fail
          refine (C1.out _).mono ?_
          rintro e W2 ⟨rfl, b2⟩
          have HB2 := hide (HB1.out.trans (b2.mono HB1.out.size))
          clear b2 HB1 C1
          by_cases hC : 0 < C
          · have hd : decide (0 < C) = true := by simpa using hC
            go_wp2_with fail
            go_roundw
            case rel => exact ⟨i + 1, t, true, htz, by omega, rfl, rfl, by go_num, HB2, by show _ = _; rw [H2.out, hd]; rfl⟩
            case measure => simp [intOf]; omega
          · have hd : decide (0 < C) = false := by simpa using hC
            go_wp2_with fail
            go_roundw
            case rel => exact ⟨i + 1, S, true, hS, by omega, rfl, rfl, by go_num, HB2, by show _ = _; rw [H2.out, hd]; rfl⟩
            case measure => simp [intOf]; omega
    · have hlt' : ¬ (i : Int) < (n : Int) := by omega
      have hX : latestL p ts = (S, F) := by
        have := HA.out
        rwa [List.take_of_length_le (by rw [HN.out]; omega)] at this
      have HX := hide hX
      clear hX
      go_wp2_with fail
      go_ret2
      exact ⟨by rw [HX.out]; rfl, HB.out⟩
set_option maxRecDepth 100000 in
set_option maxHeartbeats 4000000 in
theorem Pick1_any (Z p : Nat) (v : Value) (its : List It) (s : ByteArray) (w : World) (hp : Boxed w p 50 v) (hv : ClsV Z w v its) (hl : its.length ≤ 33) (hok : ∀ x ∈ its, ClOK x.1) (hs : s.size ≤ 140737488351232) :
    Calls Tryz.prog 48 #[.string s, .pointer (some ⟨p, 0, none⟩)] w fun e w' => e = .returned (.bool (wantP (its.map Prod.fst) s.data.toList)) ∧ Below w.heap.size w w' := by
  have WA := hide (want_any Z v its s w hv hl hok hs)
  obtain ⟨a, c, rfl, _⟩ := hv.at_
  have c0 := hp.cell
  clear hp hv hok
  go_enter Tryz.func48, Tryz.ntmps48
  go_wp2_with fail
  refine (WA.out).mono ?_
  rintro e w2 ⟨rfl, b2⟩
  go_wp2_with fail
  go_ret
  exact ⟨rfl, b2⟩
def pickP (l : List UInt8) (ts : List (List UInt8)) : List UInt8 × Bool := if (pyL l).1 = 0 then latestL (wantP (pyL l).2.2) ts else ([], false)
set_option maxRecDepth 100000 in
set_option maxHeartbeats 4000000 in
theorem Pick20_any (s : ByteArray) (v : Value) (ts : List (List UInt8)) (w : World) (hv : Txt w v ts) (hln : ts.length ≤ 9000000000000000000) (hz : ∀ t ∈ ts, t.length ≤ 140737488351232) :
    Calls Tryz.prog 20 #[.string s, v] w fun e w' => e = .returned (.tuple #[.string (ofL (pickP s.data.toList ts).1), .bool (pickP s.data.toList ts).2]) ∧ Below w.heap.size w w' := by
  have RC := hide (fun W => readClauses_any s W)
  have hlen := pyL_len s.data.toList
  have hall := pyL_ok s.data.toList
  have hP : pickP s.data.toList ts = if (pyL s.data.toList).1 = 0 then latestL (wantP (pyL s.data.toList).2.2) ts else ([], false) := rfl
  generalize pyL s.data.toList = G at *
  obtain ⟨er, p, cs⟩ := G
  dsimp only at hP hlen hall
  obtain ⟨a, k, rfl, _⟩ := id hv
  have HV := hide hv
  have HPP := hide hP
  have HLN := hide hln
  have HZ := hide hz
  clear hv hP hz
  go_enter Tryz.func20, Tryz.ntmps20
  go_wp2_with fail
  refine (RC.out _).mono ?_
  rintro e w1 ⟨b1, u, rfl, its, hits, hu⟩
  dsimp only at hits
  subst hits
  have hl33 : its.length ≤ 33 := by simpa using hlen
  have hok : ∀ x ∈ its, ClOK x.1 := fun x hx => hall _ (List.mem_map_of_mem hx)
  obtain ⟨ua, uc, rfl, _⟩ := hu.at_
  obtain ⟨V, hVV, n1, n2, bV, sV⟩ := two_new w1 #[.slice ua its.length uc] #[.int .i64 er, .int .i64 (p : Int)] 50 25
  have f0 := cell_at 0 n2 rfl
  have f1 := cell_at 1 n2 rfl
  have HB := hide (b1.trans (bV.mono b1.size))
  have HU := hide (hu.below bV)
  have HN1 := hide (n1 : Boxed V w1.heap.size 50 (.slice ua its.length uc))
  have HVV := hide hVV
  have HT := hide ((HV.out.below b1).below bV)
  have HOK := hide hok
  clear hlen hall b1 hu n1 n2 bV sV hVV hok
  by_cases he : er = 0
  · subst he
    have LA := hide (Latest_any (wantP (its.map Prod.fst)) w1.heap.size ts _ V HT.out HLN.out HZ.out (fun t ht W hb => by
      have := Pick1_any w.heap.size w1.heap.size _ its (ofL t) W ((hb.block _ (Array.getElem?_eq_some_iff.1 HN1.out).1).trans HN1.out) (HU.out.below hb) hl33 HOK.out (by rw [← len_data, ofL_data]; exact HZ.out t ht)
      rwa [ofL_data] at this))
    go_upto_region 2 with fail
    rw [HVV.out]
    go_wp2_with fail
    refine (LA.out).mono ?_
    rintro e w3 ⟨rfl, b3⟩
    go_wp2_with fail
    go_ret2
    exact ⟨by rw [HPP.out]; rfl, HB.out.trans (b3.mono HB.out.size)⟩
  · have n1 : (er != 0) = true := by simpa using he
    have n2 : (er == 0) = false := by simpa using he
    have HE := hide he
    go_upto_region 2 with fail
    rw [HVV.out]
    go_wp2_with fail
    go_ret2
    exact ⟨by rw [HPP.out, if_neg HE.out]; rfl, HB.out⟩
def matchP (l u : List UInt8) : Bool := decide ((pyL l).1 = 0) && wantP (pyL l).2.2 u
theorem match_pick (l u : List UInt8) : (pickP l [u]).2 = matchP l u := by
  unfold pickP matchP
  split
  · rename_i h
    rw [h]
    show (latF (wantP (pyL l).2.2) ([], false) u).2 = _
    unfold latF
    cases wantP (pyL l).2.2 u <;> simp
  · rename_i h
    simp [h]
set_option maxRecDepth 100000 in
set_option maxHeartbeats 4000000 in
theorem Match22_any (s t : ByteArray) (w : World) (ht : t.size ≤ 140737488351232) :
    Calls Tryz.prog 22 #[.string s, .string t] w fun e w' => e = .returned (.bool (matchP s.data.toList t.data.toList)) ∧ Below w.heap.size w w' := by
  rw [← match_pick]
  have n0 := World.alloc_heap_new w (.cells #[.string t] 9)
  have hal : Below w.heap.size w (w.alloc (.cells #[.string t] 9)) := (Below.refl _ w).alloc (Nat.le_refl _) _
  have hT : Txt (w.alloc (.cells #[.string t] 9)) (.slice (some ⟨w.heap.size, 0, none⟩) 1 1) [t.data.toList] := ⟨_, 1, rfl, .inr ⟨w.heap.size, 0, rfl, by simp, fun i hi => by
    obtain rfl : i = 0 := by simpa using hi
    have := cell_at 0 n0 rfl
    rw [show ([t.data.toList] : List (List UInt8))[0] = t.data.toList from rfl, ofL_self]
    exact this⟩⟩
  have PK := hide (Pick20_any s _ [t.data.toList] _ hT (by simp) (fun x hx => by simp at hx; subst hx; rw [len_data]; exact ht))
  have HAL := hide hal
  clear n0 hal hT
  go_enter Tryz.func22, Tryz.ntmps22
  go_wp2_with fail
  refine (PK.out).mono ?_
  rintro e w2 ⟨rfl, b2⟩
  go_wp2_with fail
  go_ret
  exact ⟨rfl, HAL.out.trans (b2.mono HAL.out.size)⟩

end Go.Proofs.YtabmfdedbpmfmaaGreat

namespace Go.Proofs.YtabmfdedbpmfmaaGreat
open Go.RowKit Go.Shelf
set_option linter.unusedVariables false

theorem ex_p0 : pyL [61, 49] = (10, 1, []) := by kernel_rfl
theorem ex_p1 : pyL [62, 61, 49, 44, 44, 60, 50] = (10, 4, []) := by kernel_rfl
theorem ex_p2 : pyL [126, 61, 49] = (19, 2, []) := by kernel_rfl
theorem ex_m0 : matchP [62, 61, 49, 46, 48, 44, 32, 33, 61, 49, 46, 53, 46, 42, 44, 32, 60, 50] [49, 46, 52] = true := by kernel_rfl
theorem ex_m1 : matchP [62, 61, 49, 46, 48, 44, 32, 33, 61, 49, 46, 53, 46, 42, 44, 32, 60, 50] [49, 46, 54, 46, 112, 111, 115, 116, 49] = true := by kernel_rfl
theorem ex_m2 : matchP [62, 61, 49, 46, 48, 44, 32, 33, 61, 49, 46, 53, 46, 42, 44, 32, 60, 50] [49, 46, 53, 46, 51] = false := by kernel_rfl
theorem ex_m3 : matchP [62, 61, 49, 46, 48, 44, 32, 33, 61, 49, 46, 53, 46, 42, 44, 32, 60, 50] [50, 46, 48, 97, 49] = false := by kernel_rfl
theorem ex_m4 : matchP [62, 61, 49, 46, 48, 44, 32, 33, 61, 49, 46, 53, 46, 42, 44, 32, 60, 50] [50, 46, 48] = false := by kernel_rfl
theorem ex_m5 : matchP [126, 61, 49, 46, 52, 46, 50] [49, 46, 52, 46, 57] = true := by kernel_rfl
theorem ex_m6 : matchP [126, 61, 49, 46, 52, 46, 50] [49, 46, 53] = false := by kernel_rfl
theorem ex_m7 : matchP [61, 61, 49, 46, 49] [49, 46, 49, 46, 48, 43, 108, 111, 99, 97, 108] = true := by kernel_rfl
theorem ex_m8 : matchP [62, 49, 46, 55] [49, 46, 55, 46, 49] = true := by kernel_rfl
theorem ex_m9 : matchP [62, 49, 46, 55] [49, 46, 55, 46, 48, 46, 112, 111, 115, 116, 49] = false := by kernel_rfl
theorem ex_m10 : matchP [62, 61, 50, 46, 48, 97, 49] [50, 46, 48, 98, 49] = true := by kernel_rfl

end Go.Proofs.YtabmfdedbpmfmaaGreat
