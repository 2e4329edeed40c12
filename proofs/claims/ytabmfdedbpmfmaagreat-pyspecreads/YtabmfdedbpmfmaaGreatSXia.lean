/-
  Walks: the document's Parse, the release goes on.
-/
import Derived.Test.YtabmfdedbpmfmaaGreatSXi
namespace Go.Proofs.YtabmfdedbpmfmaaGreat
open Go.RowKit Go.Shelf
set_option linter.unusedVariables false

attribute [local go_sem] Oper.semAt_some

set_option maxRecDepth 1000000 in
set_option maxHeartbeats 8000000 in
theorem st9 {w : World} {Q : Nat} {u : ByteArray} {W : World} {a : Nat} {ao : Option Addr} {cv : Nat} {c0 c2 c3 c4 c5 c6 c7 : Value} {u0 u1 u6 u7 u8 u9 u10 u11 u12 u13 u14 u15 u16 u17 u18 u19 u20 u21 u22 u23 u24 u25 u26 u27 u28 u29 u30 u31 u32 u33 u34 u35 u36 u37 u38 u39 u40 u41 u42 u43 u44 u45 u46 u47 u48 u49 u50 u51 u52 u53 u54 u55 u56 u57 u58 u59 u60 u61 u62 u63 u64 u65 u66 u67 u68 u69 u70 u71 u72 u73 u74 u75 u76 u77 u78 u79 u80 u81 u82 u83 u84 u85 u86 u87 u88 u89 u90 u91 u92 u93 u94 u95 u96 u97 u98 u99 u100 u101 u102 u103 u104 u105 u106 u107 u108 u109 u110 u111 u112 u113 u114 u115 u116 u117 u118 u119 u120 u121 u122 u123 u124 u125 u126 u127 u128 u129 u130 u131 u132 u133 u134 u135 u136 u137 u138 u139 u140 u141 u142 u143 u144 u145 u146 u147 u148 u149 u150 u151 u152 u153 u154 u155 u156 u157 u158 u159 u160 u161 u162 u163 u164 u165 u166 u167 u168 u169 u170 u171 u172 u173 u174 u175 u176 u177 u178 u179 u180 u181 u182 u183 u184 u185 u186 u187 u188 u189 u190 u191 u192 u193 u194 u195 u196 u197 u198 u199 u200 u201 u202 u203 u204 u205 u206 u207 u208 u209 u210 u211 u212 u213 u214 u215 u216 u217 u218 u219 u220 u221 u222 u223 u224 u225 u226 u227 u228 u229 u230 u231 u232 u233 u234 u235 u236 u237 u238 u239 u240 u241 u242 u243 u244 u245 u246 u247 u248 u249 u250 u251 u252 u253 u254 u255 u256 u257 u258 u259 u260 u261 u262 u263 u264 u265 u266 u267 u268 u269 u270 u271 u272 u273 : Value} {K : Act → World → Prop} {Q0 : Exit → Act → World → Prop} (hus : u.size ≤ 64)
    (ha : a ≤ u.size) (hQ : ∀ ch (a : Act) d v w, Q0 (.panic ch) (a.put d v) w → Q0 (.panic ch) a w) (hrun : runL 1 (u.data.toList.drop a) ≠ 0) (D : DV w Q u (a + runL 1 (u.data.toList.drop a)) 0 0 c0 (.slice ao 1 cv) c2 c3 c4 c5 c6 c7 (.slice none 0 0) (txsV [trimL (seg u.data.toList a (a + runL 1 (u.data.toList.drop a)))]) [] W)
    (hk_ : ∀ (u0 u1 u6 u7 u8 u9 u10 u11 u12 u13 u14 u15 u16 u17 u18 u19 u20 u21 u22 u23 u24 u25 u26 u27 u28 u29 u30 u31 u32 u33 u34 u35 u36 u37 u38 u39 u40 u41 u42 u43 u44 u45 u46 u47 u48 u49 u50 u51 u52 u53 u54 u55 u56 u57 u58 u59 u60 u61 u62 u63 u64 u65 u66 u67 u68 u69 u70 u71 u72 u73 u74 u75 u76 u77 u78 u79 u80 u81 u82 u83 u84 u85 u86 u87 u88 u89 u90 u91 u92 u93 u94 u95 u96 u97 u98 u99 u100 u101 u102 u103 u104 u105 u106 u107 u108 u109 u110 u111 u112 u113 u114 u115 u116 u117 u118 u119 u120 u121 u122 u123 u124 u125 u126 u127 u128 u129 u130 u131 u132 u133 u134 u135 u136 u137 u138 u139 u140 u141 u142 u143 u144 u145 u146 u147 u148 u149 u150 u151 u152 u153 u154 u155 u156 u157 u158 u159 u160 u161 u162 u163 u164 u165 u166 u167 u168 u169 u170 u171 u172 u173 u174 u175 u176 u177 u178 u179 u180 u181 u182 u183 u184 u185 u186 u187 u188 u189 u190 u191 u192 u193 u194 u195 u196 u197 u198 u199 u200 u201 u202 u203 u204 u205 u206 u207 u208 u209 u210 u211 u212 u213 u214 u215 u216 u217 u218 u219 u220 u221 u222 u223 u224 u225 u226 u227 u228 u229 u230 u231 u232 u233 u234 u235 u236 u237 u238 u239 u240 u241 u242 u243 u244 u245 u246 u247 u248 u249 u250 u251 u252 u253 u254 u255 u256 u257 u258 u259 u260 u261 u262 u263 u264 u265 u266 u267 u268 u269 u270 u271 u272 u273 : Value) (ao : Option Addr) (n cv : Nat) (W' : World), DV w Q u (lastE a (runsL u.data.toList 1 [46] a)) 0 0 c0 (.slice ao n cv) c2 c3 c4 c5 c6 c7 (.slice none 0 0) (txsV (rowL u.data.toList (runsL u.data.toList 1 [46] a))) [] W' → K ⟨#[u0, u1, .pointer (some ⟨w.heap.size, 0, none⟩), .pointer (some ⟨w.heap.size + 1, 0, none⟩), .pointer (some ⟨Q, 0, none⟩), .pointer (some ⟨Q + 1, 0, none⟩), u6, u7, u8, u9, u10, u11, u12, u13, u14, u15, u16, u17, u18, u19, u20, u21, u22, u23, u24, u25, u26, u27, u28, u29, u30, u31, u32, u33, u34, u35, u36, u37, u38, u39, u40, u41, u42, u43, u44, u45, u46, u47, u48, u49, u50, u51, u52, u53, u54, u55, u56, u57, u58, u59, u60, u61, u62, u63, u64, u65, u66, u67, u68, u69, u70, u71, u72, u73, u74, u75, u76, u77, u78, u79, u80, u81, u82, u83, u84, u85, u86, u87, u88, u89, u90, u91, u92, u93, u94, u95, u96, u97, u98, u99, u100, u101, u102, u103, u104, u105, u106, u107, u108, u109, u110, u111, u112, u113, u114, u115, u116, u117, u118, u119, u120, u121, u122, u123, u124, u125, u126, u127, u128, u129, u130, u131, u132, u133, u134, u135, u136, u137, u138, u139, u140, u141, u142, u143, u144, u145, u146, u147, u148, u149, u150, u151, u152, u153, u154, u155, u156, u157, u158, u159, u160, u161, u162, u163, u164, u165, u166, u167, u168, u169, u170, u171, u172, u173, u174, u175, u176, u177, u178, u179, u180, u181, u182, u183, u184, u185, u186, u187, u188, u189, u190, u191, u192, u193, u194, u195, u196, u197, u198, u199, u200, u201, u202, u203, u204, u205, u206, u207, u208, u209, u210, u211, u212, u213, u214, u215, u216, u217, u218, u219, u220, u221, u222, u223, u224, u225, u226, u227, u228, u229, u230, u231, u232, u233, u234, u235, u236, u237, u238, u239, u240, u241, u242, u243, u244, u245, u246, u247, u248, u249, u250, u251, u252, u253, u254, u255, u256, u257, u258, u259, u260, u261, u262, u263, u264, u265, u266, u267, u268, u269, u270, u271, u272, u273], []⟩ W')
    :
    Code.wp Tryz.prog (stmtAt 9 (Tryz.f25.body.getD .skip)) (Exit.then K Q0) ⟨#[u0, u1, .pointer (some ⟨w.heap.size, 0, none⟩), .pointer (some ⟨w.heap.size + 1, 0, none⟩), .pointer (some ⟨Q, 0, none⟩), .pointer (some ⟨Q + 1, 0, none⟩), u6, u7, u8, u9, u10, u11, u12, u13, u14, u15, u16, u17, u18, u19, u20, u21, u22, u23, u24, u25, u26, u27, u28, u29, u30, u31, u32, u33, u34, u35, u36, u37, u38, u39, u40, u41, u42, u43, u44, u45, u46, u47, u48, u49, u50, u51, u52, u53, u54, u55, u56, u57, u58, u59, u60, u61, u62, u63, u64, u65, u66, u67, u68, u69, u70, u71, u72, u73, u74, u75, u76, u77, u78, u79, u80, u81, u82, u83, u84, u85, u86, u87, u88, u89, u90, u91, u92, u93, u94, u95, u96, u97, u98, u99, u100, u101, u102, u103, u104, u105, u106, u107, u108, u109, u110, u111, u112, u113, u114, u115, u116, u117, u118, u119, u120, u121, u122, u123, u124, u125, u126, u127, u128, u129, u130, u131, u132, u133, u134, u135, u136, u137, u138, u139, u140, u141, u142, u143, u144, u145, u146, u147, u148, u149, u150, u151, u152, u153, u154, u155, u156, u157, u158, u159, u160, u161, u162, u163, u164, u165, u166, u167, u168, u169, u170, u171, u172, u173, u174, u175, u176, u177, u178, u179, u180, u181, u182, u183, u184, u185, u186, u187, u188, u189, u190, u191, u192, u193, u194, u195, u196, u197, u198, u199, u200, u201, u202, u203, u204, u205, u206, u207, u208, u209, u210, u211, u212, u213, u214, u215, u216, u217, u218, u219, u220, u221, u222, u223, u224, u225, u226, u227, u228, u229, u230, u231, u232, u233, u234, u235, u236, u237, u238, u239, u240, u241, u242, u243, u244, u245, u246, u247, u248, u249, u250, u251, u252, u253, u254, u255, u256, u257, u258, u259, u260, u261, u262, u263, u264, u265, u266, u267, u268, u269, u270, u271, u272, u273], []⟩ W := by
  have HK := hide hk_
  clear hk_
  conv => arg 2; whnf
  have hlen : (runsL u.data.toList 1 [46] a).length ≤ 64 := by
    have := runs_len u.data.toList 1 [46] _ a rfl
    rw [len_data] at this
    omega
  obtain ⟨i0, hi, hz0, hz1, hz2⟩ := info_parts Tryz.info9
  have HLE : Hid (∀ st d, d ++ runsL u.data.toList 1 [46] st = runsL u.data.toList 1 [46] a → d.length ≤ 64) := fun st d h => by
    have := congrArg List.length h
    rw [List.length_append] at this
    omega
  clear hlen
  go_wp2_with fail
  dsimp only
  go_loopw [104] (fun _ wr => ∃ (st k : Nat) (d : List (Nat × Nat)) (ao : Option Addr) (cv : Nat), st < k ∧ k ≤ u.size ∧ DV w Q u k 0 0 c0 (.slice ao (d.length + 1) cv) c2 c3 c4 c5 c6 c7 (.slice none 0 0) (txsV (rowL u.data.toList (d ++ [(st, k)]))) [] wr ∧ Hid (st + runL 1 (u.data.toList.drop st) = k) ∧ Hid (d ++ runsL u.data.toList 1 [46] st = runsL u.data.toList 1 [46] a)) (fun _ wr => u.size - dplace wr Q)
  case atStart =>
    refine ⟨a, a + runL 1 (u.data.toList.drop a), [], ao, cv, by omega, runL_drop_le 1 u a ha, ?_, rfl, rfl⟩
    have e : rowL u.data.toList ([] ++ [(a, a + runL 1 (u.data.toList.drop a))]) = [trimL (seg u.data.toList a (a + runL 1 (u.data.toList.drop a)))] := by
      simp only [rowL, List.nil_append, List.map_cons, List.map_nil]
      rw [plain_run _ _ hrun]
    rw [e]
    exact D
  case round =>
    clear D
    obtain ⟨st, k, d, ao, cv, hst, hk, D1, HE, HL⟩ := hrel
    have hme := D1.rd.dplace
    have hdl := HLE.out st d HL.out
    have HNE : Hid (k ≠ st) := by show _ ≠ _; omega
    obtain ⟨r0, r1, r2, r3, g1, g2, g3⟩ := D1.rd.seen
    have I1 := hide (fun w h => RbyteIs_any Q u k 0 0 1 1 w h hk (by omega) hus)
    by_cases hks : k < u.size
    · have kd : ((k : Int) < (u.size : Int)) := by omega
      have kd2 : decide ((k : Int) < (u.size : Int)) = true := by simpa using kd
      have HA := hide (at_eq u k 46 hks)
      cases hb : ((u[k].toNat : Int) == 46)
      · have HLA : Hid (runsL u.data.toList 1 [46] st = [(st, k)]) := rels_last HE.out HNE.out (.inl (by rw [HA.out]; exact hb))
        clear HA I1 HE HNE
        go_wp2_with fail
        go_quiet (fail)
        have D2 := D1.drewN nq
        generalize wr.drewN nq = W2 at *
        clear D1
        go_wp2_with fail
        rw [← HL.out, HLA.out, lastE_snoc] at HK
        exact HK.out _ _ _ _ _ _ _ _ _ _ _ _ _ _ _ _ _ _ _ _ _ _ _ _ _ _ _ _ _ _ _ _ _ _ _ _ _ _ _ _ _ _ _ _ _ _ _ _ _ _ _ _ _ _ _ _ _ _ _ _ _ _ _ _ _ _ _ _ _ _ _ _ _ _ _ _ _ _ _ _ _ _ _ _ _ _ _ _ _ _ _ _ _ _ _ _ _ _ _ _ _ _ _ _ _ _ _ _ _ _ _ _ _ _ _ _ _ _ _ _ _ _ _ _ _ _ _ _ _ _ _ _ _ _ _ _ _ _ _ _ _ _ _ _ _ _ _ _ _ _ _ _ _ _ _ _ _ _ _ _ _ _ _ _ _ _ _ _ _ _ _ _ _ _ _ _ _ _ _ _ _ _ _ _ _ _ _ _ _ _ _ _ _ _ _ _ _ _ _ _ _ _ _ _ _ _ _ _ _ _ _ _ _ _ _ _ _ _ _ _ _ _ _ _ _ _ _ _ _ _ _ _ _ _ _ _ _ _ _ _ _ _ _ _ _ _ _ _ _ _ _ _ _ _ _ _ _ _ _ _ _ _ _ _ _ _ _ _ _ _ ao _ cv _ D2
      · cases hc : clsB u.data.toList (k + 1) 1
        · have HLA : Hid (runsL u.data.toList 1 [46] st = [(st, k)]) := rels_last HE.out HNE.out (.inr ⟨by rw [HA.out]; exact hb, hc⟩)
          rw [hc] at I1
          have IQ := hide (fun n => I1.out (wr.drewN n) (D1.rd.drewN n))
          clear HA I1 HE HNE hc
          go_wp2_with fail
          go_quiet (first | (go_at_call 54; exact Calls.quiet_of (IQ.out _)) | fail)
          have D2 := D1.drewN nq
          generalize wr.drewN nq = W2 at *
          clear D1
          go_wp2_with fail
          rw [← HL.out, HLA.out, lastE_snoc] at HK
          exact HK.out _ _ _ _ _ _ _ _ _ _ _ _ _ _ _ _ _ _ _ _ _ _ _ _ _ _ _ _ _ _ _ _ _ _ _ _ _ _ _ _ _ _ _ _ _ _ _ _ _ _ _ _ _ _ _ _ _ _ _ _ _ _ _ _ _ _ _ _ _ _ _ _ _ _ _ _ _ _ _ _ _ _ _ _ _ _ _ _ _ _ _ _ _ _ _ _ _ _ _ _ _ _ _ _ _ _ _ _ _ _ _ _ _ _ _ _ _ _ _ _ _ _ _ _ _ _ _ _ _ _ _ _ _ _ _ _ _ _ _ _ _ _ _ _ _ _ _ _ _ _ _ _ _ _ _ _ _ _ _ _ _ _ _ _ _ _ _ _ _ _ _ _ _ _ _ _ _ _ _ _ _ _ _ _ _ _ _ _ _ _ _ _ _ _ _ _ _ _ _ _ _ _ _ _ _ _ _ _ _ _ _ _ _ _ _ _ _ _ _ _ _ _ _ _ _ _ _ _ _ _ _ _ _ _ _ _ _ _ _ _ _ _ _ _ _ _ _ _ _ _ _ _ _ _ _ _ _ _ _ _ _ _ _ _ _ _ _ _ _ _ ao _ cv _ D2
        · have HMR : Hid (runsL u.data.toList 1 [46] st = (st, k) :: runsL u.data.toList 1 [46] (k + 1)) := rels_more HE.out HNE.out (by rw [HA.out]; exact hb)
          rw [hc] at I1
          have hk1 : k + 1 < u.size := by
            by_cases hl : k + 1 < u.size
            · exact hl
            · rw [clsB_out u _ _ hl] at hc; cases hc
          have hrun2 : runL 1 (u.data.toList.drop (k + 1)) ≠ 0 := fun h => by rw [(run_cls _ _ _).1 h] at hc; cases hc
          have HPR := hide (plain_run u.data.toList (k + 1) hrun2)
          have hrl := runL_drop_le 1 u (k + 1) (by omega)
          have DG := fun W h => Rdigits_any Q u (k + 1) 0 0 W h (by omega) hus
          have IQ := hide (fun n => I1.out (wr.drewN n) (D1.rd.drewN n))
          obtain ⟨E, hE⟩ : ∃ E, k + 1 + runL 1 (u.data.toList.drop (k + 1)) = E := ⟨_, rfl⟩
          rw [hE] at DG HPR hrl
          have hEk : k + 1 < E := by omega
          have HEE := hide hE
          have DG := hide DG
          have HSR : Hid (rowL u.data.toList (d ++ [(st, k)] ++ [(k + 1, E)]) = rowL u.data.toList (d ++ [(st, k)]) ++ [trimL (seg u.data.toList (k + 1) E)]) := by
            show _ = _
            rw [← HPR.out]
            simp [rowL]
          have hrl2 : (rowL u.data.toList (d ++ [(st, k)])).length = d.length + 1 := by simp [rowL]
          have hwk : IntKind.i64.wrap ((k : Int) + 1) = (k : Int) + 1 := by rw [IntKind.wrap_i64]; omega
          clear HA I1 HE HNE hc hE hrun2 HPR
          go_wp2_with fail
          go_quiet (first | (go_at_call 54; exact Calls.quiet_of (IQ.out _)) | fail)
          have D2 := D1.drewN nq
          generalize wr.drewN nq = W2 at *
          clear D1 r0 r1 r2 r3 g1 g2 g3
          obtain ⟨r0, r1, r2, r3, g1, g2, g3⟩ := D2.rd.seen
          go_wp2_with fail
          have D3' := D2.turn (Turn.set Q 1 W2 (.int .i64 ((k : Int) + 1))) D2.rd.step
          have D0 := D3'.drewN 1
          clear D3' D2 r0 r1 r2 r3 g1 g2 g3
          change DV w Q u (k + 1) 0 0 c0 (.slice ao (d.length + 1) cv) c2 c3 c4 c5 c6 c7 (.slice none 0 0) (txsV (rowL u.data.toList (d ++ [(st, k)]))) [] (World.drew _) at D0
          obtain ⟨v0, v1, v2, v3, v4, v5, v6, v7, v8⟩ := D0.seen
          refine (wpIn_wide (n := 5)).1 ?_
          refine wpIn_region_any (by kernel_rfl) ?_
          change wpAnyIn _ _ _ _ _ _ _ _ _ (World.drew _)
          generalize World.drew _ = W0 at *
          refine wpAnyIn_take (i := 0) (v := ?_) rfl rfl (by kernel_rfl) (by kernel_rfl) (by kernel_rfl) (fun _ _ _ h => hQ _ _ _ _ _ h) ⟨Or.inl ⟨by rfl, ?_⟩, fun _ => rfl⟩ ?_
          rotate_left
          · intro w; go_simp
            try with_reducible rfl
          refine wpAnyIn_take (i := 2) (v := ?_) rfl rfl (by kernel_rfl) (by kernel_rfl) (by kernel_rfl) (fun _ _ _ h => hQ _ _ _ _ _ h) ⟨Or.inl ⟨by rfl, ?_⟩, fun _ => rfl⟩ ?_
          rotate_left
          · intro w; go_simp
            try with_reducible rfl
          refine wpAnyIn_ready (rs := [1, 3]) (by kernel_rfl) (by simp) ?_
          refine AllReadyIn.cons rfl (fun K hK => ?_) ?_
          · go_simp
            refine hK _ _ ?_
            clear hK K
            refine wpAnyIn_ready (rs := [3]) (by kernel_rfl) (by simp) ?_
            refine AllReadyIn.cons rfl (fun K hK => ?_) ?_
            · go_simp
              refine ⟨trivial, ?_⟩
              refine (callsIn_wide.2 (DG.out _ D0.rd)).mono ?_
              rintro r w3 ⟨rfl, h3, t3⟩
              have D3 := D0.turn t3 h3
              obtain ⟨x0, x1, x2, x3, x4, x5, x6, x7, x8⟩ := D3.seen
              have hq3 := D3.szQ
              have hrel3 : w3.ownsRow (Q + 2) 9 1 (.slice ao (d.length + 1) cv) (d.length + 1) (txsV (rowL u.data.toList (d ++ [(st, k)]))) := (by have := D3.rel; rw [txsV_len, hrl2] at this; exact this)
              refine hK _ _ ?_
              clear hK K
              refine wpAnyIn_ready (rs := [4]) (by kernel_rfl) (by simp) ?_
              refine AllReadyIn.cons rfl (fun K hK => ?_) ?_
              · go_simp
                refine hK _ _ ?_
                clear hK K
                refine wpAnyIn_ready (rs := [5]) (by kernel_rfl) (by simp) ?_
                refine AllReadyIn.cons rfl (fun K hK => ?_) ?_
                · refine stepIn_append_own rfl _ _ 37 rfl (Q + 2) 9 i0 (.string .empty) 1 16 Tryz.underlying37 hi hz0 hz1 hz2 rfl (by decide) (.slice ao (d.length + 1) cv) (d.length + 1) (txsV (rowL u.data.toList (d ++ [(st, k)]))) rfl (hrel3.alloc _) ⟨w3.heap.size, 0, none⟩ 1 1 [.string (ofL (trimL (seg u.data.toList (k + 1) E)))] rfl rfl (cell_str_new _ _ _) (str_one _) (by unfold maxLen; omega) (by omega) (by simp; omega) ?_
                  intro v4 w4 hown4 hgrow4 _
                  obtain ⟨ao4, cv4, rfl⟩ := own_shape hown4
                  rw [own_block] at hgrow4
                  have hv4 : w4.heap[Q + 1]? = _ := (hgrow4.block (Q + 1) (by simp; omega) (fun e => by have := (own_lt hrel3 (Q + 1) e.symm).1; omega)).trans (D3.alloc _).ver
                  have y1 := cell_at 1 hv4 rfl
                  have yf := one_free 1 hv4
                  refine hK _ _ ?_
                  clear hK K
                  refine wpAnyIn_take (i := 6) (v := ?_) rfl rfl (by kernel_rfl) (by kernel_rfl) (by kernel_rfl) (fun _ _ _ h => hQ _ _ _ _ _ h) ⟨Or.inl ⟨by rfl, ?_⟩, fun _ => rfl⟩ ?_
                  rotate_left
                  · intro w; go_simp
                    try with_reducible rfl
                  refine wpAnyIn_ready (rs := [7]) (by kernel_rfl) (by simp) ?_
                  refine AllReadyIn.cons rfl (fun K hK => ?_) ?_
                  · go_simp
                    refine hK _ _ ?_
                    clear hK K
                    refine wpAnyIn_done (by kernel_rfl) ?_ _
                    have hown5 : w4.ownsRow (Q + 2) 9 1 (.slice ao4 (d.length + 1 + 1) cv4) (d.length + 1 + 1) (txsV (rowL u.data.toList (d ++ [(st, k)] ++ [(k + 1, E)]))) := by
                      rw [HSR.out, txsV_app]
                      exact hown4
                    have hgr5 : (w3.alloc (.cells #[.string (ofL (trimL (seg u.data.toList (k + 1) E)))] 9)).grownBy w4 (ao.map (·.block)) := hgrow4
                    have D5 := (D3.alloc (.cells #[.string (ofL (trimL (seg u.data.toList (k + 1) E)))] 9)).setRel (S := rowL u.data.toList (d ++ [(st, k)])) (S' := rowL u.data.toList (d ++ [(st, k)] ++ [(k + 1, E)])) hrl2.symm hgr5 hown5 (by simp [rowL]) rfl rfl
                    go_wp2_with fail
                    go_roundw
                    case rel => exact ⟨k + 1, E, d ++ [(st, k)], ao4, cv4, hEk, hrl, by simpa [List.length_append] using D5, HEE, by show _ = _; rw [List.append_assoc, ← HL.out, HMR.out]; rfl⟩
                    case measure =>
                      rw [D5.rd.dplace, hme]
                      omega
                  exact AllReadyIn.nil
                exact AllReadyIn.nil
              exact AllReadyIn.nil
            exact AllReadyIn.nil
          refine AllReadyIn.cons rfl (fun K hK => ?_) ?_
          · go_simp
            refine ⟨trivial, ?_⟩
            refine (callsIn_wide.2 (DG.out _ D0.rd)).mono ?_
            rintro r w3 ⟨rfl, h3, t3⟩
            have D3 := D0.turn t3 h3
            obtain ⟨x0, x1, x2, x3, x4, x5, x6, x7, x8⟩ := D3.seen
            have hq3 := D3.szQ
            have hrel3 : w3.ownsRow (Q + 2) 9 1 (.slice ao (d.length + 1) cv) (d.length + 1) (txsV (rowL u.data.toList (d ++ [(st, k)]))) := (by have := D3.rel; rw [txsV_len, hrl2] at this; exact this)
            refine hK _ _ ?_
            clear hK K
            refine wpAnyIn_ready (rs := [1, 4]) (by kernel_rfl) (by simp) ?_
            refine AllReadyIn.cons rfl (fun K hK => ?_) ?_
            · go_simp
              refine hK _ _ ?_
              clear hK K
              refine wpAnyIn_ready (rs := [4]) (by kernel_rfl) (by simp) ?_
              refine AllReadyIn.cons rfl (fun K hK => ?_) ?_
              · go_simp
                refine hK _ _ ?_
                clear hK K
                refine wpAnyIn_ready (rs := [5]) (by kernel_rfl) (by simp) ?_
                refine AllReadyIn.cons rfl (fun K hK => ?_) ?_
                · refine stepIn_append_own rfl _ _ 37 rfl (Q + 2) 9 i0 (.string .empty) 1 16 Tryz.underlying37 hi hz0 hz1 hz2 rfl (by decide) (.slice ao (d.length + 1) cv) (d.length + 1) (txsV (rowL u.data.toList (d ++ [(st, k)]))) rfl (hrel3.alloc _) ⟨w3.heap.size, 0, none⟩ 1 1 [.string (ofL (trimL (seg u.data.toList (k + 1) E)))] rfl rfl (cell_str_new _ _ _) (str_one _) (by unfold maxLen; omega) (by omega) (by simp; omega) ?_
                  intro v4 w4 hown4 hgrow4 _
                  obtain ⟨ao4, cv4, rfl⟩ := own_shape hown4
                  rw [own_block] at hgrow4
                  have hv4 : w4.heap[Q + 1]? = _ := (hgrow4.block (Q + 1) (by simp; omega) (fun e => by have := (own_lt hrel3 (Q + 1) e.symm).1; omega)).trans (D3.alloc _).ver
                  have y1 := cell_at 1 hv4 rfl
                  have yf := one_free 1 hv4
                  refine hK _ _ ?_
                  clear hK K
                  refine wpAnyIn_take (i := 6) (v := ?_) rfl rfl (by kernel_rfl) (by kernel_rfl) (by kernel_rfl) (fun _ _ _ h => hQ _ _ _ _ _ h) ⟨Or.inl ⟨by rfl, ?_⟩, fun _ => rfl⟩ ?_
                  rotate_left
                  · intro w; go_simp
                    try with_reducible rfl
                  refine wpAnyIn_ready (rs := [7]) (by kernel_rfl) (by simp) ?_
                  refine AllReadyIn.cons rfl (fun K hK => ?_) ?_
                  · go_simp
                    refine hK _ _ ?_
                    clear hK K
                    refine wpAnyIn_done (by kernel_rfl) ?_ _
                    have hown5 : w4.ownsRow (Q + 2) 9 1 (.slice ao4 (d.length + 1 + 1) cv4) (d.length + 1 + 1) (txsV (rowL u.data.toList (d ++ [(st, k)] ++ [(k + 1, E)]))) := by
                      rw [HSR.out, txsV_app]
                      exact hown4
                    have hgr5 : (w3.alloc (.cells #[.string (ofL (trimL (seg u.data.toList (k + 1) E)))] 9)).grownBy w4 (ao.map (·.block)) := hgrow4
                    have D5 := (D3.alloc (.cells #[.string (ofL (trimL (seg u.data.toList (k + 1) E)))] 9)).setRel (S := rowL u.data.toList (d ++ [(st, k)])) (S' := rowL u.data.toList (d ++ [(st, k)] ++ [(k + 1, E)])) hrl2.symm hgr5 hown5 (by simp [rowL]) rfl rfl
                    go_wp2_with fail
                    go_roundw
                    case rel => exact ⟨k + 1, E, d ++ [(st, k)], ao4, cv4, hEk, hrl, by simpa [List.length_append] using D5, HEE, by show _ = _; rw [List.append_assoc, ← HL.out, HMR.out]; rfl⟩
                    case measure =>
                      rw [D5.rd.dplace, hme]
                      omega
                  exact AllReadyIn.nil
                exact AllReadyIn.nil
              exact AllReadyIn.nil
            refine AllReadyIn.cons rfl (fun K hK => ?_) ?_
            · go_simp
              refine hK _ _ ?_
              clear hK K
              refine wpAnyIn_ready (rs := [1]) (by kernel_rfl) (by simp) ?_
              refine AllReadyIn.cons rfl (fun K hK => ?_) ?_
              · go_simp
                refine hK _ _ ?_
                clear hK K
                refine wpAnyIn_ready (rs := [5]) (by kernel_rfl) (by simp) ?_
                refine AllReadyIn.cons rfl (fun K hK => ?_) ?_
                · refine stepIn_append_own rfl _ _ 37 rfl (Q + 2) 9 i0 (.string .empty) 1 16 Tryz.underlying37 hi hz0 hz1 hz2 rfl (by decide) (.slice ao (d.length + 1) cv) (d.length + 1) (txsV (rowL u.data.toList (d ++ [(st, k)]))) rfl (hrel3.alloc _) ⟨w3.heap.size, 0, none⟩ 1 1 [.string (ofL (trimL (seg u.data.toList (k + 1) E)))] rfl rfl (cell_str_new _ _ _) (str_one _) (by unfold maxLen; omega) (by omega) (by simp; omega) ?_
                  intro v4 w4 hown4 hgrow4 _
                  obtain ⟨ao4, cv4, rfl⟩ := own_shape hown4
                  rw [own_block] at hgrow4
                  have hv4 : w4.heap[Q + 1]? = _ := (hgrow4.block (Q + 1) (by simp; omega) (fun e => by have := (own_lt hrel3 (Q + 1) e.symm).1; omega)).trans (D3.alloc _).ver
                  have y1 := cell_at 1 hv4 rfl
                  have yf := one_free 1 hv4
                  refine hK _ _ ?_
                  clear hK K
                  refine wpAnyIn_take (i := 6) (v := ?_) rfl rfl (by kernel_rfl) (by kernel_rfl) (by kernel_rfl) (fun _ _ _ h => hQ _ _ _ _ _ h) ⟨Or.inl ⟨by rfl, ?_⟩, fun _ => rfl⟩ ?_
                  rotate_left
                  · intro w; go_simp
                    try with_reducible rfl
                  refine wpAnyIn_ready (rs := [7]) (by kernel_rfl) (by simp) ?_
                  refine AllReadyIn.cons rfl (fun K hK => ?_) ?_
                  · go_simp
                    refine hK _ _ ?_
                    clear hK K
                    refine wpAnyIn_done (by kernel_rfl) ?_ _
                    have hown5 : w4.ownsRow (Q + 2) 9 1 (.slice ao4 (d.length + 1 + 1) cv4) (d.length + 1 + 1) (txsV (rowL u.data.toList (d ++ [(st, k)] ++ [(k + 1, E)]))) := by
                      rw [HSR.out, txsV_app]
                      exact hown4
                    have hgr5 : (w3.alloc (.cells #[.string (ofL (trimL (seg u.data.toList (k + 1) E)))] 9)).grownBy w4 (ao.map (·.block)) := hgrow4
                    have D5 := (D3.alloc (.cells #[.string (ofL (trimL (seg u.data.toList (k + 1) E)))] 9)).setRel (S := rowL u.data.toList (d ++ [(st, k)])) (S' := rowL u.data.toList (d ++ [(st, k)] ++ [(k + 1, E)])) hrl2.symm hgr5 hown5 (by simp [rowL]) rfl rfl
                    go_wp2_with fail
                    go_roundw
                    case rel => exact ⟨k + 1, E, d ++ [(st, k)], ao4, cv4, hEk, hrl, by simpa [List.length_append] using D5, HEE, by show _ = _; rw [List.append_assoc, ← HL.out, HMR.out]; rfl⟩
                    case measure =>
                      rw [D5.rd.dplace, hme]
                      omega
                  exact AllReadyIn.nil
                exact AllReadyIn.nil
              exact AllReadyIn.nil
            exact AllReadyIn.nil
          exact AllReadyIn.nil
    · have kd : ¬ ((k : Int) < (u.size : Int)) := by omega
      have kd2 : decide ((k : Int) < (u.size : Int)) = false := by simpa using kd
      have HA := hide (at_neq u k 46 hks)
      have HLA : Hid (runsL u.data.toList 1 [46] st = [(st, k)]) := rels_last HE.out HNE.out (.inl HA.out)
      clear HA I1 HE HNE
      go_wp2_with fail
      go_quiet (fail)
      have D2 := D1.drewN nq
      generalize wr.drewN nq = W2 at *
      clear D1
      go_wp2_with fail
      rw [← HL.out, HLA.out, lastE_snoc] at HK
      exact HK.out _ _ _ _ _ _ _ _ _ _ _ _ _ _ _ _ _ _ _ _ _ _ _ _ _ _ _ _ _ _ _ _ _ _ _ _ _ _ _ _ _ _ _ _ _ _ _ _ _ _ _ _ _ _ _ _ _ _ _ _ _ _ _ _ _ _ _ _ _ _ _ _ _ _ _ _ _ _ _ _ _ _ _ _ _ _ _ _ _ _ _ _ _ _ _ _ _ _ _ _ _ _ _ _ _ _ _ _ _ _ _ _ _ _ _ _ _ _ _ _ _ _ _ _ _ _ _ _ _ _ _ _ _ _ _ _ _ _ _ _ _ _ _ _ _ _ _ _ _ _ _ _ _ _ _ _ _ _ _ _ _ _ _ _ _ _ _ _ _ _ _ _ _ _ _ _ _ _ _ _ _ _ _ _ _ _ _ _ _ _ _ _ _ _ _ _ _ _ _ _ _ _ _ _ _ _ _ _ _ _ _ _ _ _ _ _ _ _ _ _ _ _ _ _ _ _ _ _ _ _ _ _ _ _ _ _ _ _ _ _ _ _ _ _ _ _ _ _ _ _ _ _ _ _ _ _ _ _ _ _ _ _ _ _ _ _ _ _ _ _ ao _ cv _ D2

end Go.Proofs.YtabmfdedbpmfmaaGreat
