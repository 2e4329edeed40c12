/-
  Walks: the document's Parse, no release. · Walks: the document's Parse, plain laws of its ends.
-/
import Derived.Test.YtabmfdedbpmfmaaGreatSXg
namespace Go.Proofs.YtabmfdedbpmfmaaGreat
open Go.RowKit Go.Shelf
set_option linter.unusedVariables false

attribute [local go_sem] Oper.semAt_some

structure RES (w : World) (cs : Array Value) (e p : Int) (W : World) : Prop where
  bel : Below w.heap.size w W
  res : W.heap[w.heap.size]? = some (.cells cs 44 (0, 0))
  fau : W.heap[w.heap.size + 1]? = some (.cells #[.int .i64 e, .int .i64 p] 25 (0, 0))
theorem two_world {W : World} {B C : Nat} {z0 z1 : Value} (a b : Value) (hBC : B ≠ C) (cs : Array Value) (hB : W.heap[B]? = some (.cells cs 44 (0, 0))) (k : W.heap[C]? = some (.cells #[z0, z1] 25 (0, 0))) :
    ∃ W', W' = (W.setCell ⟨C, 0, none⟩ a).setCell ⟨C, 1, none⟩ b ∧ W'.heap[C]? = some (.cells #[a, b] 25 (0, 0)) ∧ W'.heap[B]? = some (.cells cs 44 (0, 0)) ∧ Turn C W W' := by
  have k0 : (W.setCell ⟨C, 0, none⟩ a).heap[C]? = some (.cells #[a, z1] 25 (0, 0)) := set_lies 0 a k
  refine ⟨_, rfl, set_lies 1 b k0, ?_, (Turn.set _ _ _ _).trans (Turn.set _ _ _ _)⟩
  exact (((Turn.set C 0 W a).trans (Turn.set C 1 _ b)).block B (Array.getElem?_eq_some_iff.1 hB).1 hBC).trans hB
theorem res_put {w : World} {cs : Array Value} {z0 z1 : Value} {W : World} (e p : Int) (hb : Below w.heap.size w W) (h0 : W.heap[w.heap.size]? = some (.cells cs 44 (0, 0))) (h1 : W.heap[w.heap.size + 1]? = some (.cells #[z0, z1] 25 (0, 0))) : RES w cs e p ((W.setCell ⟨w.heap.size + 1, 0, none⟩ (.int .i64 e)).setCell ⟨w.heap.size + 1, 1, none⟩ (.int .i64 p)) := by
  obtain ⟨W', rfl, q1, q2, q3⟩ := two_world (.int .i64 e) (.int .i64 p) (by omega) cs h0 h1
  exact ⟨hb.trans (q3.below (by omega) hb.size), q2, q1⟩
theorem RES.drew {w : World} {cs : Array Value} {e p : Int} {W : World} (h : RES w cs e p W) : RES w cs e p W.drew := ⟨h.bel.drew, h.res, h.fau⟩

set_option maxRecDepth 1000000 in
set_option maxHeartbeats 2000000 in
theorem st7 {w : World} {Q : Nat} {u : ByteArray} {W : World} {a : Nat} {c0 c1 c2 c3 c4 c5 c6 c7 c8 : Value} {xs ys : List Value} {u0 u1 u6 u7 u8 u9 u10 u11 u12 u13 u14 u15 u16 u17 u18 u19 u20 u21 u22 u23 u24 u25 u26 u27 u28 u29 u30 u31 u32 u33 u34 u35 u36 u37 u38 u39 u40 u41 u42 u43 u44 u45 u46 u47 u48 u49 u50 u51 u52 u53 u54 u55 u56 u57 u58 u59 u60 u61 u62 u63 u64 u65 u66 u67 u68 u69 u70 u71 u72 u73 u74 u75 u76 u77 u78 u79 u80 u81 u82 u83 u84 u85 u86 u87 u88 u89 u90 u91 u92 u93 u94 u95 u96 u97 u98 u99 u100 u101 u102 u103 u104 u105 u106 u107 u108 u109 u110 u111 u112 u113 u114 u115 u116 u117 u118 u119 u120 u121 u122 u123 u124 u125 u126 u127 u128 u129 u130 u131 u132 u133 u134 u135 u136 u137 u138 u139 u140 u141 u142 u143 u144 u145 u146 u147 u148 u149 u150 u151 u152 u153 u154 u155 u156 u157 u158 u159 u160 u161 u162 u163 u164 u165 u166 u167 u168 u169 u170 u171 u172 u173 u174 u175 u176 u177 u178 u179 u180 u181 u182 u183 u184 u185 u186 u187 u188 u189 u190 u191 u192 u193 u194 u195 u196 u197 u198 u199 u200 u201 u202 u203 u204 u205 u206 u207 u208 u209 u210 u211 u212 u213 u214 u215 u216 u217 u218 u219 u220 u221 u222 u223 u224 u225 u226 u227 u228 u229 u230 u231 u232 u233 u234 u235 u236 u237 u238 u239 u240 u241 u242 u243 u244 u245 u246 u247 u248 u249 u250 u251 u252 u253 u254 u255 u256 u257 u258 u259 u260 u261 u262 u263 u264 u265 u266 u267 u268 u269 u270 u271 u272 u273 : Value} {K : Act → World → Prop} {Q0 : Exit → Act → World → Prop} (hus : u.size ≤ 64)
    (ha : a ≤ u.size) (D2 : DV w Q u a 0 0 c0 c1 c2 c3 c4 c5 c6 c7 c8 xs ys W)
    (hk_ : ∀ (u0 u1 u6 u7 u8 u9 u10 u11 u12 u13 u14 u15 u16 u17 u18 u19 u20 u21 u22 u23 u24 u25 u26 u27 u28 u29 u30 u31 u32 u33 u34 u35 u36 u37 u38 u39 u40 u41 u42 u43 u44 u45 u46 u47 u48 u49 u50 u51 u52 u53 u54 u55 u56 u57 u58 u59 u60 u61 u62 u63 u64 u65 u66 u67 u68 u69 u70 u71 u72 u73 u74 u75 u76 u77 u78 u79 u80 u81 u82 u83 u84 u85 u86 u87 u88 u89 u90 u91 u92 u93 u94 u95 u96 u97 u98 u99 u100 u101 u102 u103 u104 u105 u106 u107 u108 u109 u110 u111 u112 u113 u114 u115 u116 u117 u118 u119 u120 u121 u122 u123 u124 u125 u126 u127 u128 u129 u130 u131 u132 u133 u134 u135 u136 u137 u138 u139 u140 u141 u142 u143 u144 u145 u146 u147 u148 u149 u150 u151 u152 u153 u154 u155 u156 u157 u158 u159 u160 u161 u162 u163 u164 u165 u166 u167 u168 u169 u170 u171 u172 u173 u174 u175 u176 u177 u178 u179 u180 u181 u182 u183 u184 u185 u186 u187 u188 u189 u190 u191 u192 u193 u194 u195 u196 u197 u198 u199 u200 u201 u202 u203 u204 u205 u206 u207 u208 u209 u210 u211 u212 u213 u214 u215 u216 u217 u218 u219 u220 u221 u222 u223 u224 u225 u226 u227 u228 u229 u230 u231 u232 u233 u234 u235 u236 u237 u238 u239 u240 u241 u242 u243 u244 u245 u246 u247 u248 u249 u250 u251 u252 u253 u254 u255 u256 u257 u258 u259 u260 u261 u262 u263 u264 u265 u266 u267 u268 u269 u270 u271 u272 u273 : Value) (W' : World), clsB u.data.toList a 1 = true ∧ DV w Q u a 0 0 c0 c1 c2 c3 c4 c5 c6 c7 c8 xs ys W' → K ⟨#[u0, u1, .pointer (some ⟨w.heap.size, 0, none⟩), .pointer (some ⟨w.heap.size + 1, 0, none⟩), .pointer (some ⟨Q, 0, none⟩), .pointer (some ⟨Q + 1, 0, none⟩), u6, u7, u8, u9, u10, u11, u12, u13, u14, u15, u16, u17, u18, u19, u20, u21, u22, u23, u24, u25, u26, u27, u28, u29, u30, u31, u32, u33, u34, u35, u36, u37, u38, u39, u40, u41, u42, u43, u44, u45, u46, u47, u48, u49, u50, u51, u52, u53, u54, u55, u56, u57, u58, u59, u60, u61, u62, u63, u64, u65, u66, u67, u68, u69, u70, u71, u72, u73, u74, u75, u76, u77, u78, u79, u80, u81, u82, u83, u84, u85, u86, u87, u88, u89, u90, u91, u92, u93, u94, u95, u96, u97, u98, u99, u100, u101, u102, u103, u104, u105, u106, u107, u108, u109, u110, u111, u112, u113, u114, u115, u116, u117, u118, u119, u120, u121, u122, u123, u124, u125, u126, u127, u128, u129, u130, u131, u132, u133, u134, u135, u136, u137, u138, u139, u140, u141, u142, u143, u144, u145, u146, u147, u148, u149, u150, u151, u152, u153, u154, u155, u156, u157, u158, u159, u160, u161, u162, u163, u164, u165, u166, u167, u168, u169, u170, u171, u172, u173, u174, u175, u176, u177, u178, u179, u180, u181, u182, u183, u184, u185, u186, u187, u188, u189, u190, u191, u192, u193, u194, u195, u196, u197, u198, u199, u200, u201, u202, u203, u204, u205, u206, u207, u208, u209, u210, u211, u212, u213, u214, u215, u216, u217, u218, u219, u220, u221, u222, u223, u224, u225, u226, u227, u228, u229, u230, u231, u232, u233, u234, u235, u236, u237, u238, u239, u240, u241, u242, u243, u244, u245, u246, u247, u248, u249, u250, u251, u252, u253, u254, u255, u256, u257, u258, u259, u260, u261, u262, u263, u264, u265, u266, u267, u268, u269, u270, u271, u272, u273], []⟩ W')
    (hr_ : ∀ (u0 u1 u6 u7 u8 u9 u10 u11 u12 u13 u14 u15 u16 u17 u18 u19 u20 u21 u22 u23 u24 u25 u26 u27 u28 u29 u30 u31 u32 u33 u34 u35 u36 u37 u38 u39 u40 u41 u42 u43 u44 u45 u46 u47 u48 u49 u50 u51 u52 u53 u54 u55 u56 u57 u58 u59 u60 u61 u62 u63 u64 u65 u66 u67 u68 u69 u70 u71 u72 u73 u74 u75 u76 u77 u78 u79 u80 u81 u82 u83 u84 u85 u86 u87 u88 u89 u90 u91 u92 u93 u94 u95 u96 u97 u98 u99 u100 u101 u102 u103 u104 u105 u106 u107 u108 u109 u110 u111 u112 u113 u114 u115 u116 u117 u118 u119 u120 u121 u122 u123 u124 u125 u126 u127 u128 u129 u130 u131 u132 u133 u134 u135 u136 u137 u138 u139 u140 u141 u142 u143 u144 u145 u146 u147 u148 u149 u150 u151 u152 u153 u154 u155 u156 u157 u158 u159 u160 u161 u162 u163 u164 u165 u166 u167 u168 u169 u170 u171 u172 u173 u174 u175 u176 u177 u178 u179 u180 u181 u182 u183 u184 u185 u186 u187 u188 u189 u190 u191 u192 u193 u194 u195 u196 u197 u198 u199 u200 u201 u202 u203 u204 u205 u206 u207 u208 u209 u210 u211 u212 u213 u214 u215 u216 u217 u218 u219 u220 u221 u222 u223 u224 u225 u226 u227 u228 u229 u230 u231 u232 u233 u234 u235 u236 u237 u238 u239 u240 u241 u242 u243 u244 u245 u246 u247 u248 u249 u250 u251 u252 u253 u254 u255 u256 u257 u258 u259 u260 u261 u262 u263 u264 u265 u266 u267 u268 u269 u270 u271 u272 u273 : Value) (W' : World), clsB u.data.toList a 1 = false ∧ RES w #[.string ⟨#[]⟩, .slice none 0 0, .int .u8 0, .string ⟨#[]⟩, .bool false, .string ⟨#[]⟩, .bool false, .string ⟨#[]⟩, .slice none 0 0] (misL u.size a) (a : Int) W' → Q0 .ret ⟨#[u0, u1, .pointer (some ⟨w.heap.size, 0, none⟩), .pointer (some ⟨w.heap.size + 1, 0, none⟩), .pointer (some ⟨Q, 0, none⟩), .pointer (some ⟨Q + 1, 0, none⟩), u6, u7, u8, u9, u10, u11, u12, u13, u14, u15, u16, u17, u18, u19, u20, u21, u22, u23, u24, u25, u26, u27, u28, u29, u30, u31, u32, u33, u34, u35, u36, u37, u38, u39, u40, u41, u42, u43, u44, u45, u46, u47, u48, u49, u50, u51, u52, u53, u54, u55, u56, u57, u58, u59, u60, u61, u62, u63, u64, u65, u66, u67, u68, u69, u70, u71, u72, u73, u74, u75, u76, u77, u78, u79, u80, u81, u82, u83, u84, u85, u86, u87, u88, u89, u90, u91, u92, u93, u94, u95, u96, u97, u98, u99, u100, u101, u102, u103, u104, u105, u106, u107, u108, u109, u110, u111, u112, u113, u114, u115, u116, u117, u118, u119, u120, u121, u122, u123, u124, u125, u126, u127, u128, u129, u130, u131, u132, u133, u134, u135, u136, u137, u138, u139, u140, u141, u142, u143, u144, u145, u146, u147, u148, u149, u150, u151, u152, u153, u154, u155, u156, u157, u158, u159, u160, u161, u162, u163, u164, u165, u166, u167, u168, u169, u170, u171, u172, u173, u174, u175, u176, u177, u178, u179, u180, u181, u182, u183, u184, u185, u186, u187, u188, u189, u190, u191, u192, u193, u194, u195, u196, u197, u198, u199, u200, u201, u202, u203, u204, u205, u206, u207, u208, u209, u210, u211, u212, u213, u214, u215, u216, u217, u218, u219, u220, u221, u222, u223, u224, u225, u226, u227, u228, u229, u230, u231, u232, u233, u234, u235, u236, u237, u238, u239, u240, u241, u242, u243, u244, u245, u246, u247, u248, u249, u250, u251, u252, u253, u254, u255, u256, u257, u258, u259, u260, u261, u262, u263, u264, u265, u266, u267, u268, u269, u270, u271, u272, u273], []⟩ W')
    :
    Code.wp Tryz.prog (stmtAt 7 (Tryz.f25.body.getD .skip)) (Exit.then K Q0) ⟨#[u0, u1, .pointer (some ⟨w.heap.size, 0, none⟩), .pointer (some ⟨w.heap.size + 1, 0, none⟩), .pointer (some ⟨Q, 0, none⟩), .pointer (some ⟨Q + 1, 0, none⟩), u6, u7, u8, u9, u10, u11, u12, u13, u14, u15, u16, u17, u18, u19, u20, u21, u22, u23, u24, u25, u26, u27, u28, u29, u30, u31, u32, u33, u34, u35, u36, u37, u38, u39, u40, u41, u42, u43, u44, u45, u46, u47, u48, u49, u50, u51, u52, u53, u54, u55, u56, u57, u58, u59, u60, u61, u62, u63, u64, u65, u66, u67, u68, u69, u70, u71, u72, u73, u74, u75, u76, u77, u78, u79, u80, u81, u82, u83, u84, u85, u86, u87, u88, u89, u90, u91, u92, u93, u94, u95, u96, u97, u98, u99, u100, u101, u102, u103, u104, u105, u106, u107, u108, u109, u110, u111, u112, u113, u114, u115, u116, u117, u118, u119, u120, u121, u122, u123, u124, u125, u126, u127, u128, u129, u130, u131, u132, u133, u134, u135, u136, u137, u138, u139, u140, u141, u142, u143, u144, u145, u146, u147, u148, u149, u150, u151, u152, u153, u154, u155, u156, u157, u158, u159, u160, u161, u162, u163, u164, u165, u166, u167, u168, u169, u170, u171, u172, u173, u174, u175, u176, u177, u178, u179, u180, u181, u182, u183, u184, u185, u186, u187, u188, u189, u190, u191, u192, u193, u194, u195, u196, u197, u198, u199, u200, u201, u202, u203, u204, u205, u206, u207, u208, u209, u210, u211, u212, u213, u214, u215, u216, u217, u218, u219, u220, u221, u222, u223, u224, u225, u226, u227, u228, u229, u230, u231, u232, u233, u234, u235, u236, u237, u238, u239, u240, u241, u242, u243, u244, u245, u246, u247, u248, u249, u250, u251, u252, u253, u254, u255, u256, u257, u258, u259, u260, u261, u262, u263, u264, u265, u266, u267, u268, u269, u270, u271, u272, u273], []⟩ W := by
  have HK := hide hk_
  clear hk_
  have HR := hide hr_
  clear hr_
  conv => arg 2; whnf
  have I0 := hide (fun w h => RbyteIs_any Q u a 0 0 0 1 w h ha (by omega) hus)
  simp only [Nat.add_zero] at I0
  cases hc : clsB u.data.toList a 1
  · rw [hc] at I0
    have FL := hide (fun w h => Rfail_any Q u a 0 w h ha hus)
    go_wp2_with fail
    refine (I0.out _ D2.rd).mono ?_
    rintro r w3 ⟨rfl, n3, hw3⟩
    have D3 : DV w Q u a 0 0 c0 c1 c2 c3 c4 c5 c6 c7 c8 xs ys w3 := by rw [hw3]; exact D2.drewN _
    clear hw3 D2
    dsimp only
    go_wp2_with fail
    refine (FL.out _ D3.rd).mono ?_
    rintro r w4 ⟨rfl, h4, t4⟩
    have D4 := D3.turn t4 h4
    dsimp only
    clear D3 t4 h4
    obtain ⟨r0, r1, r2, r3, g1, g2, g3⟩ := D4.rd.seen
    obtain ⟨v0, v1, v2, v3, v4, v5, v6, v7, v8⟩ := D4.seen
    have q := seen9 D4.res
    obtain ⟨q0, q1, q2, q3, q4, q5, q6, q7, q8⟩ := q
    have p0 := cell_at 0 D4.fau rfl
    have p1 := cell_at 1 D4.fau rfl
    have x0 := one_free 0 D4.res
    have x1 := one_free 1 D4.res
    have x2 := one_free 2 D4.res
    have x3 := one_free 3 D4.res
    have x4 := one_free 4 D4.res
    have x5 := one_free 5 D4.res
    have x6 := one_free 6 D4.res
    have x7 := one_free 7 D4.res
    have x8 := one_free 8 D4.res
    have y0 := one_free 0 D4.fau
    have y1 := one_free 1 D4.fau
    have hlt := D4.lt
    go_wp2_with fail
    go_region
    go_wp2_with fail
    obtain ⟨W9, hW9, n9, t9⟩ := nine_world (W := w4) (.string ⟨#[]⟩) (.slice none 0 0) (.int .u8 0) (.string ⟨#[]⟩) (.bool false) (.string ⟨#[]⟩) (.bool false) (.string ⟨#[]⟩) (.slice none 0 0) D4.res
    rw [← hW9]
    have b9 : Below w.heap.size w W9 := D4.bel.trans (t9.below (Nat.le_refl _) D4.bel.size)
    have f9 : W9.heap[w.heap.size + 1]? = _ := (t9.block _ (Array.getElem?_eq_some_iff.1 D4.fau).1 (by omega)).trans D4.fau
    exact HR.out _ _ _ _ _ _ _ _ _ _ _ _ _ _ _ _ _ _ _ _ _ _ _ _ _ _ _ _ _ _ _ _ _ _ _ _ _ _ _ _ _ _ _ _ _ _ _ _ _ _ _ _ _ _ _ _ _ _ _ _ _ _ _ _ _ _ _ _ _ _ _ _ _ _ _ _ _ _ _ _ _ _ _ _ _ _ _ _ _ _ _ _ _ _ _ _ _ _ _ _ _ _ _ _ _ _ _ _ _ _ _ _ _ _ _ _ _ _ _ _ _ _ _ _ _ _ _ _ _ _ _ _ _ _ _ _ _ _ _ _ _ _ _ _ _ _ _ _ _ _ _ _ _ _ _ _ _ _ _ _ _ _ _ _ _ _ _ _ _ _ _ _ _ _ _ _ _ _ _ _ _ _ _ _ _ _ _ _ _ _ _ _ _ _ _ _ _ _ _ _ _ _ _ _ _ _ _ _ _ _ _ _ _ _ _ _ _ _ _ _ _ _ _ _ _ _ _ _ _ _ _ _ _ _ _ _ _ _ _ _ _ _ _ _ _ _ _ _ _ _ _ _ _ _ _ _ _ _ _ _ _ _ _ _ _ _ _ _ _ _ _ ⟨hc, (res_put _ _ b9 n9 f9).drew⟩
  · rw [hc] at I0
    have HC := hide hc
    clear hc
    go_wp2_with fail
    refine (I0.out _ D2.rd).mono ?_
    rintro r w3 ⟨rfl, n3, hw3⟩
    have D3 : DV w Q u a 0 0 c0 c1 c2 c3 c4 c5 c6 c7 c8 xs ys w3 := by rw [hw3]; exact D2.drewN _
    clear hw3 D2
    dsimp only
    go_wp2_with fail
    exact HK.out _ _ _ _ _ _ _ _ _ _ _ _ _ _ _ _ _ _ _ _ _ _ _ _ _ _ _ _ _ _ _ _ _ _ _ _ _ _ _ _ _ _ _ _ _ _ _ _ _ _ _ _ _ _ _ _ _ _ _ _ _ _ _ _ _ _ _ _ _ _ _ _ _ _ _ _ _ _ _ _ _ _ _ _ _ _ _ _ _ _ _ _ _ _ _ _ _ _ _ _ _ _ _ _ _ _ _ _ _ _ _ _ _ _ _ _ _ _ _ _ _ _ _ _ _ _ _ _ _ _ _ _ _ _ _ _ _ _ _ _ _ _ _ _ _ _ _ _ _ _ _ _ _ _ _ _ _ _ _ _ _ _ _ _ _ _ _ _ _ _ _ _ _ _ _ _ _ _ _ _ _ _ _ _ _ _ _ _ _ _ _ _ _ _ _ _ _ _ _ _ _ _ _ _ _ _ _ _ _ _ _ _ _ _ _ _ _ _ _ _ _ _ _ _ _ _ _ _ _ _ _ _ _ _ _ _ _ _ _ _ _ _ _ _ _ _ _ _ _ _ _ _ _ _ _ _ _ _ _ _ _ _ _ _ _ _ _ _ _ _ _ ⟨HC.out, D3⟩

end Go.Proofs.YtabmfdedbpmfmaaGreat

namespace Go.Proofs.YtabmfdedbpmfmaaGreat
open Go.RowKit Go.Shelf
set_option linter.unusedVariables false

attribute [local go_sem] Oper.semAt_some

theorem fin6 {R : Ending → World → Prop} (tmps : Array Value) (W : World) (B C : Nat) (x y : Int) (e : ByteArray) (vr : Value) (c : Int) (n : ByteArray) (b : Bool) (m : ByteArray) (d : Bool) (k : ByteArray) (vl : Value) (op : ∃ a i c, vr = .slice a i c) (ob : ∃ a i c, vl = .slice a i c)
    (h2 : tmps.getD 2 undef = .pointer (some ⟨B, 0, none⟩)) (h3 : tmps.getD 3 undef = .pointer (some ⟨C, 0, none⟩)) (e1 : W.heap[B]? = some (.cells #[.string e, vr, .int .u8 c, .string n, .bool b, .string m, .bool d, .string k, vl] 44 (0, 0))) (e2 : W.heap[C]? = some (.cells #[.int .i64 x, .int .i64 y] 25 (0, 0)))
    (hR : R (.returned (.tuple #[pepV e vr c n b m d k vl, .agg #[.int .i64 x, .int .i64 y]])) W) :
    bodyPost Tryz.prog Tryz.f25 R .ret { tmps := tmps, defers := [] } W := by
  obtain ⟨a1, i1, c1, rfl⟩ := op
  obtain ⟨a2, i2, c2, rfl⟩ := ob
  obtain ⟨r0, r1, r2, r3, r4, r5, r6, r7, r8⟩ := seen9 e1
  have s0 := cell_at 0 e2 rfl
  have s1 := cell_at 1 e2 rfl
  rw [Array.getD_eq_getD_getElem?] at h2 h3
  refine ⟨rfl, _, ?_, hR⟩
  simp [results, Tryz.results25, go_sem, h2, h3, r0, r1, r2, r3, r4, r5, r6, r7, r8, s0, s1]
  try rfl
theorem pp_err {l : List UInt8} {w W : World} (hl : l.length ≤ 64) (hb : Below w.heap.size w W) (he : (verX (lowL l)).1 ≠ 0) : PPost l w (.returned (.tuple #[pepV ⟨#[]⟩ (.slice none 0 0) 0 ⟨#[]⟩ false ⟨#[]⟩ false ⟨#[]⟩ (.slice none 0 0), .agg #[.int .i64 (verX (lowL l)).1, .int .i64 ((verX (lowL l)).2 : Int)]])) W := by
  refine ⟨hb, ?_⟩
  rw [if_neg (by omega), if_neg he]
  rfl
theorem pp_ok {l : List UInt8} {w W : World} {vr vl : Value} (hl : l.length ≤ 64) (hb : Below w.heap.size w W) (he : (verX (lowL l)).1 = 0)
    (h1 : W.ownsRow w.heap.size 9 1 vr (vals (lowL l) (vrel (lowL l))).length (vals (lowL l) (vrel (lowL l)))) (h2 : W.ownsRow w.heap.size 9 1 vl (vals (lowL l) (vlocs (lowL l))).length (vals (lowL l) (vlocs (lowL l)))) :
    PPost l w (.returned (.tuple #[pepV (ofL (epoT (lowL l) (vp1 (lowL l)))) vr (preC (lowL l) (vp3 (lowL l))) (ofL (stN (lowL l) (vp3 (lowL l)) preWs)) (posB (lowL l) (vp4 (lowL l))) (ofL (posN (lowL l) (vp4 (lowL l)))) (wordL (lowL l) (vp5 (lowL l)) devWs).isSome (ofL (stN (lowL l) (vp5 (lowL l)) devWs)) vl, .agg #[.int .i64 0, .int .i64 0]])) W := by
  refine ⟨hb, ?_⟩
  rw [if_neg (by omega), if_pos he]
  exact ⟨_, rfl, ⟨vr, vl, rfl, h1, h2⟩⟩
theorem vp1_le (u : ByteArray) : vp1 u.data.toList ≤ u.size := by have := (skip_le u.data.toList 0 [118] (Nat.zero_le _)).2; rw [len_data] at this; exact this
theorem vp2_le (u : ByteArray) : vp2 u.data.toList ≤ u.size := by have := (epo_le u.data.toList (vp1 u.data.toList) (by rw [len_data]; exact vp1_le u)).2; rw [len_data] at this; exact this
theorem vp3_le (u : ByteArray) : vp3 u.data.toList ≤ u.size := by have := lastE_le u.data.toList 1 [46] (vp2 u.data.toList) (by rw [len_data]; exact vp2_le u); rw [len_data] at this; exact this
theorem vp4_le (u : ByteArray) : vp4 u.data.toList ≤ u.size := by have := (stP_le u.data.toList (vp3 u.data.toList) preWs (by rw [len_data]; exact vp3_le u)).2; rw [len_data] at this; exact this
theorem vp5_le (u : ByteArray) : vp5 u.data.toList ≤ u.size := by have := (posP_le u.data.toList (vp4 u.data.toList) (by rw [len_data]; exact vp4_le u)).2; rw [len_data] at this; exact this
theorem vp6_le (u : ByteArray) : vp6 u.data.toList ≤ u.size := by have := (stP_le u.data.toList (vp5 u.data.toList) devWs (by rw [len_data]; exact vp5_le u)).2; rw [len_data] at this; exact this
theorem rel_none (u : ByteArray) (h : clsB u.data.toList (vp2 u.data.toList) 1 = false) : (verX u.data.toList).1 = misL u.size (vp2 u.data.toList) ∧ (verX u.data.toList).2 = vp2 u.data.toList := by
  have hv : vrel u.data.toList = [] := runs_none _ _ _ _ ((run_cls _ _ _).2 h)
  have h3 : vp3 u.data.toList = vp2 u.data.toList := by unfold vp3; rw [hv]; rfl
  unfold verX
  rw [hv]
  simp only [List.length_nil, if_true]
  rw [h3, len_data]
  exact ⟨rfl, rfl⟩
theorem rel_some (u : ByteArray) (h : clsB u.data.toList (vp2 u.data.toList) 1 = true) : (vrel u.data.toList).length ≠ 0 ∧ runL 1 (u.data.toList.drop (vp2 u.data.toList)) ≠ 0 := by
  have hr : runL 1 (u.data.toList.drop (vp2 u.data.toList)) ≠ 0 := fun e => by rw [(run_cls _ _ _).1 e] at h; cases h
  refine ⟨fun e => ?_, hr⟩
  have hv : vrel u.data.toList = [] := List.length_eq_zero_iff.1 e
  unfold vrel at hv
  rw [runsL, if_neg hr] at hv
  cases hv

theorem dv_start {w w1 : World} (u : ByteArray) (b1 : Below ((w.alloc (.cells #[.string ⟨#[]⟩, .slice none 0 0, .int .u8 0, .string ⟨#[]⟩, .bool false, .string ⟨#[]⟩, .bool false, .string ⟨#[]⟩, .slice none 0 0] 44)).alloc (.cells #[.int .i64 0, .int .i64 0] 25)).heap.size ((w.alloc (.cells #[.string ⟨#[]⟩, .slice none 0 0, .int .u8 0, .string ⟨#[]⟩, .bool false, .string ⟨#[]⟩, .bool false, .string ⟨#[]⟩, .slice none 0 0] 44)).alloc (.cells #[.int .i64 0, .int .i64 0] 25)) w1) :
    DV w w1.heap.size u 0 0 0 (.string ⟨#[48]⟩) (.slice none 0 0) (.int .u8 0) (.string ⟨#[]⟩) (.bool false) (.string ⟨#[]⟩) (.bool false) (.string ⟨#[]⟩) (.slice none 0 0) [] [] ((w1.alloc (.cells #[.string u, .int .i64 0, .int .i64 0, .int .i64 0] 80)).alloc (.cells #[.string ⟨#[48]⟩, .slice none 0 0, .int .u8 0, .string ⟨#[]⟩, .bool false, .string ⟨#[]⟩, .bool false, .string ⟨#[]⟩, .slice none 0 0] 44)) := by
  have hs := b1.size
  simp only [World.size_alloc] at hs
  have k0 := World.alloc_heap_new w (.cells #[.string ⟨#[]⟩, .slice none 0 0, .int .u8 0, .string ⟨#[]⟩, .bool false, .string ⟨#[]⟩, .bool false, .string ⟨#[]⟩, .slice none 0 0] 44)
  have k1 := World.alloc_heap_new (w.alloc (.cells #[.string ⟨#[]⟩, .slice none 0 0, .int .u8 0, .string ⟨#[]⟩, .bool false, .string ⟨#[]⟩, .bool false, .string ⟨#[]⟩, .slice none 0 0] 44)) (.cells #[.int .i64 0, .int .i64 0] 25)
  simp only [World.size_alloc] at k1
  have bb := (((Below.refl w.heap.size w).alloc (Nat.le_refl _) (.cells #[.string ⟨#[]⟩, .slice none 0 0, .int .u8 0, .string ⟨#[]⟩, .bool false, .string ⟨#[]⟩, .bool false, .string ⟨#[]⟩, .slice none 0 0] 44)).alloc (by simp) (.cells #[.int .i64 0, .int .i64 0] 25)).trans (b1.mono (by simp; omega))
  have h0 : w1.heap[w.heap.size]? = _ := (b1.block _ (by simp; omega)).trans ((Below.heap_alloc _ _ _ (by simp)).trans k0)
  have h1 : w1.heap[w.heap.size + 1]? = _ := (b1.block _ (by simp)).trans k1
  have l0 := (Array.getElem?_eq_some_iff.1 h0).1
  have l1 := (Array.getElem?_eq_some_iff.1 h1).1
  refine ⟨(bb.alloc bb.size _).alloc (by have := bb.size; simp; omega) _, (Below.heap_alloc _ _ _ (by simp; omega)).trans ((Below.heap_alloc _ _ _ l0).trans h0), (Below.heap_alloc _ _ _ (by simp; omega)).trans ((Below.heap_alloc _ _ _ l1).trans h1), by omega, ?_, ?_, World.ownsRow_nil _ _ _ _, World.ownsRow_nil _ _ _ _⟩
  · exact (Below.heap_alloc _ _ _ (by simp)).trans (World.alloc_heap_new w1 _)
  · have := World.alloc_heap_new (w1.alloc (.cells #[.string u, .int .i64 0, .int .i64 0, .int .i64 0] 80)) (.cells #[.string ⟨#[48]⟩, .slice none 0 0, .int .u8 0, .string ⟨#[]⟩, .bool false, .string ⟨#[]⟩, .bool false, .string ⟨#[]⟩, .slice none 0 0] 44)
    simpa using this

set_option maxRecDepth 1000000 in
set_option maxHeartbeats 4000000 in
theorem RParse_long (s : ByteArray) (w : World) (hl : 64 < s.size) : Calls Tryz.prog 25 #[.string s] w (PPost s.data.toList w) := by
  have hd : decide ((64 : Int) < (s.size : Int)) = true := by simp; omega
  have hd3 : (64 : Int) < (s.size : Int) := by omega
  go_enter Tryz.func25, Tryz.ntmps25
  have e0 : Tryz.f25.body.getD .skip = .seq (stmtAt 0 (Tryz.f25.body.getD .skip)) (.seq (stmtAt 1 (Tryz.f25.body.getD .skip)) (restAt 2 (Tryz.f25.body.getD .skip))) := by kernel_rfl
  change Code.wp Tryz.prog (Tryz.f25.body.getD .skip) _ _ _
  rw [e0]
  go_wp2_with fail
  conv => arg 2; whnf
  go_wp2_with fail
  conv => arg 2; whnf
  go_wp2_with fail
  have j0 := World.alloc_heap_new w (.cells #[.string ⟨#[]⟩, .slice none 0 0, .int .u8 0, .string ⟨#[]⟩, .bool false, .string ⟨#[]⟩, .bool false, .string ⟨#[]⟩, .slice none 0 0] 44)
  have j1 := World.alloc_heap_new (w.alloc (.cells #[.string ⟨#[]⟩, .slice none 0 0, .int .u8 0, .string ⟨#[]⟩, .bool false, .string ⟨#[]⟩, .bool false, .string ⟨#[]⟩, .slice none 0 0] 44)) (.cells #[.int .i64 12, .int .i64 64] 25)
  simp only [World.size_alloc] at j1
  refine fin6 _ _ w.heap.size (w.heap.size + 1) 12 64 ⟨#[]⟩ (.slice none 0 0) 0 ⟨#[]⟩ false ⟨#[]⟩ false ⟨#[]⟩ (.slice none 0 0) ⟨_, _, _, rfl⟩ ⟨_, _, _, rfl⟩ rfl rfl ((Below.heap_alloc _ _ _ (by simp)).trans j0) j1 ?_
  refine ⟨((Below.refl w.heap.size w).alloc (Nat.le_refl _) _).alloc (by simp) _, ?_⟩
  rw [if_pos (by rw [len_data]; exact hl)]
  rfl

end Go.Proofs.YtabmfdedbpmfmaaGreat
