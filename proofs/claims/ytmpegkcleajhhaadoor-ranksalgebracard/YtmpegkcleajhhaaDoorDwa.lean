/-
  The order is one in which the region may be gone through, operations 0 to 43.
-/
import Derived.Test.YtmpegkcleajhhaaDoorDwo
namespace Go.Proofs.YtmpegkcleajhhaaDoor.RanksAlgebraP
open Go.RowKit Go.Shelf Go
set_option linter.unusedVariables false
set_option maxRecDepth 100000

theorem f0 : Region.free .any (opsAt 3 (Tryd.f5.body.getD .skip)) (LLr 174 []) 0 = true := by kernel_rfl
theorem c0 : (Region.ready .any (opsAt 3 (Tryd.f5.body.getD .skip)) (LLr 174 [])).contains 0 = true := by kernel_rfl
theorem f1 : Region.free .any (opsAt 3 (Tryd.f5.body.getD .skip)) (LLr 174 [0]) 1 = true := by kernel_rfl
theorem c1 : (Region.ready .any (opsAt 3 (Tryd.f5.body.getD .skip)) (LLr 174 [0])).contains 1 = true := by kernel_rfl
theorem f2 : Region.free .any (opsAt 3 (Tryd.f5.body.getD .skip)) (LLr 174 [1, 0]) 2 = true := by kernel_rfl
theorem c2 : (Region.ready .any (opsAt 3 (Tryd.f5.body.getD .skip)) (LLr 174 [1, 0])).contains 2 = true := by kernel_rfl
theorem f3 : Region.free .any (opsAt 3 (Tryd.f5.body.getD .skip)) (LLr 174 [2, 1, 0]) 4 = true := by kernel_rfl
theorem c3 : (Region.ready .any (opsAt 3 (Tryd.f5.body.getD .skip)) (LLr 174 [2, 1, 0])).contains 4 = true := by kernel_rfl
theorem f4 : Region.free .any (opsAt 3 (Tryd.f5.body.getD .skip)) (LLr 174 [4, 2, 1, 0]) 5 = true := by kernel_rfl
theorem c4 : (Region.ready .any (opsAt 3 (Tryd.f5.body.getD .skip)) (LLr 174 [4, 2, 1, 0])).contains 5 = true := by kernel_rfl
theorem f5 : Region.free .any (opsAt 3 (Tryd.f5.body.getD .skip)) (LLr 174 [5, 4, 2, 1, 0]) 6 = true := by kernel_rfl
theorem c5 : (Region.ready .any (opsAt 3 (Tryd.f5.body.getD .skip)) (LLr 174 [5, 4, 2, 1, 0])).contains 6 = true := by kernel_rfl
theorem r6 : Region.ready .any (opsAt 3 (Tryd.f5.body.getD .skip)) (LLr 174 [6, 5, 4, 2, 1, 0]) = [3] := by kernel_rfl
theorem r7 : Region.ready .any (opsAt 3 (Tryd.f5.body.getD .skip)) (LLr 174 [3, 6, 5, 4, 2, 1, 0]) = [7] := by kernel_rfl
theorem r8 : Region.ready .any (opsAt 3 (Tryd.f5.body.getD .skip)) (LLr 174 [7, 3, 6, 5, 4, 2, 1, 0]) = [8] := by kernel_rfl
theorem f9 : Region.free .any (opsAt 3 (Tryd.f5.body.getD .skip)) (LLr 174 [8, 7, 3, 6, 5, 4, 2, 1, 0]) 9 = true := by kernel_rfl
theorem c9 : (Region.ready .any (opsAt 3 (Tryd.f5.body.getD .skip)) (LLr 174 [8, 7, 3, 6, 5, 4, 2, 1, 0])).contains 9 = true := by kernel_rfl
theorem f10 : Region.free .any (opsAt 3 (Tryd.f5.body.getD .skip)) (LLr 174 [9, 8, 7, 3, 6, 5, 4, 2, 1, 0]) 10 = true := by kernel_rfl
theorem c10 : (Region.ready .any (opsAt 3 (Tryd.f5.body.getD .skip)) (LLr 174 [9, 8, 7, 3, 6, 5, 4, 2, 1, 0])).contains 10 = true := by kernel_rfl
theorem f11 : Region.free .any (opsAt 3 (Tryd.f5.body.getD .skip)) (LLr 174 [10, 9, 8, 7, 3, 6, 5, 4, 2, 1, 0]) 11 = true := by kernel_rfl
theorem c11 : (Region.ready .any (opsAt 3 (Tryd.f5.body.getD .skip)) (LLr 174 [10, 9, 8, 7, 3, 6, 5, 4, 2, 1, 0])).contains 11 = true := by kernel_rfl
theorem f12 : Region.free .any (opsAt 3 (Tryd.f5.body.getD .skip)) (LLr 174 [11, 10, 9, 8, 7, 3, 6, 5, 4, 2, 1, 0]) 12 = true := by kernel_rfl
theorem c12 : (Region.ready .any (opsAt 3 (Tryd.f5.body.getD .skip)) (LLr 174 [11, 10, 9, 8, 7, 3, 6, 5, 4, 2, 1, 0])).contains 12 = true := by kernel_rfl
theorem f13 : Region.free .any (opsAt 3 (Tryd.f5.body.getD .skip)) (LLr 174 [12, 11, 10, 9, 8, 7, 3, 6, 5, 4, 2, 1, 0]) 14 = true := by kernel_rfl
theorem c13 : (Region.ready .any (opsAt 3 (Tryd.f5.body.getD .skip)) (LLr 174 [12, 11, 10, 9, 8, 7, 3, 6, 5, 4, 2, 1, 0])).contains 14 = true := by kernel_rfl
theorem f14 : Region.free .any (opsAt 3 (Tryd.f5.body.getD .skip)) (LLr 174 [14, 12, 11, 10, 9, 8, 7, 3, 6, 5, 4, 2, 1, 0]) 15 = true := by kernel_rfl
theorem c14 : (Region.ready .any (opsAt 3 (Tryd.f5.body.getD .skip)) (LLr 174 [14, 12, 11, 10, 9, 8, 7, 3, 6, 5, 4, 2, 1, 0])).contains 15 = true := by kernel_rfl
theorem f15 : Region.free .any (opsAt 3 (Tryd.f5.body.getD .skip)) (LLr 174 [15, 14, 12, 11, 10, 9, 8, 7, 3, 6, 5, 4, 2, 1, 0]) 16 = true := by kernel_rfl
theorem c15 : (Region.ready .any (opsAt 3 (Tryd.f5.body.getD .skip)) (LLr 174 [15, 14, 12, 11, 10, 9, 8, 7, 3, 6, 5, 4, 2, 1, 0])).contains 16 = true := by kernel_rfl
theorem r16 : Region.ready .any (opsAt 3 (Tryd.f5.body.getD .skip)) (LLr 174 [16, 15, 14, 12, 11, 10, 9, 8, 7, 3, 6, 5, 4, 2, 1, 0]) = [13] := by kernel_rfl
theorem r17 : Region.ready .any (opsAt 3 (Tryd.f5.body.getD .skip)) (LLr 174 [13, 16, 15, 14, 12, 11, 10, 9, 8, 7, 3, 6, 5, 4, 2, 1, 0]) = [17] := by kernel_rfl
theorem r18 : Region.ready .any (opsAt 3 (Tryd.f5.body.getD .skip)) (LLr 174 [17, 13, 16, 15, 14, 12, 11, 10, 9, 8, 7, 3, 6, 5, 4, 2, 1, 0]) = [18] := by kernel_rfl
theorem f19 : Region.free .any (opsAt 3 (Tryd.f5.body.getD .skip)) (LLr 174 [18, 17, 13, 16, 15, 14, 12, 11, 10, 9, 8, 7, 3, 6, 5, 4, 2, 1, 0]) 19 = true := by kernel_rfl
theorem c19 : (Region.ready .any (opsAt 3 (Tryd.f5.body.getD .skip)) (LLr 174 [18, 17, 13, 16, 15, 14, 12, 11, 10, 9, 8, 7, 3, 6, 5, 4, 2, 1, 0])).contains 19 = true := by kernel_rfl
theorem f20 : Region.free .any (opsAt 3 (Tryd.f5.body.getD .skip)) (LLr 174 [19, 18, 17, 13, 16, 15, 14, 12, 11, 10, 9, 8, 7, 3, 6, 5, 4, 2, 1, 0]) 20 = true := by kernel_rfl
theorem c20 : (Region.ready .any (opsAt 3 (Tryd.f5.body.getD .skip)) (LLr 174 [19, 18, 17, 13, 16, 15, 14, 12, 11, 10, 9, 8, 7, 3, 6, 5, 4, 2, 1, 0])).contains 20 = true := by kernel_rfl
theorem f21 : Region.free .any (opsAt 3 (Tryd.f5.body.getD .skip)) (LLr 174 [20, 19, 18, 17, 13, 16, 15, 14, 12, 11, 10, 9, 8, 7, 3, 6, 5, 4, 2, 1, 0]) 21 = true := by kernel_rfl
theorem c21 : (Region.ready .any (opsAt 3 (Tryd.f5.body.getD .skip)) (LLr 174 [20, 19, 18, 17, 13, 16, 15, 14, 12, 11, 10, 9, 8, 7, 3, 6, 5, 4, 2, 1, 0])).contains 21 = true := by kernel_rfl
theorem f22 : Region.free .any (opsAt 3 (Tryd.f5.body.getD .skip)) (LLr 174 [21, 20, 19, 18, 17, 13, 16, 15, 14, 12, 11, 10, 9, 8, 7, 3, 6, 5, 4, 2, 1, 0]) 22 = true := by kernel_rfl
theorem c22 : (Region.ready .any (opsAt 3 (Tryd.f5.body.getD .skip)) (LLr 174 [21, 20, 19, 18, 17, 13, 16, 15, 14, 12, 11, 10, 9, 8, 7, 3, 6, 5, 4, 2, 1, 0])).contains 22 = true := by kernel_rfl
theorem f23 : Region.free .any (opsAt 3 (Tryd.f5.body.getD .skip)) (LLr 174 [22, 21, 20, 19, 18, 17, 13, 16, 15, 14, 12, 11, 10, 9, 8, 7, 3, 6, 5, 4, 2, 1, 0]) 23 = true := by kernel_rfl
theorem c23 : (Region.ready .any (opsAt 3 (Tryd.f5.body.getD .skip)) (LLr 174 [22, 21, 20, 19, 18, 17, 13, 16, 15, 14, 12, 11, 10, 9, 8, 7, 3, 6, 5, 4, 2, 1, 0])).contains 23 = true := by kernel_rfl
theorem f24 : Region.free .any (opsAt 3 (Tryd.f5.body.getD .skip)) (LLr 174 [23, 22, 21, 20, 19, 18, 17, 13, 16, 15, 14, 12, 11, 10, 9, 8, 7, 3, 6, 5, 4, 2, 1, 0]) 24 = true := by kernel_rfl
theorem c24 : (Region.ready .any (opsAt 3 (Tryd.f5.body.getD .skip)) (LLr 174 [23, 22, 21, 20, 19, 18, 17, 13, 16, 15, 14, 12, 11, 10, 9, 8, 7, 3, 6, 5, 4, 2, 1, 0])).contains 24 = true := by kernel_rfl
theorem f25 : Region.free .any (opsAt 3 (Tryd.f5.body.getD .skip)) (LLr 174 [24, 23, 22, 21, 20, 19, 18, 17, 13, 16, 15, 14, 12, 11, 10, 9, 8, 7, 3, 6, 5, 4, 2, 1, 0]) 25 = true := by kernel_rfl
theorem c25 : (Region.ready .any (opsAt 3 (Tryd.f5.body.getD .skip)) (LLr 174 [24, 23, 22, 21, 20, 19, 18, 17, 13, 16, 15, 14, 12, 11, 10, 9, 8, 7, 3, 6, 5, 4, 2, 1, 0])).contains 25 = true := by kernel_rfl
theorem f26 : Region.free .any (opsAt 3 (Tryd.f5.body.getD .skip)) (LLr 174 [25, 24, 23, 22, 21, 20, 19, 18, 17, 13, 16, 15, 14, 12, 11, 10, 9, 8, 7, 3, 6, 5, 4, 2, 1, 0]) 28 = true := by kernel_rfl
theorem c26 : (Region.ready .any (opsAt 3 (Tryd.f5.body.getD .skip)) (LLr 174 [25, 24, 23, 22, 21, 20, 19, 18, 17, 13, 16, 15, 14, 12, 11, 10, 9, 8, 7, 3, 6, 5, 4, 2, 1, 0])).contains 28 = true := by kernel_rfl
theorem f27 : Region.free .any (opsAt 3 (Tryd.f5.body.getD .skip)) (LLr 174 [28, 25, 24, 23, 22, 21, 20, 19, 18, 17, 13, 16, 15, 14, 12, 11, 10, 9, 8, 7, 3, 6, 5, 4, 2, 1, 0]) 29 = true := by kernel_rfl
theorem c27 : (Region.ready .any (opsAt 3 (Tryd.f5.body.getD .skip)) (LLr 174 [28, 25, 24, 23, 22, 21, 20, 19, 18, 17, 13, 16, 15, 14, 12, 11, 10, 9, 8, 7, 3, 6, 5, 4, 2, 1, 0])).contains 29 = true := by kernel_rfl
theorem f28 : Region.free .any (opsAt 3 (Tryd.f5.body.getD .skip)) (LLr 174 [29, 28, 25, 24, 23, 22, 21, 20, 19, 18, 17, 13, 16, 15, 14, 12, 11, 10, 9, 8, 7, 3, 6, 5, 4, 2, 1, 0]) 30 = true := by kernel_rfl
theorem c28 : (Region.ready .any (opsAt 3 (Tryd.f5.body.getD .skip)) (LLr 174 [29, 28, 25, 24, 23, 22, 21, 20, 19, 18, 17, 13, 16, 15, 14, 12, 11, 10, 9, 8, 7, 3, 6, 5, 4, 2, 1, 0])).contains 30 = true := by kernel_rfl
theorem f29 : Region.free .any (opsAt 3 (Tryd.f5.body.getD .skip)) (LLr 174 [30, 29, 28, 25, 24, 23, 22, 21, 20, 19, 18, 17, 13, 16, 15, 14, 12, 11, 10, 9, 8, 7, 3, 6, 5, 4, 2, 1, 0]) 31 = true := by kernel_rfl
theorem c29 : (Region.ready .any (opsAt 3 (Tryd.f5.body.getD .skip)) (LLr 174 [30, 29, 28, 25, 24, 23, 22, 21, 20, 19, 18, 17, 13, 16, 15, 14, 12, 11, 10, 9, 8, 7, 3, 6, 5, 4, 2, 1, 0])).contains 31 = true := by kernel_rfl
theorem f30 : Region.free .any (opsAt 3 (Tryd.f5.body.getD .skip)) (LLr 174 [31, 30, 29, 28, 25, 24, 23, 22, 21, 20, 19, 18, 17, 13, 16, 15, 14, 12, 11, 10, 9, 8, 7, 3, 6, 5, 4, 2, 1, 0]) 33 = true := by kernel_rfl
theorem c30 : (Region.ready .any (opsAt 3 (Tryd.f5.body.getD .skip)) (LLr 174 [31, 30, 29, 28, 25, 24, 23, 22, 21, 20, 19, 18, 17, 13, 16, 15, 14, 12, 11, 10, 9, 8, 7, 3, 6, 5, 4, 2, 1, 0])).contains 33 = true := by kernel_rfl
theorem r31 : Region.ready .any (opsAt 3 (Tryd.f5.body.getD .skip)) (LLr 174 [33, 31, 30, 29, 28, 25, 24, 23, 22, 21, 20, 19, 18, 17, 13, 16, 15, 14, 12, 11, 10, 9, 8, 7, 3, 6, 5, 4, 2, 1, 0]) = [26] := by kernel_rfl
theorem r32 : Region.ready .any (opsAt 3 (Tryd.f5.body.getD .skip)) (LLr 174 [26, 33, 31, 30, 29, 28, 25, 24, 23, 22, 21, 20, 19, 18, 17, 13, 16, 15, 14, 12, 11, 10, 9, 8, 7, 3, 6, 5, 4, 2, 1, 0]) = [27] := by kernel_rfl
theorem r33 : Region.ready .any (opsAt 3 (Tryd.f5.body.getD .skip)) (LLr 174 [27, 26, 33, 31, 30, 29, 28, 25, 24, 23, 22, 21, 20, 19, 18, 17, 13, 16, 15, 14, 12, 11, 10, 9, 8, 7, 3, 6, 5, 4, 2, 1, 0]) = [32] := by kernel_rfl
theorem r34 : Region.ready .any (opsAt 3 (Tryd.f5.body.getD .skip)) (LLr 174 [32, 27, 26, 33, 31, 30, 29, 28, 25, 24, 23, 22, 21, 20, 19, 18, 17, 13, 16, 15, 14, 12, 11, 10, 9, 8, 7, 3, 6, 5, 4, 2, 1, 0]) = [34] := by kernel_rfl
theorem r35 : Region.ready .any (opsAt 3 (Tryd.f5.body.getD .skip)) (LLr 174 [34, 32, 27, 26, 33, 31, 30, 29, 28, 25, 24, 23, 22, 21, 20, 19, 18, 17, 13, 16, 15, 14, 12, 11, 10, 9, 8, 7, 3, 6, 5, 4, 2, 1, 0]) = [35] := by kernel_rfl
theorem f36 : Region.free .any (opsAt 3 (Tryd.f5.body.getD .skip)) (LLr 174 [35, 34, 32, 27, 26, 33, 31, 30, 29, 28, 25, 24, 23, 22, 21, 20, 19, 18, 17, 13, 16, 15, 14, 12, 11, 10, 9, 8, 7, 3, 6, 5, 4, 2, 1, 0]) 36 = true := by kernel_rfl
theorem c36 : (Region.ready .any (opsAt 3 (Tryd.f5.body.getD .skip)) (LLr 174 [35, 34, 32, 27, 26, 33, 31, 30, 29, 28, 25, 24, 23, 22, 21, 20, 19, 18, 17, 13, 16, 15, 14, 12, 11, 10, 9, 8, 7, 3, 6, 5, 4, 2, 1, 0])).contains 36 = true := by kernel_rfl
theorem f37 : Region.free .any (opsAt 3 (Tryd.f5.body.getD .skip)) (LLr 174 [36, 35, 34, 32, 27, 26, 33, 31, 30, 29, 28, 25, 24, 23, 22, 21, 20, 19, 18, 17, 13, 16, 15, 14, 12, 11, 10, 9, 8, 7, 3, 6, 5, 4, 2, 1, 0]) 37 = true := by kernel_rfl
theorem c37 : (Region.ready .any (opsAt 3 (Tryd.f5.body.getD .skip)) (LLr 174 [36, 35, 34, 32, 27, 26, 33, 31, 30, 29, 28, 25, 24, 23, 22, 21, 20, 19, 18, 17, 13, 16, 15, 14, 12, 11, 10, 9, 8, 7, 3, 6, 5, 4, 2, 1, 0])).contains 37 = true := by kernel_rfl
theorem f38 : Region.free .any (opsAt 3 (Tryd.f5.body.getD .skip)) (LLr 174 [37, 36, 35, 34, 32, 27, 26, 33, 31, 30, 29, 28, 25, 24, 23, 22, 21, 20, 19, 18, 17, 13, 16, 15, 14, 12, 11, 10, 9, 8, 7, 3, 6, 5, 4, 2, 1, 0]) 38 = true := by kernel_rfl
theorem c38 : (Region.ready .any (opsAt 3 (Tryd.f5.body.getD .skip)) (LLr 174 [37, 36, 35, 34, 32, 27, 26, 33, 31, 30, 29, 28, 25, 24, 23, 22, 21, 20, 19, 18, 17, 13, 16, 15, 14, 12, 11, 10, 9, 8, 7, 3, 6, 5, 4, 2, 1, 0])).contains 38 = true := by kernel_rfl
theorem f39 : Region.free .any (opsAt 3 (Tryd.f5.body.getD .skip)) (LLr 174 [38, 37, 36, 35, 34, 32, 27, 26, 33, 31, 30, 29, 28, 25, 24, 23, 22, 21, 20, 19, 18, 17, 13, 16, 15, 14, 12, 11, 10, 9, 8, 7, 3, 6, 5, 4, 2, 1, 0]) 39 = true := by kernel_rfl
theorem c39 : (Region.ready .any (opsAt 3 (Tryd.f5.body.getD .skip)) (LLr 174 [38, 37, 36, 35, 34, 32, 27, 26, 33, 31, 30, 29, 28, 25, 24, 23, 22, 21, 20, 19, 18, 17, 13, 16, 15, 14, 12, 11, 10, 9, 8, 7, 3, 6, 5, 4, 2, 1, 0])).contains 39 = true := by kernel_rfl
theorem f40 : Region.free .any (opsAt 3 (Tryd.f5.body.getD .skip)) (LLr 174 [39, 38, 37, 36, 35, 34, 32, 27, 26, 33, 31, 30, 29, 28, 25, 24, 23, 22, 21, 20, 19, 18, 17, 13, 16, 15, 14, 12, 11, 10, 9, 8, 7, 3, 6, 5, 4, 2, 1, 0]) 40 = true := by kernel_rfl
theorem c40 : (Region.ready .any (opsAt 3 (Tryd.f5.body.getD .skip)) (LLr 174 [39, 38, 37, 36, 35, 34, 32, 27, 26, 33, 31, 30, 29, 28, 25, 24, 23, 22, 21, 20, 19, 18, 17, 13, 16, 15, 14, 12, 11, 10, 9, 8, 7, 3, 6, 5, 4, 2, 1, 0])).contains 40 = true := by kernel_rfl
theorem f41 : Region.free .any (opsAt 3 (Tryd.f5.body.getD .skip)) (LLr 174 [40, 39, 38, 37, 36, 35, 34, 32, 27, 26, 33, 31, 30, 29, 28, 25, 24, 23, 22, 21, 20, 19, 18, 17, 13, 16, 15, 14, 12, 11, 10, 9, 8, 7, 3, 6, 5, 4, 2, 1, 0]) 41 = true := by kernel_rfl
theorem c41 : (Region.ready .any (opsAt 3 (Tryd.f5.body.getD .skip)) (LLr 174 [40, 39, 38, 37, 36, 35, 34, 32, 27, 26, 33, 31, 30, 29, 28, 25, 24, 23, 22, 21, 20, 19, 18, 17, 13, 16, 15, 14, 12, 11, 10, 9, 8, 7, 3, 6, 5, 4, 2, 1, 0])).contains 41 = true := by kernel_rfl
theorem f42 : Region.free .any (opsAt 3 (Tryd.f5.body.getD .skip)) (LLr 174 [41, 40, 39, 38, 37, 36, 35, 34, 32, 27, 26, 33, 31, 30, 29, 28, 25, 24, 23, 22, 21, 20, 19, 18, 17, 13, 16, 15, 14, 12, 11, 10, 9, 8, 7, 3, 6, 5, 4, 2, 1, 0]) 42 = true := by kernel_rfl
theorem c42 : (Region.ready .any (opsAt 3 (Tryd.f5.body.getD .skip)) (LLr 174 [41, 40, 39, 38, 37, 36, 35, 34, 32, 27, 26, 33, 31, 30, 29, 28, 25, 24, 23, 22, 21, 20, 19, 18, 17, 13, 16, 15, 14, 12, 11, 10, 9, 8, 7, 3, 6, 5, 4, 2, 1, 0])).contains 42 = true := by kernel_rfl
theorem f43 : Region.free .any (opsAt 3 (Tryd.f5.body.getD .skip)) (LLr 174 [42, 41, 40, 39, 38, 37, 36, 35, 34, 32, 27, 26, 33, 31, 30, 29, 28, 25, 24, 23, 22, 21, 20, 19, 18, 17, 13, 16, 15, 14, 12, 11, 10, 9, 8, 7, 3, 6, 5, 4, 2, 1, 0]) 45 = true := by kernel_rfl
theorem c43 : (Region.ready .any (opsAt 3 (Tryd.f5.body.getD .skip)) (LLr 174 [42, 41, 40, 39, 38, 37, 36, 35, 34, 32, 27, 26, 33, 31, 30, 29, 28, 25, 24, 23, 22, 21, 20, 19, 18, 17, 13, 16, 15, 14, 12, 11, 10, 9, 8, 7, 3, 6, 5, 4, 2, 1, 0])).contains 45 = true := by kernel_rfl

end Go.Proofs.YtmpegkcleajhhaaDoor.RanksAlgebraP
