/-
  The order is one in which the region may be gone through.
-/
import Derived.Test.YtmpegkcleajhhaaDoorDwa
import Derived.Test.YtmpegkcleajhhaaDoorDwb
import Derived.Test.YtmpegkcleajhhaaDoorDwc
import Derived.Test.YtmpegkcleajhhaaDoorDwd
namespace Go.Proofs.YtmpegkcleajhhaaDoor.RanksAlgebraP
open Go.RowKit Go.Shelf Go
set_option linter.unusedVariables false
set_option maxRecDepth 100000

theorem ok_run : OkRun (opsAt 3 (Tryd.f5.body.getD .skip)) 174 order [] :=
  .take f0 c0 (.take f1 c1 (.take f2 c2 (.take f3 c3 (.take f4 c4 (.take f5 c5 (.one r6 (.one r7 (.one r8 (.take f9 c9 (.take f10 c10 (.take f11 c11 (.take f12 c12 (.take f13 c13 (.take f14 c14 (.take f15 c15 (.one r16 (.one r17 (.one r18 (.take f19 c19 (.take f20 c20 (.take f21 c21 (.take f22 c22 (.take f23 c23 (.take f24 c24 (.take f25 c25 (.take f26 c26 (.take f27 c27 (.take f28 c28 (.take f29 c29 (.take f30 c30 (.one r31 (.one r32 (.one r33 (.one r34 (.one r35 (.take f36 c36 (.take f37 c37 (.take f38 c38 (.take f39 c39 (.take f40 c40 (.take f41 c41 (.take f42 c42 (.take f43 c43 (.take f44 c44 (.take f45 c45 (.take f46 c46 (.take f47 c47 (.one r48 (.one r49 (.one r50 (.one r51 (.one r52 (.take f53 c53 (.take f54 c54 (.take f55 c55 (.take f56 c56 (.take f57 c57 (.take f58 c58 (.take f59 c59 (.take f60 c60 (.take f61 c61 (.take f62 c62 (.take f63 c63 (.take f64 c64 (.take f65 c65 (.take f66 c66 (.one r67 (.one r68 (.one r69 (.one r70 (.one r71 (.one r72 (.take f73 c73 (.take f74 c74 (.take f75 c75 (.take f76 c76 (.take f77 c77 (.take f78 c78 (.take f79 c79 (.take f80 c80 (.take f81 c81 (.take f82 c82 (.take f83 c83 (.take f84 c84 (.take f85 c85 (.take f86 c86 (.one r87 (.one r88 (.one r89 (.one r90 (.one r91 (.one r92 (.take f93 c93 (.take f94 c94 (.take f95 c95 (.take f96 c96 (.take f97 c97 (.take f98 c98 (.one r99 (.one r100 (.one r101 (.take f102 c102 (.take f103 c103 (.take f104 c104 (.take f105 c105 (.take f106 c106 (.take f107 c107 (.take f108 c108 (.take f109 c109 (.one r110 (.one r111 (.one r112 (.one r113 (.take f114 c114 (.take f115 c115 (.take f116 c116 (.take f117 c117 (.take f118 c118 (.take f119 c119 (.take f120 c120 (.take f121 c121 (.take f122 c122 (.take f123 c123 (.take f124 c124 (.one r125 (.one r126 (.one r127 (.one r128 (.one r129 (.one r130 (.take f131 c131 (.take f132 c132 (.take f133 c133 (.take f134 c134 (.take f135 c135 (.take f136 c136 (.take f137 c137 (.take f138 c138 (.take f139 c139 (.take f140 c140 (.take f141 c141 (.one r142 (.one r143 (.one r144 (.one r145 (.one r146 (.one r147 (.take f148 c148 (.take f149 c149 (.take f150 c150 (.take f151 c151 (.take f152 c152 (.take f153 c153 (.take f154 c154 (.take f155 c155 (.one r156 (.one r157 (.one r158 (.one r159 (.take f160 c160 (.take f161 c161 (.take f162 c162 (.take f163 c163 (.take f164 c164 (.take f165 c165 (.one r166 (.one r167 (.one r168 (.take f169 c169 (.take f170 c170 (.one r171 (.take f172 c172 (.take f173 c173 (.done r174))))))))))))))))))))))))))))))))))))))))))))))))))))))))))))))))))))))))))))))))))))))))))))))))))))))))))))))))))))))))))))))))))))))))))))))))))))))))))))))))))))))))))))))

end Go.Proofs.YtmpegkcleajhhaaDoor.RanksAlgebraP
